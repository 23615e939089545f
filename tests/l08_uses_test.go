package tests

import (
	"math/rand"
	"slices"
	"strconv"
	"strings"
	"testing"

	"loop.example/g00963/impl"
)

// firstTerm returns the term at the beginning of s, which begins with one.
func firstTerm(s string) string {
	at := 0
	for due := 1; due > 0; {
		switch s[at] {
		case '@', 'l', 'p':
			due++
			at++
		case 't':
			due += 2
			at++
		default:
			leaf, _ := leafOf(s[at:])
			due--
			at += len(leaf.text)
		}
	}
	return s[:at]
}

// wantHeadAndArgs is an independent description of HeadOf and ArgsOf: as many terms follow the first bytes @ as there are, and one more.
func wantHeadAndArgs(s string) (string, []string) {
	rest := strings.TrimLeft(s, "@")
	head := firstTerm(rest)
	args := []string{}
	for rest = rest[len(head):]; rest != ""; rest = rest[len(args[len(args)-1]):] {
		args = append(args, firstTerm(rest))
	}
	return head, args
}

// wantDomainsAndTarget is an independent description of Domains and Target.
func wantDomainsAndTarget(s string) ([]string, string) {
	domains := []string{}
	for s[0] == 'p' {
		domain := firstTerm(s[1:])
		domains = append(domains, domain)
		s = s[1+len(domain):]
	}
	return domains, s
}

// wantUses is an independent description of UsesIn.
func wantUses(s string) []string {
	found := map[string]bool{}
	for _, at := range spotsOf(s) {
		if at.leaf.name != "" {
			found[at.leaf.name] = true
		}
	}
	names := []string{}
	for name := range found {
		names = append(names, name)
	}
	slices.Sort(names)
	return names
}

// checkList checks a list that was returned for s.
func checkList(t *testing.T, call string, s string, got []string, want []string) {
	t.Helper()
	if !slices.Equal(got, want) {
		t.Errorf("%s(%.300q) = %.300q, want %.300q", call, s, got, want)
	}
	for _, result := range got {
		checkNewString(t, result, s)
	}
}

func checkUses(t *testing.T, s string, want []string) {
	t.Helper()
	checkList(t, "UsesIn", s, impl.UsesIn(s), want)
	for _, name := range want {
		if !impl.HasName(s, name) {
			t.Errorf("HasName(%.300q, %q) = false", s, name)
		}
	}
}

func checkHeadAndArgs(t *testing.T, s string, head string, args []string) {
	t.Helper()
	checkResult(t, "HeadOf", impl.HeadOf(s), head != "", head, s)
	checkList(t, "ArgsOf", s, impl.ArgsOf(s), args)
}

func checkDomainsAndTarget(t *testing.T, s string, domains []string, target string) {
	t.Helper()
	checkList(t, "Domains", s, impl.Domains(s), domains)
	checkResult(t, "Target", impl.Target(s), target != "", target, s)
}

func checkGiven(t *testing.T, head string, args []string, want string) {
	t.Helper()
	kept := slices.Clone(args)
	got, ok := impl.Given(head, args)
	checkResult(t, "Given", got, ok, want, append([]string{head}, args...)...)
	if !slices.Equal(args, kept) {
		t.Errorf("Given changed its arguments %.200q to %.200q", kept, args)
	}
}

func checkArrows(t *testing.T, domains []string, target string, want string) {
	t.Helper()
	kept := slices.Clone(domains)
	got, ok := impl.Arrows(domains, target)
	checkResult(t, "Arrows", got, ok, want, append([]string{target}, domains...)...)
	if !slices.Equal(domains, kept) {
		t.Errorf("Arrows changed its domains %.200q to %.200q", kept, domains)
	}
}

// checkApart checks all functions for a term, of which the test itself finds out the results.
func checkApart(t *testing.T, s string) {
	t.Helper()
	checkUses(t, s, wantUses(s))
	head, args := wantHeadAndArgs(s)
	checkHeadAndArgs(t, s, head, args)
	checkGiven(t, head, args, s)
	domains, target := wantDomainsAndTarget(s)
	checkDomainsAndTarget(t, s, domains, target)
	checkArrows(t, domains, target, s)
}

// checkNotApart checks all functions for a text that is no term.
func checkNotApart(t *testing.T, s string) {
	t.Helper()
	checkUses(t, s, nil)
	for _, name := range []string{"a", "nat", "nat.rec", "", s} {
		if impl.HasName(s, name) {
			t.Errorf("HasName(%.100q, %.100q) = true", s, name)
		}
	}
	checkHeadAndArgs(t, s, "", nil)
	checkDomainsAndTarget(t, s, nil, "")
	for _, list := range [][]string{nil, {}, {"v0."}, {"sz.", "ca;."}, {s}, {s, "v0."}} {
		checkGiven(t, s, list, "")
		checkArrows(t, list, s, "")
	}
	for _, list := range [][]string{{s}, {s, "v0."}, {"v0.", s}, {s, s}, {"v0.", s, "v1."}} {
		checkGiven(t, "v0.", list, "")
		checkArrows(t, list, "v0.", "")
	}
}

func TestUsesInFigures(t *testing.T) {
	figures := []struct {
		text  string
		names []string
	}{
		// Without a constant.
		{"v0.", nil}, {"v999.", nil}, {"sz.", nil}, {"smu0+u1.", nil}, {"@v0.sz.", nil}, {"lsz.v0.", nil}, {"psz.psz.v1.", nil}, {"tsz.v0.@v0.v1.", nil},
		// One constant.
		{"ca;.", []string{"a"}}, {"cnat;.", []string{"nat"}}, {"cnat.rec;+z,.", []string{"nat.rec"}}, {"ca.b.c.d.e;u0,u1,u2,.", []string{"a.b.c.d.e"}}, {"cv0.sz;z,.", []string{"v0.sz"}}, {"cca;.", []string{"ca"}}, {"cz;.", []string{"z"}}, {"cu0;u1,.", []string{"u0"}}, {"c" + strings.Repeat("a", 40) + ";.", []string{strings.Repeat("a", 40)}},
		// The same constant several times, with the same levels and with others.
		{"@ca;.ca;.", []string{"a"}}, {"@ca;u0,.ca;u0,.", []string{"a"}}, {"@ca;z,.ca;u0,.", []string{"a"}}, {"tca;.ca;z,.ca;z,u1,.", []string{"a"}}, {"@@ca;.cb;.@cb;.ca;.", []string{"a", "b"}}, {"lca;.pca;.@ca;z,.ca;.", []string{"a"}}, {"@cb;.@ca;.cb;.", []string{"a", "b"}},
		// In ascending order, wherever they are.
		{"@ca;.cb;.", []string{"a", "b"}}, {"@cb;.ca;.", []string{"a", "b"}}, {"@cc;.@cb;.ca;.", []string{"a", "b", "c"}}, {"tcc;.ca;.cb;.", []string{"a", "b", "c"}}, {"tcb;.cc;.ca;.", []string{"a", "b", "c"}}, {"lcz;.pcy;.@cx;.tcw;.cv;.cu;.", []string{"u", "v", "w", "x", "y", "z"}},
		{"@ca.b;.@ca0;.@caa;.ca;.", []string{"a", "a.b", "a0", "aa"}}, {"@cnat.zero;.@cnat.succ;.@cnat.rec;z,.cnat;.", []string{"nat", "nat.rec", "nat.succ", "nat.zero"}}, {"@cb10;.@cb9;.@cb1;.cb;.", []string{"b", "b1", "b10", "b9"}}, {"@caz.a;.caaa;.", []string{"aaa", "az.a"}},
		{"@ca;.@v0.@sz.lcb;.v0.", []string{"a", "b"}},
		// No terms.
		{"", nil}, {"a", nil}, {"ca", nil}, {"ca;", nil}, {"ca.", nil}, {"cA;.", nil}, {"ca;.cb;.", nil}, {"@ca;.", nil}, {"@ca;.cb;", nil}, {"lca;.v1000.", nil}, {"ca;. ", nil}, {"@ca;.cb;z.", nil}, {"ca;z,z,z,z,.", nil}, {"@ca;.su3.", nil},
	}
	for _, f := range figures {
		checkUses(t, f.text, f.names)
	}
}

// TestUsesInEachPart puts constants into every part of terms of every kind.
func TestUsesInEachPart(t *testing.T) {
	everyPlace(4, func(before string, after string, _ int) {
		checkUses(t, before+"v0."+after, nil)
		checkUses(t, before+"cnat.succ;."+after, []string{"nat.succ"})
		checkUses(t, before+"cb;u0,z,."+after, []string{"b"})
		checkUses(t, before+"@cb;.ca;z,."+after, []string{"a", "b"})
	})
	for _, whole := range []string{"@cb;.ca;.", "lcb;.ca;.", "pcb;.ca;.", "tcb;.ca;.cb;.", "tca;.ca;.cb;.", "tcb;.ca;.ca;."} {
		checkUses(t, whole, []string{"a", "b"})
		checkUses(t, "@cc;."+whole, []string{"a", "b", "c"})
		checkUses(t, "t"+whole+"c0;."+whole, nil)
		checkUses(t, "t"+whole+"ca0;."+whole, []string{"a", "a0", "b"})
	}
}

func TestUsesInManyConstants(t *testing.T) {
	text, names := "sz.", []string{}
	for k := range 249 {
		// 100 and 249 have no common divisor: each name occurs once, in no order.
		name := "a" + strconv.Itoa((k*100)%249+100)
		text = "@c" + name + ";." + text
		names = append(names, name)
	}
	slices.Sort(names)
	checkUses(t, text, names)
	// The term with one more constant has exactly 2000 bytes.
	checkUses(t, "@cb;."+text, append(names, "b"))
	checkUses(t, "@cb0;."+text, nil)
	checkUses(t, strings.Repeat("@ca;.", 399)+"ca;.", []string{"a"})
	checkUses(t, strings.Repeat("@ca;.", 400)+"ca;.", nil)
}

func TestHeadAndArgsFigures(t *testing.T) {
	figures := []struct {
		text string
		head string
		args []string
	}{
		{"@v0.v1.", "v0.", []string{"v1."}}, {"@ca;z,.sz.", "ca;z,.", []string{"sz."}},
		// An application of an application.
		{"@@v0.sz.v1.", "v0.", []string{"sz.", "v1."}}, {"@@@v0.v1.v2.v3.", "v0.", []string{"v1.", "v2.", "v3."}}, {"@@ca;.ca;.ca;.", "ca;.", []string{"ca;.", "ca;."}}, {"@@lsz.v0.v1.v2.", "lsz.v0.", []string{"v1.", "v2."}}, {"@@tsz.v0.v1.v2.v3.", "tsz.v0.v1.", []string{"v2.", "v3."}},
		// An application whose second part is an application.
		{"@v0.@v1.v2.", "v0.", []string{"@v1.v2."}}, {"@v0.@v1.@v2.v3.", "v0.", []string{"@v1.@v2.v3."}}, {"@v0.@@v1.v2.v3.", "v0.", []string{"@@v1.v2.v3."}}, {"@@v0.v1.@v2.v3.", "v0.", []string{"v1.", "@v2.v3."}}, {"@@v0.@v1.v2.v3.", "v0.", []string{"@v1.v2.", "v3."}}, {"@@v0.@v1.v2.@v3.v4.", "v0.", []string{"@v1.v2.", "@v3.v4."}},
		{"@lsz.@v0.v1.v2.", "lsz.@v0.v1.", []string{"v2."}}, {"@lsz.@v0.v1.@v2.v3.", "lsz.@v0.v1.", []string{"@v2.v3."}}, {"@psz.v0.v1.", "psz.v0.", []string{"v1."}}, {"@cnat.succ;.@cnat.succ;.cnat.zero;.", "cnat.succ;.", []string{"@cnat.succ;.cnat.zero;."}},
		// A term of each other kind is its own head.
		{"v0.", "v0.", nil}, {"v999.", "v999.", nil}, {"sz.", "sz.", nil}, {"smu0u1.", "smu0u1.", nil}, {"ca;.", "ca;.", nil}, {"ca.b;z,u0,.", "ca.b;z,u0,.", nil},
		{"lsz.v0.", "lsz.v0.", nil}, {"lsz.@v0.v1.", "lsz.@v0.v1.", nil}, {"l@v0.v1.v2.", "l@v0.v1.v2.", nil}, {"psz.v0.", "psz.v0.", nil}, {"psz.@v0.v1.", "psz.@v0.v1.", nil}, {"p@v0.v1.@v2.v3.", "p@v0.v1.@v2.v3.", nil}, {"tsz.v0.v1.", "tsz.v0.v1.", nil}, {"tsz.v0.@v0.v1.", "tsz.v0.@v0.v1.", nil}, {"t@v0.v1.@v0.v1.@v0.v1.", "t@v0.v1.@v0.v1.@v0.v1.", nil},
		// No terms.
		{"", "", nil}, {"@", "", nil}, {"@v0.", "", nil}, {"@v0.v1.v2.", "", nil}, {"@@v0.v1.", "", nil}, {"v0.v1.", "", nil}, {"@v0.v1000.", "", nil}, {"@v01.v0.", "", nil}, {"@v0.v1. ", "", nil}, {" @v0.v1.", "", nil}, {"@su3.v0.", "", nil},
	}
	for _, f := range figures {
		checkHeadAndArgs(t, f.text, f.head, f.args)
		if f.head != "" {
			checkGiven(t, f.head, f.args, f.text)
			checkApart(t, f.text)
		}
	}
}

func TestDomainsAndTargetFigures(t *testing.T) {
	figures := []struct {
		text    string
		domains []string
		target  string
	}{
		{"psz.v0.", []string{"sz."}, "v0."}, {"pca;.cb;z,.", []string{"ca;."}, "cb;z,."},
		// A function type in the second part of a function type.
		{"psz.pv0.v1.", []string{"sz.", "v0."}, "v1."}, {"psz.pv0.pv1.v2.", []string{"sz.", "v0.", "v1."}, "v2."}, {"psz.psz.psz.psz.sz.", []string{"sz.", "sz.", "sz.", "sz."}, "sz."}, {"psz.pv0.lsz.v1.", []string{"sz.", "v0."}, "lsz.v1."},
		// A function type in the first part of one.
		{"ppsz.v0.v1.", []string{"psz.v0."}, "v1."}, {"pppsz.v0.v1.v2.", []string{"ppsz.v0.v1."}, "v2."}, {"ppsz.pv0.v1.v2.", []string{"psz.pv0.v1."}, "v2."}, {"psz.ppv0.v1.v2.", []string{"sz.", "pv0.v1."}, "v2."}, {"ppsz.v0.psz.v1.", []string{"psz.v0.", "sz."}, "v1."}, {"ppsz.v0.ppsz.v1.psz.v2.", []string{"psz.v0.", "psz.v1.", "sz."}, "v2."},
		// A term of each other kind is its own target.
		{"v0.", nil, "v0."}, {"v999.", nil, "v999."}, {"sz.", nil, "sz."}, {"s+u2.", nil, "s+u2."}, {"ca;.", nil, "ca;."}, {"cp;z,.", nil, "cp;z,."}, {"@v0.v1.", nil, "@v0.v1."}, {"@psz.v0.v1.", nil, "@psz.v0.v1."}, {"@v0.psz.v0.", nil, "@v0.psz.v0."}, {"lsz.v0.", nil, "lsz.v0."}, {"lsz.psz.v0.", nil, "lsz.psz.v0."}, {"lpsz.v0.v1.", nil, "lpsz.v0.v1."}, {"tsz.v0.v1.", nil, "tsz.v0.v1."}, {"tsz.v0.psz.v1.", nil, "tsz.v0.psz.v1."}, {"tpsz.v0.v0.psz.v1.", nil, "tpsz.v0.v0.psz.v1."},
		{"psz.@v0.v1.", []string{"sz."}, "@v0.v1."}, {"psz.@psz.v0.v1.", []string{"sz."}, "@psz.v0.v1."}, {"p@v0.v1.v2.", []string{"@v0.v1."}, "v2."}, {"psz.lsz.psz.v0.", []string{"sz."}, "lsz.psz.v0."}, {"plsz.v0.v1.", []string{"lsz.v0."}, "v1."}, {"ptsz.v0.v1.tsz.v0.v1.", []string{"tsz.v0.v1."}, "tsz.v0.v1."},
		// No terms.
		{"", nil, ""}, {"p", nil, ""}, {"psz.", nil, ""}, {"psz.v0.v1.", nil, ""}, {"ppsz.v0.", nil, ""}, {"psz.v1000.", nil, ""}, {"psu3.v0.", nil, ""}, {"psz.v0. ", nil, ""}, {" psz.v0.", nil, ""}, {"Psz.v0.", nil, ""}, {"psz.psz.v0", nil, ""},
	}
	for _, f := range figures {
		checkDomainsAndTarget(t, f.text, f.domains, f.target)
		if f.target != "" {
			checkArrows(t, f.domains, f.target, f.text)
			checkApart(t, f.text)
		}
	}
}

func TestGivenFigures(t *testing.T) {
	figures := []struct {
		head string
		args []string
		want string
	}{
		{"v0.", nil, "v0."}, {"v0.", []string{}, "v0."}, {"@v0.v1.", nil, "@v0.v1."}, {"ca;u0,.", nil, "ca;u0,."}, {"lsz.v0.", []string{}, "lsz.v0."},
		{"v0.", []string{"v1."}, "@v0.v1."}, {"v0.", []string{"sz.", "v1."}, "@@v0.sz.v1."}, {"v0.", []string{"v1.", "v2.", "v3."}, "@@@v0.v1.v2.v3."}, {"ca;.", []string{"cb;.", "cc;.", "cb;.", "ca;."}, "@@@@ca;.cb;.cc;.cb;.ca;."}, {"v0.", []string{"v0.", "v0."}, "@@v0.v0.v0."},
		// An argument that is an application.
		{"v0.", []string{"@v1.v2."}, "@v0.@v1.v2."}, {"v0.", []string{"@v1.v2.", "v3."}, "@@v0.@v1.v2.v3."}, {"v0.", []string{"v1.", "@v2.v3."}, "@@v0.v1.@v2.v3."}, {"v0.", []string{"@@v1.v2.v3."}, "@v0.@@v1.v2.v3."},
		// A head that is an application.
		{"@v0.v1.", []string{"v2."}, "@@v0.v1.v2."}, {"@v0.v1.", []string{"v2.", "v3."}, "@@@v0.v1.v2.v3."}, {"@v0.@v1.v2.", []string{"@v3.v4."}, "@@v0.@v1.v2.@v3.v4."},
		{"lsz.v0.", []string{"v1."}, "@lsz.v0.v1."}, {"psz.v0.", []string{"lsz.v0."}, "@psz.v0.lsz.v0."}, {"tsz.v0.v0.", []string{"tsz.v0.v0.", "sz."}, "@@tsz.v0.v0.tsz.v0.v0.sz."}, {"sz.", []string{"s+z."}, "@sz.s+z."},
		// Numbers and levels stay what they are.
		{"lsz.v1.", []string{"v0.", "v999."}, "@@lsz.v1.v0.v999."}, {"ca;u0,u1,.", []string{"su2.", "v7."}, "@@ca;u0,u1,.su2.v7."},
		// A head that is no term, also where the result would be one.
		{"", nil, ""}, {"", []string{"v0."}, ""}, {"", []string{"v0.", "v1."}, ""}, {"v0.v1.", nil, ""}, {"v0.v1.", []string{""}, ""}, {"v0.v1.", []string{"v2."}, ""}, {"v0", []string{".v1."}, ""}, {"@v0.", []string{"v1."}, ""}, {"@", []string{"v0.v1."}, ""}, {"v1000.", []string{"v0."}, ""}, {"a", nil, ""},
		// An argument that is no term at each place.
		{"v0.", []string{""}, ""}, {"v0.", []string{"", "v1."}, ""}, {"v0.", []string{"v1.", ""}, ""}, {"v0.", []string{"", "v1.v2."}, ""}, {"v0.", []string{"v1.v2.", ""}, ""}, {"v0.", []string{"v1.", "v2", "."}, ""}, {"v0.", []string{"v01.", "v2.", "v3."}, ""}, {"v0.", []string{"v1.", "v02.", "v3."}, ""}, {"v0.", []string{"v1.", "v2.", "v03."}, ""}, {"v0.", []string{"v1000."}, ""}, {"v0.", []string{"su3."}, ""}, {"v0.", []string{"@v1.", "v2."}, ""}, {"v0.", []string{"v1. "}, ""}, {"v0.", []string{"ca;.", "ca;", "ca;."}, ""},
	}
	for _, f := range figures {
		checkGiven(t, f.head, f.args, f.want)
	}
}

func TestArrowsFigures(t *testing.T) {
	figures := []struct {
		domains []string
		target  string
		want    string
	}{
		{nil, "v0.", "v0."}, {[]string{}, "v0.", "v0."}, {nil, "psz.v0.", "psz.v0."}, {nil, "ca;u0,.", "ca;u0,."}, {[]string{}, "lsz.v0.", "lsz.v0."},
		{[]string{"sz."}, "v0.", "psz.v0."}, {[]string{"sz.", "v0."}, "v1.", "psz.pv0.v1."}, {[]string{"v1.", "v2.", "v3."}, "v0.", "pv1.pv2.pv3.v0."}, {[]string{"ca;.", "cb;.", "ca;.", "cc;."}, "ca;.", "pca;.pcb;.pca;.pcc;.ca;."}, {[]string{"sz.", "sz."}, "sz.", "psz.psz.sz."},
		// A domain that is a function type.
		{[]string{"psz.v0."}, "v1.", "ppsz.v0.v1."}, {[]string{"psz.v0.", "v1."}, "v2.", "ppsz.v0.pv1.v2."}, {[]string{"v1.", "psz.v0."}, "v2.", "pv1.ppsz.v0.v2."}, {[]string{"psz.pv0.v1."}, "v2.", "ppsz.pv0.v1.v2."},
		// A target that is one.
		{[]string{"sz."}, "psz.v0.", "psz.psz.v0."}, {[]string{"sz.", "v0."}, "pv1.v2.", "psz.pv0.pv1.v2."}, {[]string{"psz.v0."}, "ppsz.v1.v2.", "ppsz.v0.ppsz.v1.v2."},
		{[]string{"@v0.v1."}, "@v2.v3.", "p@v0.v1.@v2.v3."}, {[]string{"lsz.v0."}, "tsz.v0.v0.", "plsz.v0.tsz.v0.v0."}, {[]string{"sz."}, "s+z.", "psz.s+z."},
		// Numbers and levels stay what they are.
		{[]string{"v0.", "v999."}, "v1.", "pv0.pv999.v1."}, {[]string{"su2.", "v7."}, "ca;u0,u1,.", "psu2.pv7.ca;u0,u1,."},
		// A target that is no term, also where the result would be one.
		{nil, "", ""}, {[]string{"v0."}, "", ""}, {[]string{"v0.", "v1."}, "", ""}, {nil, "v0.v1.", ""}, {[]string{""}, "v0.v1.", ""}, {[]string{"sz."}, "v0.v1.", ""}, {[]string{"v0"}, ".v1.", ""}, {[]string{"sz."}, "psz.", ""}, {[]string{"v0."}, "v1000.", ""}, {nil, "a", ""},
		// A domain that is no term at each place.
		{[]string{""}, "v0.", ""}, {[]string{"", "v0."}, "v1.", ""}, {[]string{"v0.", ""}, "v1.", ""}, {[]string{"", "v0."}, "v1.v2.", ""}, {[]string{"sz.pv0."}, "v1.", ""}, {[]string{"v01.", "v2.", "v3."}, "v0.", ""}, {[]string{"v1.", "v02.", "v3."}, "v0.", ""}, {[]string{"v1.", "v2.", "v03."}, "v0.", ""}, {[]string{"v1000."}, "v0.", ""}, {[]string{"su3."}, "v0.", ""}, {[]string{"psz."}, "v0.", ""}, {[]string{"v1. "}, "v0.", ""}, {[]string{"ca;.", "ca;", "ca;."}, "v0.", ""}, {[]string{"v0.v1.", ""}, "v2.", ""},
	}
	for _, f := range figures {
		checkArrows(t, f.domains, f.target, f.want)
	}
}

func TestPartThatIsNoTermAtEachPlace(t *testing.T) {
	list := []string{"v0.", "ca;.", "psz.v0.", "@v0.v1.", "tsz.v0.v0."}
	for at := range list {
		for _, s := range []string{"", "v", "v00.", "v1000.", "ca;", "su3.", "@v0.", "v0.v1.", "psz.v0.v1.", "\x00", "\xff"} {
			wrong := slices.Clone(list)
			wrong[at] = s
			checkGiven(t, "v0.", wrong, "")
			checkArrows(t, wrong, "v0.", "")
			checkGiven(t, s, list, "")
			checkArrows(t, list, s, "")
			for to := range len(list) + 1 {
				shorter := wrong[:to]
				if to <= at {
					checkGiven(t, "v0.", shorter, strings.Repeat("@", to)+"v0."+strings.Join(shorter, ""))
				} else {
					checkGiven(t, "v0.", shorter, "")
					checkArrows(t, shorter, "v0.", "")
				}
			}
		}
	}
}

func TestGivenResultSizeLimit(t *testing.T) {
	for _, size := range []int{3, 10, 100, 1000, 1990, 1995} {
		checkGiven(t, plainText(size), []string{plainText(1999 - size)}, "@"+plainText(size)+plainText(1999-size))
		checkGiven(t, plainText(size), []string{plainText(2000 - size)}, "")
		checkGiven(t, plainText(2000-size-1), []string{plainText(size)}, "@"+plainText(2000-size-1)+plainText(size))
		checkGiven(t, plainText(2000-size), []string{plainText(size)}, "")
	}
	checkGiven(t, plainText(2000), nil, plainText(2000))
	checkGiven(t, plainText(2001), nil, "")
	checkGiven(t, plainText(2000), []string{"v0."}, "")
	checkGiven(t, "v0.", []string{plainText(1996)}, "@v0."+plainText(1996))
	checkGiven(t, "v0.", []string{plainText(1997)}, "")
	checkGiven(t, "v0.", []string{plainText(1998)}, "")
	checkGiven(t, "v0.", []string{plainText(2000)}, "")
	checkGiven(t, "v0.", []string{plainText(2001)}, "")
	checkGiven(t, "v0.", []string{plainText(995), plainText(1000)}, "@@v0."+plainText(995)+plainText(1000))
	checkGiven(t, "v0.", []string{plainText(995), plainText(1001)}, "")
	checkGiven(t, "v0.", []string{plainText(996), plainText(1000)}, "")
	// Each of many arguments costs a byte more than its own.
	many := slices.Repeat([]string{"v0."}, 499)
	checkGiven(t, "s+z.", many, strings.Repeat("@", 499)+"s+z."+strings.Repeat("v0.", 499))
	checkGiven(t, "s++z.", many, "")
	checkGiven(t, "v0.", append(slices.Clone(many), "v0."), "")
	for _, count := range []int{500, 501, 666, 667, 1000, 2000, 1000000} {
		checkGiven(t, "v0.", slices.Repeat([]string{"v0."}, count), "")
	}
	for _, size := range []int{1000, 2000, 2001} {
		checkGiven(t, "v0.", slices.Repeat([]string{plainText(size)}, 10000), "")
	}
}

func TestArrowsResultSizeLimit(t *testing.T) {
	for _, size := range []int{3, 10, 100, 1000, 1990, 1995} {
		checkArrows(t, []string{plainText(1999 - size)}, plainText(size), "p"+plainText(1999-size)+plainText(size))
		checkArrows(t, []string{plainText(2000 - size)}, plainText(size), "")
		checkArrows(t, []string{plainText(size)}, plainText(2000-size-1), "p"+plainText(size)+plainText(2000-size-1))
		checkArrows(t, []string{plainText(size)}, plainText(2000-size), "")
	}
	checkArrows(t, nil, plainText(2000), plainText(2000))
	checkArrows(t, nil, plainText(2001), "")
	checkArrows(t, []string{"v0."}, plainText(2000), "")
	checkArrows(t, []string{plainText(1996)}, "v0.", "p"+plainText(1996)+"v0.")
	checkArrows(t, []string{plainText(1997)}, "v0.", "")
	checkArrows(t, []string{plainText(1998)}, "v0.", "")
	checkArrows(t, []string{plainText(2000)}, "v0.", "")
	checkArrows(t, []string{plainText(2001)}, "v0.", "")
	checkArrows(t, []string{plainText(995), plainText(1000)}, "v0.", "p"+plainText(995)+"p"+plainText(1000)+"v0.")
	checkArrows(t, []string{plainText(995), plainText(1001)}, "v0.", "")
	checkArrows(t, []string{plainText(996), plainText(1000)}, "v0.", "")
	// Each of many domains costs a byte more than its own.
	many := slices.Repeat([]string{"v0."}, 499)
	checkArrows(t, many, "s+z.", strings.Repeat("pv0.", 499)+"s+z.")
	checkArrows(t, many, "s++z.", "")
	checkArrows(t, append(slices.Clone(many), "v0."), "v0.", "")
	for _, count := range []int{500, 501, 666, 667, 1000, 2000, 1000000} {
		checkArrows(t, slices.Repeat([]string{"v0."}, count), "v0.", "")
	}
	for _, size := range []int{1000, 2000, 2001} {
		checkArrows(t, slices.Repeat([]string{plainText(size)}, 10000), "v0.", "")
	}
}

func TestHasNameFigures(t *testing.T) {
	figures := []struct {
		text string
		name string
		has  bool
	}{
		{"ca;.", "a", true}, {"ca;u0,.", "a", true}, {"@cb;.ca;.", "a", true}, {"@cb;.ca;.", "b", true}, {"psz.lv0.tsz.v0.cnat;.", "nat", true}, {"ca.b;.", "a.b", true},
		{"ca;.", "b", false}, {"v0.", "v0", false}, {"sz.", "z", false}, {"su0.", "u0", false}, {"ca;u0,.", "u0", false}, {"ca;z,.", "z", false}, {"@v0.v1.", "a", false}, {"lsz.v0.", "l", false}, {"psz.v0.", "p", false},
		// A name that begins another one or continues it.
		{"cnat;.", "nat.rec", false}, {"cnat.rec;z,.", "nat", false}, {"cnat.rec;z,.", "rec", false}, {"cnat.rec;z,.", "nat.r", false}, {"cnat.rec;z,.", "nat.re", false}, {"cnat.rec;z,.", "nat.rec", true}, {"cnat.rec;z,.", "nat.recs", false}, {"cnat;.", "na", false}, {"cnat;.", "nats", false}, {"cnat;.", "at", false}, {"@cab;.cba;.", "a", false}, {"@ca;.cb;.", "ab", false}, {"@ca.b;.cb;.", "a", false}, {"@ca.b;.cb;.", "b", true},
		// What is no name.
		{"ca;.", "", false}, {"v0.", "", false}, {"ca;.", "a;", false}, {"ca;.", "ca", false}, {"ca;.", "ca;.", false}, {"ca;.", "a.", false}, {"ca.b;.", "a.", false}, {"ca.b;.", ".b", false}, {"ca;.", "A", false}, {"ca;.", " a", false}, {"ca;.", "a ", false}, {"ca;.", "a\x00", false}, {"@ca;.cb;.", "a,b", false}, {"@ca;.cb;.", "a b", false}, {"v0.", "v0.", false}, {"ca;.", "\xff", false}, {"ca;.", strings.Repeat("a", 41), false},
		// What only looks like a constant within the text.
		{"cca;.", "a", false}, {"cca;.", "ca", true}, {"cc;.", "", false}, {"cc;.", "c", true}, {"cab.ca;.", "a", false}, {"cab.ca;.", "ca", false}, {"cab.ca;.", "b.ca", false}, {"@ca;.cb;.", "a;.cb", false}, {"ca;u0,.", "a;u0,.", false},
		// No terms.
		{"", "", false}, {"", "a", false}, {"a", "a", false}, {"ca", "a", false}, {"ca;", "a", false}, {"ca;.ca;.", "a", false}, {"@ca;.", "a", false}, {"@ca;.v1000.", "a", false}, {"cA;.", "A", false}, {"c;.", "", false}, {"ca;. ", "a", false}, {"cA;.", "A", false}, {"c" + strings.Repeat("a", 41) + ";.", strings.Repeat("a", 41), false}, {"@ca;." + plainText(1995), "a", true}, {"@ca;." + plainText(1996), "a", false},
	}
	for _, f := range figures {
		if got := impl.HasName(f.text, f.name); got != f.has {
			t.Errorf("HasName(%.100q, %q) = %v, want %v", f.text, f.name, got, f.has)
		}
	}
	everyPlace(3, func(before string, after string, _ int) {
		whole := before + "ca.b;z,." + after
		for _, name := range []string{"a", "b", "a.b", "a.b.c", "", "z", "a.b;"} {
			if got := impl.HasName(whole, name); got != (name == "a.b") {
				t.Errorf("HasName(%q, %q) = %v", whole, name, got)
			}
		}
	})
}

// TestTermIsMadeOfItsParts takes terms of each form in each other apart, and puts them together again.
func TestTermIsMadeOfItsParts(t *testing.T) {
	forms := someTrees()
	for _, a := range forms {
		checkApart(t, a.text)
		for _, b := range forms {
			for _, kind := range []string{"@", "l", "p"} {
				pair := treeWith(kind, a, b)
				checkApart(t, pair.text)
				for _, outer := range []string{"@", "p"} {
					checkApart(t, treeWith(outer, pair, b).text)
					checkApart(t, treeWith(outer, a, pair).text)
					checkApart(t, treeWith(outer, pair, pair).text)
					checkApart(t, treeWith(outer, treeWith(outer, a, pair), treeWith(outer, pair, b)).text)
				}
			}
			checkApart(t, treeWith("t", a, b, a).text)
			checkApart(t, treeWith("@", treeWith("t", a, b, a), b).text)
			checkApart(t, treeWith("p", a, treeWith("t", a, b, a)).text)
		}
	}
}

func TestTermsOfEverySizeAreMadeOfTheirParts(t *testing.T) {
	source := rand.New(rand.NewSource(8))
	for size := 3; size <= 2000; size += 1 + size/200 {
		for range 1 + 600/(size*size) {
			checkApart(t, treeOfSize(source, size).text)
		}
	}
	for _, size := range []int{100, 1000, 1999, 2000} {
		checkApart(t, treeOfSize(source, size).text)
		for _, text := range nestedTexts(size) {
			checkApart(t, text)
		}
	}
}

// TestAppliedHeadsAndArrows makes terms of random parts, which are found again.
func TestAppliedHeadsAndArrows(t *testing.T) {
	source := rand.New(rand.NewSource(88))
	made, rejected := 0, 0
	for range 3000 {
		end, list := treeOfSize(source, 3+source.Intn(40)).text, []string{}
		for range source.Intn(1 + source.Intn(100)) {
			list = append(list, treeOfSize(source, 3+source.Intn(1+source.Intn(120))).text)
		}
		given, arrows := strings.Repeat("@", len(list))+end+strings.Join(list, ""), ""
		for _, domain := range list {
			arrows += "p" + domain
		}
		arrows += end
		if len(given) > 2000 {
			rejected++
			checkGiven(t, end, list, "")
			checkArrows(t, list, end, "")
			continue
		}
		made++
		checkGiven(t, end, list, given)
		checkArrows(t, list, end, arrows)
		// The head's own arguments come first, and the target's own domains last.
		head, first := wantHeadAndArgs(end)
		checkHeadAndArgs(t, given, head, append(first, list...))
		last, target := wantDomainsAndTarget(end)
		checkDomainsAndTarget(t, arrows, append(slices.Clone(list), last...), target)
	}
	if made < 500 || rejected < 50 {
		t.Errorf("%d terms and %d texts that are too long are too few", made, rejected)
	}
}

func TestNoTermIsTakenApart(t *testing.T) {
	for _, s := range someNoTerms() {
		checkNotApart(t, s)
	}
	for _, whole := range someTrees() {
		s := whole.text
		for _, text := range []string{s + s, s + " ", " " + s, s[1:], s[:len(s)-1], "@" + s, "p" + s, "t" + s + s, "l" + s, s + "."} {
			if _, ok := treeOf(text); !ok {
				checkNotApart(t, text)
			}
		}
	}
}

// TestUsesEveryShortText checks every short text of these bytes, almost all of which are no terms.
func TestUsesEveryShortText(t *testing.T) {
	everyText("@pv0.sz", 6, func(s string) {
		if _, ok := treeOf(s); ok {
			checkApart(t, s)
			return
		}
		given, givenOk := impl.Given(s, nil)
		arrows, arrowsOk := impl.Arrows(nil, s)
		if len(impl.UsesIn(s))+len(impl.ArgsOf(s))+len(impl.Domains(s)) > 0 || impl.HeadOf(s)+impl.Target(s)+given+arrows != "" || givenOk || arrowsOk {
			t.Errorf("%q is taken for a term", s)
		}
	})
}

func TestGivenAndArrowsLeaveSpareCapacity(t *testing.T) {
	backing := []string{"v0.", "psz.v0.", "@v0.v1.", "", "v1.", "spare"}
	kept := slices.Clone(backing)
	for size := range len(backing) + 1 {
		for _, s := range []string{"v0.", "@v0.v1.", "psz.v0.", "", "v1000."} {
			impl.Given(s, backing[:size])
			impl.Arrows(backing[:size], s)
		}
	}
	if !slices.Equal(backing, kept) {
		t.Errorf("the memory of the arguments was changed: %q", backing)
	}
}

// TestUsesResultsAreNewMemory changes results and arguments; the memory of the strings is compared by the checks above.
func TestUsesResultsAreNewMemory(t *testing.T) {
	for _, call := range []func(string) []string{impl.UsesIn, impl.ArgsOf, impl.Domains} {
		for _, s := range []string{"@@ca;.cb;.cc;.", "pca;.pcb;.cc;.", "p@ca;.cb;.cc;."} {
			first, second := call(s), call(s)
			kept := slices.Clone(second)
			for at := range first {
				first[at] = "changed"
			}
			if !slices.Equal(second, kept) || !slices.Equal(call(s), kept) {
				t.Errorf("a changed result for %q changed another one", s)
			}
		}
	}
	list := []string{"v1.", "v2."}
	given, _ := impl.Given("v0.", list)
	arrows, _ := impl.Arrows(list, "v0.")
	list[0], list[1] = "sz.", "sz."
	if given != "@@v0.v1.v2." || arrows != "pv1.pv2.v0." {
		t.Errorf("a changed argument changed the results to %q and %q", given, arrows)
	}
}
