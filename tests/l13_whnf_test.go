package tests

import (
	"fmt"
	"math"
	"math/rand"
	"reflect"
	"slices"
	"strconv"
	"strings"
	"testing"

	"loop.example/g00963/impl"
)

// machine is an independent description of Whnf: it has texts instead of terms, and calls itself for the elements of recursors.
type machine struct {
	env  []impl.Entry
	fuel int
	code int
	seen map[string]bool
}

// take uses the unit of a step and returns its result: what makes returns, applied to args. The step adds a name, or "".
func (m *machine) take(name string, args []string, makes func() (string, bool)) string {
	if m.fuel == 0 {
		m.code = 1
		return ""
	}
	m.fuel--
	head, ok := makes()
	text := withinLimits(strings.Repeat("@", len(args)) + head + strings.Join(args, ""))
	if !ok || text == "" {
		m.code = 2
		return ""
	}
	if name != "" {
		m.seen[name] = true
	}
	return text
}

// step returns what becomes of the term s, or false if there is no step.
func (m *machine) step(s string) (string, bool) {
	head, args := wantHeadAndArgs(s)
	switch head[0] {
	case 'l':
		if len(args) == 0 {
			return "", false
		}
		body := head[1+len(firstTerm(head[1:])):]
		return m.take("", args[1:], func() (string, bool) { return wantPutIn(body, args[0]) }), true
	case 't':
		value := firstTerm(head[1+len(firstTerm(head[1:])):])
		body := head[1+len(firstTerm(head[1:]))+len(value):]
		return m.take("", args, func() (string, bool) { return wantPutIn(body, value) }), true
	case 'c':
		constant, _ := leafOf(head)
		want := wantFound(m.env, constant.name)
		if want.kind == 2 {
			d := m.env[want.entry].Decl
			if len(constant.levels) != d.Params {
				return "", false
			}
			return m.take(d.Name, args, func() (string, bool) { return wantTermLevels(d.Value, constant.levels) }), true
		}
		if want.kind == 6 {
			return m.recursorStep(want.entry, constant, args)
		}
	}
	return "", false
}

func (m *machine) recursorStep(entry int, recursor tree, args []string) (string, bool) {
	d := m.env[entry].Decl
	count := len(d.Ctors)
	if len(recursor.levels) != wantRecLevels(d) || len(args) < count+2 {
		return "", false
	}
	element := m.whnf(args[count+1])
	if m.code != 0 {
		return "", true
	}
	head, given := wantHeadAndArgs(element)
	constant, _ := leafOf(head)
	at := wantFound(m.env, constant.name)
	if at.kind != 5 || at.entry != entry {
		return "", false
	}
	domains, _ := wantDomainsAndTarget(d.Ctors[at.ctor].Type)
	if len(given) != len(domains) {
		return "", false
	}
	return m.take(recursor.name, args[count+2:], func() (string, bool) {
		step := wantStep(stepCall{d, recursor.levels, args[:count+1], at.ctor, given})
		return step, step != ""
	}), true
}

// whnf returns the last term, or "" if the code is not 0.
func (m *machine) whnf(s string) string {
	for {
		next, ok := m.step(s)
		if m.code != 0 {
			return ""
		}
		if !ok {
			return s
		}
		s = next
	}
}

// wantWhnf describes Whnf for all arguments.
func wantWhnf(env []impl.Entry, s string, fuel int) impl.Got {
	if _, ok := treeOf(s); !ok || fuel < 0 || fuel > 5000 {
		return impl.Got{Code: 2}
	}
	m := machine{env: env, fuel: fuel, seen: map[string]bool{}}
	got := impl.Got{Term: m.whnf(s), Code: m.code, Fuel: m.fuel}
	for name := range m.seen {
		got.Seen = append(got.Seen, name)
	}
	slices.Sort(got.Seen)
	return got
}

// gotText shows a result, of which the texts may be long.
func gotText(got impl.Got) string {
	return fmt.Sprintf("{%d %.300q %d %.300q}", got.Code, got.Term, got.Fuel, got.Seen)
}

func sameGot(a impl.Got, b impl.Got) bool {
	return a.Code == b.Code && a.Term == b.Term && a.Fuel == b.Fuel && slices.Equal(a.Seen, b.Seen)
}

// checkWhnf checks Whnf and Unfolds, and that they neither change the entries nor return memory of their arguments.
func checkWhnf(t *testing.T, env []impl.Entry, s string, fuel int, want impl.Got) {
	t.Helper()
	kept := copyOf(env)
	got := impl.Whnf(env, s, fuel)
	if !sameGot(got, want) {
		t.Errorf("Whnf(%.300q) with the fuel %d = %s, want %s", s, fuel, gotText(got), gotText(want))
	}
	if seen := impl.Unfolds(env, s, fuel); !slices.Equal(seen, want.Seen) {
		t.Errorf("Unfolds(%.300q) with the fuel %d = %.300q, want %.300q", s, fuel, seen, want.Seen)
	}
	for _, argument := range append(stringsIn(env), s) {
		for _, result := range append(got.Seen, got.Term) {
			checkNewString(t, result, argument)
		}
	}
	if !reflect.DeepEqual(env, kept) {
		t.Errorf("the entries %.300q were changed to %.300q", stringsIn(kept), stringsIn(env))
	}
}

func checkIsWhnf(t *testing.T, env []impl.Entry, s string, want bool) {
	t.Helper()
	if got := impl.IsWhnf(env, s); got != want {
		t.Errorf("IsWhnf(%.300q) = %v, want %v", s, got, want)
	}
}

// checkWantWhnf checks all functions for a term of which the test itself finds out the results, and returns the result for this fuel.
func checkWantWhnf(t *testing.T, env []impl.Entry, s string, fuel int) impl.Got {
	t.Helper()
	want := wantWhnf(env, s, fuel)
	checkWhnf(t, env, s, fuel, want)
	return want
}

// reduction is what the reduction of a term comes to, and the fuel that it needs.
type reduction struct {
	used int
	code int
	term string
	seen []string
}

// checkReduction checks all functions, with too little fuel, with exactly enough, and with more.
func checkReduction(t *testing.T, env []impl.Entry, s string, want reduction) {
	t.Helper()
	if _, ok := treeOf(s); !ok {
		t.Fatalf("%q is no term", s)
	}
	for _, fuel := range []int{want.used, want.used + 1, want.used + 2, want.used + 100, 4999, 5000} {
		if fuel <= 5000 {
			got := impl.Got{Code: want.code, Term: want.term, Fuel: fuel - want.used, Seen: want.seen}
			checkWhnf(t, env, s, fuel, got)
			if described := wantWhnf(env, s, fuel); !sameGot(described, got) {
				t.Errorf("the test itself finds %s for %.300q, not %s", gotText(described), s, gotText(got))
			}
		}
	}
	for fuel := range want.used {
		if got := checkWantWhnf(t, env, s, fuel); got.Code != impl.CkFuel || got.Fuel != 0 || got.Term != "" {
			t.Errorf("the test itself finds %s for %.300q with the fuel %d", gotText(got), s, fuel)
		}
	}
	checkIsWhnf(t, env, s, want.code == 0 && want.term == s)
	if want.code == 0 {
		checkReducedTerm(t, env, want.term)
	}
}

// checkReducedTerm checks a result: it is not reduced further.
func checkReducedTerm(t *testing.T, env []impl.Entry, s string) {
	t.Helper()
	checkIsWhnf(t, env, s, true)
	if got := impl.Whnf(env, s, impl.MaxFuel); got.Code != 0 || got.Term != s {
		t.Errorf("Whnf of the result %.300q = %s", s, gotText(got))
	}
}

func definition(name string, params int, value string) impl.Decl {
	return impl.Decl{Kind: impl.DkDef, Name: name, Params: params, Type: "s+z.", Value: value}
}

// addValue adds by a recursion over its second argument.
const addValue = "lcnat;.lcnat;.@@@@cnat.rec;+z,.lcnat;.cnat;.v1.lcnat;.lcnat;.@cnat.succ;.v0.v0."

// whnfEnv has entries of all kinds, definitions that use each other, and one that uses itself.
func whnfEnv() []impl.Entry {
	return append(libraryEnv(), entriesOf(ordData(), wData(),
		definition("one", 0, "@cnat.succ;.cnat.zero;."), definition("two", 0, "@cnat.succ;.cone;."), definition("three.nat", 0, "@@cadd;.cone;.ctwo;."),
		definition("add", 0, addValue), definition("loop", 0, "cloop;."), definition("up", 1, "s+u0."), definition("pair", 2, "@su1.ca;u0,u1,."), definition("const", 0, "lsz.lsz.v1."))...)
}

func TestWhnfLimits(t *testing.T) {
	if limits := []int{impl.MaxFuel, impl.CkFuel, impl.CkSize}; !slices.Equal(limits, []int{5000, 1, 2}) {
		t.Errorf("the limits are %v", limits)
	}
}

// reductionFigure is a term with the figures for its reduction.
type reductionFigure struct {
	text string
	want reduction
}

func checkReductionFigures(t *testing.T, env []impl.Entry, figures []reductionFigure) {
	t.Helper()
	for _, f := range figures {
		checkReduction(t, env, f.text, f.want)
	}
}

// TestWhnfFunctions has functions and local definitions, which need no entries, with no argument too many and with arguments behind.
func TestWhnfFunctions(t *testing.T) {
	figures := []reductionFigure{
		{"@lsz.v0.v7.", reduction{1, 0, "v7.", nil}}, {"@lsz.v1.v7.", reduction{1, 0, "v0.", nil}}, {"@lsz.v5.v7.", reduction{1, 0, "v4.", nil}}, {"@lsz.lsz.v1.v5.", reduction{1, 0, "lsz.v6.", nil}}, {"@lsz.plv0.v1.v1.v5.", reduction{1, 0, "plv5.v6.v6.", nil}}, {"@lv9.sz.v5.", reduction{1, 0, "sz.", nil}},
		{"@@lsz.v0.v1.v2.", reduction{1, 0, "@v1.v2.", nil}}, {"@@@lsz.v0.v1.v2.v3.", reduction{1, 0, "@@v1.v2.v3.", nil}}, {"@@lsz.@v0.v0.v1.v2.", reduction{1, 0, "@@v1.v1.v2.", nil}}, {"@@@@lsz.sz.v1.v2.v3.v4.", reduction{1, 0, "@@@sz.v2.v3.v4.", nil}},
		// Several steps.
		{"@@lsz.lsz.v1.v5.v6.", reduction{2, 0, "v5.", nil}}, {"@@lsz.lsz.v0.v5.v6.", reduction{2, 0, "v6.", nil}}, {"@@@lsz.lsz.v1.v5.v6.v7.", reduction{2, 0, "@v5.v7.", nil}}, {"@lsz.@v0.v0.lsz.v0.", reduction{2, 0, "lsz.v0.", nil}}, {"@lsz.@v0.v3.lsz.@v0.v1.", reduction{2, 0, "@v2.v0.", nil}}, {"@@lsz.v0.lsz.v0.v4.", reduction{2, 0, "v4.", nil}}, {"@@@lsz.lsz.lsz.@v2.v0.lsz.v0.v5.v6.", reduction{4, 0, "v6.", nil}},
		// The argument is put in as it is.
		{"@lsz.v0.@lsz.v0.v7.", reduction{2, 0, "v7.", nil}}, {"@lsz.@v3.v0.@lsz.v0.v7.", reduction{1, 0, "@v2.@lsz.v0.v7.", nil}}, {"@lsz.psz.v1.@lsz.v0.v7.", reduction{1, 0, "psz.@lsz.v0.v8.", nil}}, {"@lsz.lsz.v1.@lsz.v0.v7.", reduction{1, 0, "lsz.@lsz.v0.v8.", nil}},
		// Local definitions.
		{"tsz.v3.v0.", reduction{1, 0, "v3.", nil}}, {"tsz.v3.v1.", reduction{1, 0, "v0.", nil}}, {"tsz.v3.v9.", reduction{1, 0, "v8.", nil}}, {"tsz.v3.sz.", reduction{1, 0, "sz.", nil}}, {"tsz.v3.lsz.v1.", reduction{1, 0, "lsz.v4.", nil}}, {"tsz.v3.pv0.v1.", reduction{1, 0, "pv3.v4.", nil}}, {"tv5.@v0.v1.@v0.v2.", reduction{1, 0, "@@v0.v1.v1.", nil}},
		{"@tsz.v3.v0.v4.", reduction{1, 0, "@v3.v4.", nil}}, {"@@tsz.v3.v0.v4.v5.", reduction{1, 0, "@@v3.v4.v5.", nil}}, {"@@@tsz.v3.sz.v4.v5.v6.", reduction{1, 0, "@@@sz.v4.v5.v6.", nil}},
		{"tsz.v3.tsz.v0.v0.", reduction{2, 0, "v3.", nil}}, {"tsz.v3.tsz.@v0.v1.@v0.v1.", reduction{2, 0, "@@v3.v0.v3.", nil}}, {"ttsz.v0.v0.tsz.v3.v0.v0.", reduction{2, 0, "v3.", nil}}, {"@tsz.v3.lsz.v1.v4.", reduction{2, 0, "v3.", nil}}, {"@tsz.lsz.v0.v0.v4.", reduction{2, 0, "v4.", nil}}, {"@@tsz.lsz.v0.v0.v4.v5.", reduction{2, 0, "@v4.v5.", nil}}, {"@lsz.tsz.v0.v0.v4.", reduction{2, 0, "v4.", nil}}, {"@lsz.tsz.v1.v1.v4.", reduction{2, 0, "v4.", nil}},
	}
	for _, env := range [][]impl.Entry{nil, {}, {{}}, whnfEnv()} {
		checkReductionFigures(t, env, figures)
	}
}

// TestWhnfReducedTerms has terms without a step: a function without an argument among them, and terms that could be reduced in places that are not looked at.
func TestWhnfReducedTerms(t *testing.T) {
	texts := []string{
		"v0.", "v999.", "sz.", "su2.", "s+mu0u1.", "lsz.v0.", "lsz.@lsz.v0.v0.", "l@lsz.v0.v0.v1.", "ltsz.v0.v0.tsz.v0.v0.", "lcone;.cone;.", "psz.v0.", "psz.@lsz.v0.v0.", "p@lsz.v0.v0.v1.", "ptsz.v0.v0.cone;.",
		"@v0.v1.", "@v0.@lsz.v0.v1.", "@@v0.cone;.tsz.v0.v0.", "@sz.v0.", "@sz.cone;.", "@psz.sz.v0.", "@psz.v0.cone;.", "@@psz.sz.cone;.@lsz.v0.v0.",
		"@v0.cloop;.", "lsz.cloop;.", "pcloop;.cloop;.",
	}
	for _, env := range [][]impl.Entry{nil, {}, {{}}, whnfEnv()} {
		for _, s := range texts {
			checkReduction(t, env, s, reduction{0, 0, s, nil})
		}
	}
}

// TestWhnfDefinitions unfolds definitions with their levels, with and without arguments.
func TestWhnfDefinitions(t *testing.T) {
	id, one := []string{"id"}, []string{"one"}
	checkReductionFigures(t, whnfEnv(), []reductionFigure{
		{"cone;.", reduction{1, 0, "@cnat.succ;.cnat.zero;.", one}}, {"@cone;.v0.", reduction{1, 0, "@@cnat.succ;.cnat.zero;.v0.", one}}, {"@@@cone;.v0.v1.v2.", reduction{1, 0, "@@@@cnat.succ;.cnat.zero;.v0.v1.v2.", one}},
		{"cid;z,.", reduction{1, 0, "lsz.lv0.v0.", id}}, {"cid;u2,.", reduction{1, 0, "lsu2.lv0.v0.", id}}, {"cid;mu0+z,.", reduction{1, 0, "lsmu0+z.lv0.v0.", id}}, {"@cid;u2,.v1.", reduction{2, 0, "lv1.v0.", id}}, {"@@cid;+z,.cnat;.v3.", reduction{3, 0, "v3.", id}}, {"@@@cid;+z,.cnat;.v3.v4.", reduction{3, 0, "@v3.v4.", id}},
		{"cup;z,.", reduction{1, 0, "s+z.", []string{"up"}}}, {"cup;+u1,.", reduction{1, 0, "s++u1.", []string{"up"}}}, {"cpair;z,+z,.", reduction{1, 0, "@s+z.ca;z,+z,.", []string{"pair"}}}, {"cpair;u1,u0,.", reduction{1, 0, "@su0.ca;u1,u0,.", []string{"pair"}}}, {"@cpair;u2,z,.v9.", reduction{1, 0, "@@sz.ca;u2,z,.v9.", []string{"pair"}}},
		// Unfolded twice, and together with others.
		{"@@cid;z,.cnat;.@@cid;z,.cnat;.v3.", reduction{6, 0, "v3.", id}}, {"@@cid;z,.cnat;.@@cid;u0,.cnat;.v3.", reduction{6, 0, "v3.", id}}, {"@@cid;z,.cnat;.cone;.", reduction{4, 0, "@cnat.succ;.cnat.zero;.", []string{"id", "one"}}}, {"@@cid;z,.cnat;.ctwo;.", reduction{4, 0, "@cnat.succ;.cone;.", []string{"id", "two"}}}, {"@@cconst;.ctwo;.cone;.", reduction{4, 0, "@cnat.succ;.cone;.", []string{"const", "two"}}}, {"tcnat;.cone;.v0.", reduction{2, 0, "@cnat.succ;.cnat.zero;.", one}}, {"@lsz.cone;.ctwo;.", reduction{2, 0, "@cnat.succ;.cnat.zero;.", one}},
		// The argument of a constructor is not looked at.
		{"ctwo;.", reduction{1, 0, "@cnat.succ;.cone;.", []string{"two"}}}, {"@cnat.succ;.cone;.", reduction{0, 0, "@cnat.succ;.cone;.", nil}}, {"@cnat.succ;.cloop;.", reduction{0, 0, "@cnat.succ;.cloop;.", nil}},
		{"@@cadd;.cone;.ctwo;.", reduction{7, 0, "@cnat.succ;.@@@@cnat.rec;+z,.lcnat;.cnat;.cone;.lcnat;.lcnat;.@cnat.succ;.v0.cone;.", []string{"add", "nat.rec", "two"}}},
		{"cthree.nat;.", reduction{8, 0, "@cnat.succ;.@@@@cnat.rec;+z,.lcnat;.cnat;.cone;.lcnat;.lcnat;.@cnat.succ;.v0.cone;.", []string{"add", "nat.rec", "three.nat", "two"}}},
	})
}

// TestWhnfUnfoldsOnlyDefinitions has names of each other kind, and wrong numbers of levels.
func TestWhnfUnfoldsOnlyDefinitions(t *testing.T) {
	env := whnfEnv()
	for _, head := range []string{
		// Theorems, axioms, data types, constructors, recursors and names without an entry.
		"cone.eq;.", "cem;z,.", "cthree;z,z,z,.", "cnat;.", "cfalse;.", "clist;z,.", "cnat.zero;.", "cnat.succ;.", "clist.cons;z,.", "ceither.left;z,z,.", "cnat.rec;z,.", "cfalse.rec;.", "cbad.rec;z,.", "cnobody;.", "cno.body;z,.",
		// Wrong numbers of levels.
		"cone;z,.", "cone;z,z,z,.", "cid;.", "cid;z,z,.", "cid;z,z,z,.", "cpair;.", "cpair;z,.", "cpair;z,z,z,.", "cloop;z,.",
	} {
		for _, behind := range []string{"", "v0.", "cone;."} {
			s := head
			if behind != "" {
				s = "@" + head + behind
			}
			checkReduction(t, env, s, reduction{0, 0, s, nil})
		}
	}
	for kind := -1; kind < 8; kind++ {
		for flags := range 8 {
			d := impl.Decl{Kind: kind, Name: "a", Flags: flags, Type: "s++z.", Value: "s+z."}
			if kind == impl.DkDef && flags <= impl.FlUnsafe {
				checkReduction(t, entriesOf(d), "ca;.", reduction{1, 0, "s+z.", []string{"a"}})
			} else {
				checkReduction(t, entriesOf(d), "ca;.", reduction{0, 0, "ca;.", nil})
			}
		}
	}
	for params := range impl.MaxParams + 1 {
		env := entriesOf(definition("a", params, "sz."))
		for count := range impl.MaxParams + 1 {
			s := constantTree("a", selfParams[:count]...).text
			want := reduction{0, 0, s, nil}
			if count == params {
				want = reduction{1, 0, "sz.", []string{"a"}}
			}
			checkReduction(t, env, s, want)
		}
	}
}

// onElement returns the recursor of the numbers with an element, and three variables in front of it.
func onElement(element string) string {
	return "@@@@cnat.rec;z,.v0.v1.v2." + element
}

// TestWhnfRecursors has recursors of each shape, with exactly the arguments that they need and with more.
func TestWhnfRecursors(t *testing.T) {
	rec := []string{"nat.rec"}
	checkReductionFigures(t, whnfEnv(), []reductionFigure{
		{onElement("cnat.zero;."), reduction{1, 0, "v1.", rec}}, {onElement("@cnat.succ;.v3."), reduction{1, 0, "@@v2.v3.@@@@cnat.rec;z,.v0.v1.v2.v3.", rec}}, {onElement("@cnat.succ;.cone;."), reduction{1, 0, "@@v2.cone;.@@@@cnat.rec;z,.v0.v1.v2.cone;.", rec}},
		{"@" + onElement("cnat.zero;.") + "v7.", reduction{1, 0, "@v1.v7.", rec}}, {"@@" + onElement("cnat.zero;.") + "v7.v8.", reduction{1, 0, "@@v1.v7.v8.", rec}}, {"@" + onElement("@cnat.succ;.v3.") + "cone;.", reduction{1, 0, "@@@v2.v3.@@@@cnat.rec;z,.v0.v1.v2.v3.cone;.", rec}},
		// The element is reduced first.
		{onElement("cone;."), reduction{2, 0, "@@v2.cnat.zero;.@@@@cnat.rec;z,.v0.v1.v2.cnat.zero;.", []string{"nat.rec", "one"}}}, {onElement("ctwo;."), reduction{2, 0, "@@v2.cone;.@@@@cnat.rec;z,.v0.v1.v2.cone;.", []string{"nat.rec", "two"}}}, {onElement("@lsz.v0.cnat.zero;."), reduction{2, 0, "v1.", rec}}, {onElement("tsz.cnat.zero;.v0."), reduction{2, 0, "v1.", rec}}, {onElement("@@cid;z,.cnat;.cone;."), reduction{5, 0, "@@v2.cnat.zero;.@@@@cnat.rec;z,.v0.v1.v2.cnat.zero;.", []string{"id", "nat.rec", "one"}}},
		{"@" + onElement("cone;.") + "v7.", reduction{2, 0, "@@@v2.cnat.zero;.@@@@cnat.rec;z,.v0.v1.v2.cnat.zero;.v7.", []string{"nat.rec", "one"}}},
		// The result is reduced further; the motive and the other arguments are not looked at.
		{"@@@@cnat.rec;z,.cloop;.cone;.cloop;.cnat.zero;.", reduction{2, 0, "@cnat.succ;.cnat.zero;.", []string{"nat.rec", "one"}}}, {"@@@@cnat.rec;z,.v0.v1.lsz.lsz.v1.@cnat.succ;.v3.", reduction{3, 0, "v3.", rec}}, {"@@@@cnat.rec;z,.v0.v1.lsz.lsz.v0.@cnat.succ;.v3.", reduction{3, 0, "@@@@cnat.rec;z,.v0.v1.lsz.lsz.v0.v3.", rec}}, {"@@@@cnat.rec;z,.v0.v1.lsz.lsz.v0.ctwo;.", reduction{9, 0, "v1.", []string{"nat.rec", "one", "two"}}},
		// Other data types, with the levels of the recursor.
		{"@@@@clist.rec;z,+z,.v0.v1.v2.clist.nil;z,.", reduction{1, 0, "v1.", []string{"list.rec"}}}, {"@@@@clist.rec;u0,+z,.v0.v1.v2.@@clist.cons;u0,.v3.v4.", reduction{1, 0, "@@@v2.v3.v4.@@@@clist.rec;u0,+z,.v0.v1.v2.v4.", []string{"list.rec"}}},
		{"@@@@@cord.rec;z,.v0.v1.v2.v3.@cord.lim;.v4.", reduction{1, 0, "@@v3.v4.lcnat;.@@@@@cord.rec;z,.v1.v2.v3.v4.@v5.v0.", []string{"ord.rec"}}}, {"@@@cw.rec;z,.v0.v1.@@cw.sup;.v2.v3.", reduction{1, 0, "@@@v1.v2.v3.lv2.@@@cw.rec;z,.v1.v2.@v4.v0.", []string{"w.rec"}}}, {"@@@@ceither.rec;z,u0,u1,.v0.v1.v2.@ceither.right;z,u0,.v3.", reduction{1, 0, "@v2.v3.", []string{"either.rec"}}},
		// The levels of the constructor do not matter.
		{onElement("cnat.zero;z,."), reduction{1, 0, "v1.", rec}}, {onElement("@cnat.succ;z,z,.v3."), reduction{1, 0, "@@v2.v3.@@@@cnat.rec;z,.v0.v1.v2.v3.", rec}}, {"@@@@clist.rec;z,+z,.v0.v1.v2.clist.nil;.", reduction{1, 0, "v1.", []string{"list.rec"}}},
	})
}

// TestWhnfRecursorsWithFewArguments has recursors that are not applied to their element.
func TestWhnfRecursorsWithFewArguments(t *testing.T) {
	env := whnfEnv()
	for _, s := range []string{
		"cnat.rec;z,.", "@cnat.rec;z,.cone;.", "@@cnat.rec;z,.v0.cone;.", "@@@cnat.rec;z,.v0.v1.cone;.", "@@@cnat.rec;z,.v0.v1.cnat.zero;.", "@@@cnat.rec;z,.v0.v1.cloop;.",
		"cfalse.rec;.", "@cfalse.rec;.cone;.", "@cfalse.rec;.cloop;.", "@@cw.rec;z,.v0.cloop;.", "@@@@cord.rec;z,.v0.v1.v2.cord.zero;.", "@@@@cord.rec;z,.v0.v1.v2.cloop;.",
		// The element is not looked at either if the number of levels is wrong.
		"@@@@cnat.rec;.v0.v1.v2.cnat.zero;.", "@@@@cnat.rec;z,z,.v0.v1.v2.cnat.zero;.", "@@@@cnat.rec;.v0.v1.v2.cloop;.", "@@@@clist.rec;z,.v0.v1.v2.clist.nil;z,.", "@@@@clist.rec;z,z,z,.v0.v1.v2.cloop;.", "@@cfalse.rec;z,.v0.cloop;.",
	} {
		checkReduction(t, env, s, reduction{0, 0, s, nil})
	}
}

// TestWhnfElementThatIsNoConstructor has recursors without a step: the term stays as it is, but the fuel for its element remains used.
func TestWhnfElementThatIsNoConstructor(t *testing.T) {
	env := whnfEnv()
	id, one := []string{"id"}, []string{"one"}
	for _, f := range []struct {
		element string
		used    int
		seen    []string
	}{
		{"v3.", 0, nil}, {"sz.", 0, nil}, {"lsz.v0.", 0, nil}, {"lcnat;.cnat.zero;.", 0, nil}, {"psz.sz.", 0, nil}, {"cnat;.", 0, nil}, {"cem;z,.", 0, nil}, {"cone.eq;.", 0, nil}, {"cnat.rec;z,.", 0, nil}, {"cnobody;.", 0, nil}, {"cnat.one;.", 0, nil}, {"@v3.cnat.zero;.", 0, nil}, {"@sz.cnat.zero;.", 0, nil}, {"cone;z,.", 0, nil},
		// Constructors of other data types, and too few or too many arguments.
		{"cord.zero;.", 0, nil}, {"@cord.succ;.v3.", 0, nil}, {"clist.nil;z,.", 0, nil}, {"@cbad.mk;.v3.", 0, nil}, {"cnat.succ;.", 0, nil}, {"@cnat.zero;.v3.", 0, nil}, {"@@cnat.succ;.v3.v4.", 0, nil}, {"@@@cnat.zero;.v3.v4.v5.", 0, nil},
		// Reduced, but not to a constructor with its arguments.
		{"@lsz.v0.v3.", 1, nil}, {"tsz.v3.v0.", 1, nil}, {"@@lsz.lsz.v0.v3.v4.", 2, nil}, {"@@cid;z,.cnat;.v3.", 3, id}, {"@@cid;z,.cnat;.cnat.succ;.", 3, id}, {"@cone;.v3.", 1, one}, {"@@ctwo;.v3.v4.", 1, []string{"two"}}, {"@@cid;z,.cord;.cord.zero;.", 3, id}, {"cup;z,.", 1, []string{"up"}}, {"@lsz.cone;z,.v3.", 1, nil},
	} {
		for _, behind := range []string{"", "v5.", "cone;."} {
			s := onElement(f.element)
			if behind != "" {
				s = "@" + s + behind
			}
			checkReduction(t, env, s, reduction{f.used, 0, s, f.seen})
		}
	}
	for _, f := range []reductionFigure{
		{"@@cfalse.rec;.v0.", reduction{1, 0, "", one}}, {"@@@cw.rec;z,.v0.v1.", reduction{1, 0, "", one}}, {"@@@@@cord.rec;z,.v0.v1.v2.v3.", reduction{1, 0, "", one}}, {"@@@@clist.rec;z,z,.v0.v1.v2.", reduction{1, 0, "", one}}, {"@@@@ceither.rec;z,z,.v0.v1.v2.", reduction{0, 0, "", nil}},
	} {
		f.want.term = f.text + "cone;."
		checkReduction(t, env, f.want.term, f.want)
	}
}

// TestWhnfRecursorInsideAnElement has recursors whose elements are recursors themselves.
func TestWhnfRecursorInsideAnElement(t *testing.T) {
	both := []string{"nat.rec", "one"}
	count := func(element string) string {
		return "@@@@cnat.rec;z,.v0.cnat.zero;.lcnat;.lcnat;.@cnat.succ;.v0." + element
	}
	checkReductionFigures(t, whnfEnv(), []reductionFigure{
		// The inner one is reduced to a constructor.
		{onElement(count("cnat.zero;.")), reduction{2, 0, "v1.", []string{"nat.rec"}}}, {onElement(count(count(count("cnat.zero;.")))), reduction{4, 0, "v1.", []string{"nat.rec"}}},
		{count("cone;."), reduction{4, 0, "@cnat.succ;." + count("cnat.zero;."), both}}, {onElement(count("cone;.")), reduction{5, 0, "@@v2." + count("cnat.zero;.") + onElement(count("cnat.zero;.")), both}}, {count(count("cone;.")), reduction{7, 0, "@cnat.succ;." + count(count("cnat.zero;.")), both}},
		{"@" + onElement("@"+"@@@@cnat.rec;z,.v0.lsz.v0.v2.cnat.zero;."+"cnat.zero;.") + "v9.", reduction{3, 0, "@v1.v9.", []string{"nat.rec"}}},
		// The inner one has a step, but its result is no constructor, so that the outer one has none.
		{onElement(onElement("cnat.zero;.")), reduction{1, 0, onElement(onElement("cnat.zero;.")), []string{"nat.rec"}}}, {onElement(onElement("cone;.")), reduction{2, 0, onElement(onElement("cone;.")), both}}, {onElement(onElement(onElement("cone;."))), reduction{2, 0, onElement(onElement(onElement("cone;."))), both}}, {onElement(count(onElement("cone;."))), reduction{2, 0, onElement(count(onElement("cone;."))), both}},
		// Neither has a step.
		{onElement(onElement("v3.")), reduction{0, 0, onElement(onElement("v3.")), nil}}, {onElement(count(count("cord.zero;."))), reduction{0, 0, onElement(count(count("cord.zero;."))), nil}}, {onElement(count(count("@cone;.v3."))), reduction{1, 0, onElement(count(count("@cone;.v3."))), []string{"one"}}},
		// Recursors of several data types.
		{onElement("@@@@clist.rec;z,z,.v0.cnat.zero;.v2.clist.nil;z,."), reduction{2, 0, "v1.", []string{"list.rec", "nat.rec"}}}, {onElement("@@@@@cord.rec;z,.v0.v1.v2.lsz.lsz.cone;.@cord.lim;.v5."), reduction{5, 0, "@@v2.cnat.zero;.@@@@cnat.rec;z,.v0.v1.v2.cnat.zero;.", []string{"nat.rec", "one", "ord.rec"}}}, {"@@cfalse.rec;.v0." + onElement("cone;."), reduction{2, 0, "@@cfalse.rec;.v0." + onElement("cone;."), both}},
		// A recursor in the place of a function, and behind a step.
		{"@@@@@cnat.rec;z,.v0.lsz.v0.v2.cnat.zero;.v8.", reduction{2, 0, "v8.", []string{"nat.rec"}}}, {"@lsz." + strings.ReplaceAll(onElement("v0."), "v2.", "v5.") + "cnat.zero;.", reduction{2, 0, "v0.", []string{"nat.rec"}}}, {"@@@@cnat.rec;z,.v0." + onElement("cnat.zero;.") + "v2.cnat.zero;.", reduction{2, 0, "v1.", []string{"nat.rec"}}},
	})
}

// TestWhnfFuelThatRunsOut gives what has been seen when the fuel runs out, also in an inner reduction.
func TestWhnfFuelThatRunsOut(t *testing.T) {
	out := func(seen ...string) impl.Got { return impl.Got{Code: impl.CkFuel, Seen: seen} }
	figures := []struct {
		text string
		// wants has the result for each fuel that is not enough.
		wants []impl.Got
	}{
		{"cone;.", []impl.Got{out()}}, {"@lsz.v0.v1.", []impl.Got{out()}}, {"tsz.v0.v0.", []impl.Got{out()}}, {onElement("cnat.zero;."), []impl.Got{out()}},
		{"@@cid;z,.cnat;.cone;.", []impl.Got{out(), out("id"), out("id"), out("id")}},
		// In the element, between it and the step, and behind the step.
		{onElement("cone;."), []impl.Got{out(), out("one")}}, {onElement("@lsz.v0.v3."), []impl.Got{out()}}, {onElement("@@cid;z,.cnat;.v3."), []impl.Got{out(), out("id"), out("id")}}, {onElement("@cone;.v3."), []impl.Got{out()}},
		{"@@@@cnat.rec;z,.v0.cone;.v2.cnat.zero;.", []impl.Got{out(), out("nat.rec")}}, {"@@@@cnat.rec;z,.v0.v1.lsz.lsz.v0.ctwo;.", []impl.Got{out(), out("two"), out("nat.rec", "two"), out("nat.rec", "two"), out("nat.rec", "two"), out("nat.rec", "one", "two"), out("nat.rec", "one", "two"), out("nat.rec", "one", "two"), out("nat.rec", "one", "two")}},
		{onElement(onElement("cone;.")), []impl.Got{out(), out("one")}}, {onElement("@@@@cnat.rec;z,.v0.cnat.zero;.v2.cnat.zero;."), []impl.Got{out(), out("nat.rec")}},
	}
	env := whnfEnv()
	for _, f := range figures {
		for fuel, want := range f.wants {
			checkWhnf(t, env, f.text, fuel, want)
		}
		if want := checkWantWhnf(t, env, f.text, len(f.wants)); want.Code != 0 || want.Fuel != 0 {
			t.Errorf("the test has %v for %q with the fuel %d", want, f.text, len(f.wants))
		}
	}
	// Whatever the fuel is, it is not enough.
	omega := "@lsz.@v0.v0.lsz.@v0.v0."
	for _, fuel := range []int{0, 1, 2, 3, 10, 100, 4999, 5000} {
		checkWhnf(t, nil, omega, fuel, out())
		for _, s := range []string{"cloop;.", "@cloop;.v0.", onElement("cloop;."), onElement(onElement("cloop;.")), "@@cfalse.rec;.v0.cloop;."} {
			if fuel == 0 {
				checkWhnf(t, env, s, fuel, out())
			} else {
				checkWhnf(t, env, s, fuel, out("loop"))
			}
		}
	}
	for _, s := range []string{omega, "cloop;.", onElement("cloop;.")} {
		checkIsWhnf(t, env, s, false)
	}
}

// chainOf returns definitions of which each is unfolded to the next one, and the last one to the sort.
func chainOf(count int) []impl.Entry {
	env := entriesOf(falseData())
	for at := range count - 1 {
		env = append(env, entriesOf(definition("n"+strconv.Itoa(at), 0, "cn"+strconv.Itoa(at+1)+";."))...)
	}
	return append(env, entriesOf(definition("n"+strconv.Itoa(count-1), 0, "sz."))...)
}

// TestWhnfAllFuel has terms that need exactly all fuel that there can be, and one unit less and more.
func TestWhnfAllFuel(t *testing.T) {
	for count := 4999; count <= 5001; count++ {
		env := chainOf(count)
		// The first two names are those of the data type.
		names := impl.Known(env)[2:]
		inner := "@@cfalse.rec;.v0.cn0;."
		got, gotInner := impl.Whnf(env, "cn0;.", impl.MaxFuel), impl.Whnf(env, inner, impl.MaxFuel)
		want := impl.Got{Term: "sz.", Fuel: impl.MaxFuel - count, Seen: names}
		wantInner := impl.Got{Term: inner, Fuel: impl.MaxFuel - count, Seen: names}
		if count > impl.MaxFuel {
			// The last definition is the only one that is not unfolded.
			names = slices.DeleteFunc(names, func(name string) bool { return name == "n5000" })
			want = impl.Got{Code: impl.CkFuel, Seen: names}
			wantInner = want
		}
		if !sameGot(got, want) || !sameGot(gotInner, wantInner) {
			t.Errorf("Whnf of %d definitions has the codes %d and %d, the fuel %d and %d, and %d and %d names", count, got.Code, gotInner.Code, got.Fuel, gotInner.Fuel, len(got.Seen), len(gotInner.Seen))
		}
		checkIsWhnf(t, env, inner, count <= impl.MaxFuel)
		checkIsWhnf(t, env, "cn0;.", false)
		checkIsWhnf(t, env, "@v0.cn0;.", true)
	}
}

// TestWhnfTermsThatAreTooLong has results with exactly the greatest number of bytes, and with one more; the unit is used.
func TestWhnfTermsThatAreTooLong(t *testing.T) {
	long := strings.Repeat("+", 59) + "z"
	env := append(whnfEnv(), entriesOf(definition("wide", 0, plainText(1500)), definition("levels", 1, strings.Repeat("@su0.", 100)+"su0."))...)
	size := reduction{1, impl.CkSize, "", nil}
	checkReductionFigures(t, env, []reductionFigure{
		// PutIn: the result is too long, or a variable is too great.
		{"@lsz.@v0.v0." + plainText(999), reduction{1, 0, "@" + plainText(999) + plainText(999), nil}}, {"@lsz.@v0.v0." + plainText(1000), size}, {"@lsz.psz.@v1.v1." + plainText(1000), size}, {"tsz." + plainText(999) + "@v0.v0.", reduction{1, 0, "@" + plainText(999) + plainText(999), nil}}, {"tsz." + plainText(1000) + "@v0.v0.", size},
		{"@lsz.lsz.v1.v998.", reduction{1, 0, "lsz.v999.", nil}}, {"@lsz.lsz.v1.v999.", size}, {"@lsz.lsz.v0.v999.", reduction{1, 0, "lsz.v0.", nil}}, {"@lsz.v0.v999.", reduction{1, 0, "v999.", nil}}, {"tsz.v999.psz.v1.", size}, {"tsz.v999.psz.v2.", reduction{1, 0, "psz.v1.", nil}}, {"@tsz.v999.psz.v1.v0.", size}, {"@@lsz.lsz.v1.v999.v0.", size},
		// Given: the result without the arguments would not be too long.
		{"@@lsz.@v0.v0." + plainText(600) + plainText(797), reduction{1, 0, "@@" + plainText(600) + plainText(600) + plainText(797), nil}}, {"@@lsz.@v0.v0." + plainText(600) + plainText(798), reduction{1, 0, "@@" + plainText(600) + plainText(600) + plainText(798), nil}}, {"@@lsz.@v0.v0." + plainText(600) + plainText(799), size}, {"@tsz." + plainText(600) + "@v0.v0." + plainText(798), reduction{1, 0, "@@" + plainText(600) + plainText(600) + plainText(798), nil}}, {"@tsz." + plainText(600) + "@v0.v0." + plainText(799), size},
		{"@cwide;." + plainText(499), reduction{1, 0, "@" + plainText(1500) + plainText(499), []string{"wide"}}}, {"@cwide;." + plainText(500), size}, {"@@cwide;.v0." + plainText(495), reduction{1, 0, "@@" + plainText(1500) + "v0." + plainText(495), []string{"wide"}}}, {"@@cwide;.v0." + plainText(496), size},
		// ValueFor: a level or the whole is too long.
		{"cup;" + long[1:] + ",.", reduction{1, 0, "s" + long + ".", []string{"up"}}}, {"cup;" + long + ",.", size}, {"@cup;" + long + ",.v0.", size}, {"clevels;++++++++++++++z,.", reduction{1, 0, strings.Repeat("@s++++++++++++++z.", 100) + "s++++++++++++++z.", []string{"levels"}}}, {"clevels;+++++++++++++++++z,.", size},
		// RecStep: the data type is not positive, the result is too long, or a variable is too great.
		{"@@@cbad.rec;z,.v0.v1.@cbad.mk;.v2.", size}, {"@@@@cbad.rec;z,.v0.v1.@cbad.mk;.v2.v3.", size}, {"@@@cbad.rec;z,.v0.v1.v2.", reduction{0, 0, "@@@cbad.rec;z,.v0.v1.v2.", nil}}, {"@@@cbad.rec;z,.v0.v1.cbad.mk;.", reduction{0, 0, "@@@cbad.rec;z,.v0.v1.cbad.mk;.", nil}},
		{onElement("@cnat.succ;." + plainText(985)), reduction{1, 0, "@@v2." + plainText(985) + onElement(plainText(985)), []string{"nat.rec"}}}, {onElement("@cnat.succ;." + plainText(986)), size}, {onElement("@cnat.succ;." + plainText(1900)), size},
		{"@@@@@cord.rec;z,.v0.v1.v2.v3.@cord.lim;.v999.", size}, {"@@@@@cord.rec;z,.v999.v1.v2.v3.@cord.lim;.v4.", size}, {"@@@@@cord.rec;z,.v999.v1.v2.v3.@cord.succ;.v999.", reduction{1, 0, "@@v2.v999.@@@@@cord.rec;z,.v999.v1.v2.v3.v999.", []string{"ord.rec"}}},
		// Given behind RecStep.
		{"@" + onElement("@cnat.succ;."+plainText(500)) + plainText(969), reduction{1, 0, "@@@v2." + plainText(500) + onElement(plainText(500)) + plainText(969), []string{"nat.rec"}}}, {"@" + onElement("@cnat.succ;."+plainText(500)) + plainText(970), size}, {"@@" + onElement("@cnat.succ;."+plainText(500)) + "v0." + plainText(966), size},
		// In an inner reduction, and behind other steps.
		{onElement("@lsz.@v0.v0." + plainText(999)), reduction{1, 0, onElement("@lsz.@v0.v0." + plainText(999)), nil}}, {onElement("@lsz.@v0.v0." + plainText(1000)), size}, {onElement("@lsz.lsz.v1.v999."), size}, {onElement(onElement("@lsz.lsz.v1.v999.")), size}, {onElement("@@@cbad.rec;z,.v0.v1.@cbad.mk;.v2."), size}, {onElement("cup;" + long + ",."), size}, {"@@cfalse.rec;.v0.tsz.v999.psz.v1.", size},
		{"@tsz." + plainText(995) + "lsz.@v1.v1.v0.", reduction{2, 0, "@" + plainText(995) + plainText(995), nil}}, {"@tsz." + plainText(996) + "lsz.@v1.v1.v0.", size},
		{"@lsz.@lsz.lsz.v1.v0.v999.", reduction{2, impl.CkSize, "", nil}}, {"@@cid;z,.v0.@lsz.lsz.v1.v999.", reduction{4, impl.CkSize, "", []string{"id"}}}, {onElement("@@cid;z,.v0.@lsz.lsz.v1.v999."), reduction{4, impl.CkSize, "", []string{"id"}}}, {"@@cid;z,.v0.cup;" + long + ",.", reduction{4, impl.CkSize, "", []string{"id"}}}, {onElement(onElement("@@cid;z,.v0.cone;.")), reduction{5, 0, onElement(onElement("@@cid;z,.v0.cone;.")), []string{"id", "nat.rec", "one"}}},
		{"@@@@cnat.rec;z,.v0.@lsz.lsz.v1.v999.v2.cone;.", reduction{2, 0, "@@v2.cnat.zero;.@@@@cnat.rec;z,.v0.@lsz.lsz.v1.v999.v2.cnat.zero;.", []string{"nat.rec", "one"}}}, {"@@@@cnat.rec;z,.v0.@lsz.lsz.v1.v999.v2.cnat.zero;.", reduction{2, impl.CkSize, "", []string{"nat.rec"}}},
	})
}

// TestWhnfTermLimits finds the greatest terms of each step, byte by byte.
func TestWhnfTermLimits(t *testing.T) {
	env := whnfEnv()
	for _, textOf := range []func(size int) string{
		func(size int) string { return "@lsz.@v0.v0." + plainText(size) },
		func(size int) string { return "@@lsz.@v0.v0." + plainText(size) + "v3." },
		func(size int) string { return "tsz." + plainText(size) + "lv0.v1." },
		func(size int) string { return "@tsz." + plainText(size) + "@v0.v0.v3." },
		func(size int) string { return "@@cone;.v0." + plainText(size) },
		func(size int) string { return "@@cpair;+++++++++z,z,.v0." + plainText(size) },
		func(size int) string { return onElement("@cnat.succ;." + plainText(size)) },
		func(size int) string { return "@" + onElement("cone;.") + plainText(size) },
		func(size int) string { return "@@@@@cord.rec;z,.v0.v1.v2.v9." + "@cord.lim;.@v9." + plainText(size) },
	} {
		sizes := sizesAround(func(size int) int { return len(wantWhnf(env, textOf(size), 2).Term) })
		lengths := map[int]bool{}
		for _, size := range sizes {
			for _, fuel := range []int{0, 1, 2, impl.MaxFuel} {
				lengths[len(checkWantWhnf(t, env, textOf(size), fuel).Term)] = true
			}
		}
		if !lengths[0] || !lengths[2000] && !lengths[1999] {
			t.Errorf("the test finds the lengths %v for %.60q", lengths, textOf(100))
		}
	}
}

// TestWhnfInvalidArguments has texts that are no terms, and numbers that are no fuel.
func TestWhnfInvalidArguments(t *testing.T) {
	none := impl.Got{Code: impl.CkSize}
	for _, env := range [][]impl.Entry{nil, {}, whnfEnv()} {
		for _, s := range someNoTerms() {
			for _, fuel := range []int{0, 1, 100, 5000, -1, 5001} {
				checkWhnf(t, env, s, fuel, none)
			}
			checkIsWhnf(t, env, s, false)
		}
		for _, s := range []string{"v0.", "sz.", "cone;.", "cloop;.", "@lsz.v0.v1.", "tsz.v0.v0.", onElement("cone;."), onElement("v3.")} {
			for _, fuel := range []int{-1, -2, -5000, 5001, 5002, 1000000000, math.MinInt, math.MaxInt} {
				checkWhnf(t, env, s, fuel, none)
			}
		}
	}
	if seen := impl.Unfolds(whnfEnv(), "v0.", 10); len(seen) != 0 {
		t.Errorf("Unfolds = %q where nothing is unfolded", seen)
	}
}

// TestWhnfNameThatTwoEntriesHave has each pair of declarations with one name, of which the first one counts.
func TestWhnfNameThatTwoEntriesHave(t *testing.T) {
	for _, name := range []string{"a.b", "a.rec"} {
		for _, first := range declsNamed(name) {
			for _, second := range declsNamed(name) {
				for _, env := range [][]impl.Entry{entriesOf(first, second), entriesOf(natData(), first, second, first)} {
					for count := range impl.MaxParams + 1 {
						head := constantTree(name, selfParams[:count]...).text
						alone := wantWhnf(entriesOf(first), head, 10)
						checkWhnf(t, env, head, 10, alone)
						checkWantWhnf(t, env, "@@@"+head+"v0.v1.v2.", 10)
						checkWantWhnf(t, env, "@@@"+head+"v0.v1.ca.x;.", 10)
					}
				}
			}
		}
	}
	axiom := func(name string) impl.Decl { return impl.Decl{Kind: impl.DkAxiom, Name: name, Type: "sz."} }
	invalid := definition("a", 0, "v0.")
	first, second := definition("a", 0, "sz."), definition("a", 0, "s+z.")
	// The second nat has a constructor that the first one does not have.
	other := natData()
	other.Ctors = append(other.Ctors, impl.Ctor{Name: "nat.more", Type: "cnat;."})
	stuck := func(s string) reduction { return reduction{0, 0, s, nil} }
	figures := []struct {
		env  []impl.Entry
		text string
		want reduction
	}{
		{entriesOf(first, second), "ca;.", reduction{1, 0, "sz.", []string{"a"}}}, {entriesOf(second, first), "ca;.", reduction{1, 0, "s+z.", []string{"a"}}}, {entriesOf(invalid, second, first), "ca;.", reduction{1, 0, "s+z.", []string{"a"}}}, {entriesOf(invalid), "ca;.", stuck("ca;.")}, {entriesOf(axiom("a"), first), "ca;.", stuck("ca;.")}, {entriesOf(first, axiom("a")), "ca;.", reduction{1, 0, "sz.", []string{"a"}}},
		{entriesOf(natData(), other), onElement("cnat.zero;."), reduction{1, 0, "v1.", []string{"nat.rec"}}}, {entriesOf(natData(), other), onElement("cnat.more;."), stuck(onElement("cnat.more;."))}, {entriesOf(natData(), other), "@" + onElement("cnat.more;.") + "v4.", stuck("@" + onElement("cnat.more;.") + "v4.")}, {entriesOf(other, natData()), onElement("cnat.more;."), stuck(onElement("cnat.more;."))}, {entriesOf(other, natData()), "@@@@@cnat.rec;z,.v0.v1.v2.v3.cnat.more;.", reduction{1, 0, "v3.", []string{"nat.rec"}}},
		// The name of a constructor or of the recursor belongs to another entry, unless that is not valid.
		{entriesOf(axiom("nat.zero"), natData()), onElement("cnat.zero;."), stuck(onElement("cnat.zero;."))}, {entriesOf(axiom("nat.zero"), natData()), onElement("@cnat.succ;.v3."), reduction{1, 0, "@@v2.v3." + onElement("v3."), []string{"nat.rec"}}}, {entriesOf(natData(), axiom("nat.zero")), onElement("cnat.zero;."), reduction{1, 0, "v1.", []string{"nat.rec"}}}, {entriesOf(axiom("nat.rec"), natData()), onElement("cnat.zero;."), stuck(onElement("cnat.zero;."))}, {entriesOf(definition("nat.rec", 1, "v0."), natData()), onElement("cnat.zero;."), reduction{1, 0, "v1.", []string{"nat.rec"}}}, {entriesOf(definition("nat.rec", 1, "lsu0.v0."), natData()), onElement("cnat.zero;."), reduction{2, 0, "@@@v0.v1.v2.cnat.zero;.", []string{"nat.rec"}}},
		{entriesOf(axiom("nat"), natData()), onElement("cnat.zero;."), reduction{1, 0, "v1.", []string{"nat.rec"}}}, {entriesOf(definition("nat.zero", 0, "@cnat.succ;.v9."), natData()), onElement("cnat.zero;."), reduction{1, 0, "v1.", []string{"nat.rec"}}}, {entriesOf(definition("nat.zero", 0, "@cnat.succ;.sz."), natData()), onElement("cnat.zero;."), reduction{2, 0, "@@v2.sz." + onElement("sz."), []string{"nat.rec", "nat.zero"}}},
	}
	for _, f := range figures {
		checkReduction(t, f.env, f.text, f.want)
	}
}

// numberText returns the number n.
func numberText(n int) string {
	return strings.Repeat("@cnat.succ;.", n) + "cnat.zero;."
}

// TestReducedNumbersAreNotReducedFurther checks promise 13 for numbers, and for what is reduced to a number constructor by constructor.
func TestReducedNumbersAreNotReducedFurther(t *testing.T) {
	env := whnfEnv()
	for n := range 40 {
		s := numberText(n)
		checkReduction(t, env, s, reduction{0, 0, s, nil})
	}
	for a := range 6 {
		for b := range 6 {
			s, seen := "@@cadd;."+numberText(a)+numberText(b), map[string]bool{}
			for n := 0; ; n++ {
				got := checkWantWhnf(t, env, s, 100)
				checkReducedTerm(t, env, got.Term)
				for _, name := range got.Seen {
					seen[name] = true
				}
				head, args := impl.HeadOf(got.Term), impl.ArgsOf(got.Term)
				if head == "cnat.zero;." && len(args) == 0 {
					if n != a+b || !seen["add"] || !seen["nat.rec"] {
						t.Errorf("%d and %d are %d, after %v", a, b, n, seen)
					}
					break
				}
				if head != "cnat.succ;." || len(args) != 1 || n > a+b {
					t.Fatalf("%d and %d are %q after %d steps", a, b, got.Term, n)
				}
				s = args[0]
			}
		}
	}
}

// reducibleTerm returns a term over the names of whnfEnv that often has steps, with this many binders around it.
func reducibleTerm(source *rand.Rand, depth int, binders int) string {
	some := func() string { return reducibleTerm(source, depth-1, binders) }
	under := func() string { return reducibleTerm(source, depth-1, binders+1) }
	if depth == 0 {
		leaves := []string{"cnat.zero;.", "cone;.", "ctwo;.", "cnat;.", "cadd;.", "cnat.succ;.", "cloop;.", "sz.", "cord.zero;.", "cem;z,.", "cup;z,.", "v" + strconv.Itoa(source.Intn(binders+3)) + "."}
		if source.Intn(40) == 0 {
			return []string{"v998.", "v999.", "cup;" + strings.Repeat("+", 59) + "z,.", plainText(500 + source.Intn(300))}[source.Intn(4)]
		}
		return leaves[source.Intn(len(leaves))]
	}
	switch source.Intn(16) {
	case 0, 1:
		return "@l" + some() + under() + some()
	case 2:
		return "@@lsz.lsz." + reducibleTerm(source, depth-1, binders+2) + some() + some()
	case 3:
		return "t" + some() + some() + under()
	case 4:
		return "@" + some() + some()
	case 5:
		return "@@cid;z,.cnat;." + some()
	case 6:
		return "@@cadd;." + some() + some()
	case 7:
		return "@cnat.succ;." + some()
	case 8, 9, 10:
		return "@@@@cnat.rec;z,." + some() + some() + "lsz.lsz." + reducibleTerm(source, depth-1, binders+2) + some()
	case 11:
		return "@@@@clist.rec;z,z,." + some() + some() + some() + []string{"clist.nil;z,.", "@@clist.cons;z,." + some() + some()}[source.Intn(2)]
	case 12:
		return "@@@@@cord.rec;z,." + some() + some() + some() + some() + []string{"@cord.lim;.", "@cord.succ;.", ""}[source.Intn(3)] + some()
	case 13:
		return "@@@cw.rec;z,." + some() + some() + "@@cw.sup;." + some() + some()
	case 14:
		return []string{"l", "p"}[source.Intn(2)] + some() + under()
	}
	return []string{"@@cfalse.rec;." + some() + some(), "@@@cbad.rec;z,." + some() + some() + "@cbad.mk;." + some(), "@@cid;z,z,." + some() + some(), "@@@@@cnat.rec;z,." + some() + some() + some() + some() + some()}[source.Intn(4)]
}

// checkPromise13 checks that more fuel gives the same result and leaves as much more, and that less fuel runs out; it returns the code.
func checkPromise13(t *testing.T, source *rand.Rand, env []impl.Entry, s string) int {
	t.Helper()
	all := impl.Whnf(env, s, impl.MaxFuel)
	used := impl.MaxFuel - all.Fuel
	if all.Code == impl.CkFuel {
		checkWantWhnf(t, env, s, source.Intn(20))
		return all.Code
	}
	for _, fuel := range []int{used, used + 1, used + source.Intn(100), 4999} {
		got := impl.Whnf(env, s, fuel)
		if fuel >= used && (got.Fuel != fuel-used || got.Code != all.Code || got.Term != all.Term || !slices.Equal(got.Seen, all.Seen)) {
			t.Errorf("Whnf(%.300q) with the fuel %d = %s, and with all fuel %s", s, fuel, gotText(got), gotText(all))
		}
	}
	checkWantWhnf(t, env, s, used)
	if used > 0 {
		checkWantWhnf(t, env, s, source.Intn(used))
		if got := impl.Whnf(env, s, used-1); got.Code != impl.CkFuel || got.Term != "" || got.Fuel != 0 {
			t.Errorf("Whnf(%.300q) with the fuel %d = %s, but it needs %d", s, used-1, gotText(got), used)
		}
	}
	checkIsWhnf(t, env, s, all.Code == 0 && all.Term == s)
	if all.Code == 0 {
		checkReducedTerm(t, env, all.Term)
	}
	return all.Code
}

// TestMoreFuelGivesTheSameResult checks promise 13 with random terms.
func TestMoreFuelGivesTheSameResult(t *testing.T) {
	source := rand.New(rand.NewSource(13))
	env := whnfEnv()
	codes, recursors, several := map[int]int{}, 0, 0
	for range 2000 {
		s := reducibleTerm(source, 1+source.Intn(4), 0)
		if _, ok := treeOf(s); !ok {
			checkWhnf(t, env, s, source.Intn(5001), impl.Got{Code: impl.CkSize})
			continue
		}
		codes[checkPromise13(t, source, env, s)]++
		seen := impl.Unfolds(env, s, 50)
		if several += len(seen) / 3; slices.Contains(seen, "nat.rec") {
			recursors++
		}
	}
	if codes[0] < 1000 || codes[impl.CkFuel] < 50 || codes[impl.CkSize] < 50 || recursors < 100 || several < 50 {
		t.Errorf("the test finds the codes %v, %d recursors, and often %d names", codes, recursors, several)
	}
}

// TestWhnfRandomEntries has entries that often have the same names, some of which are not valid, and terms over these names.
func TestWhnfRandomEntries(t *testing.T) {
	source := rand.New(rand.NewSource(130))
	stepped, recursors := 0, 0
	for range 500 {
		env := randomEnv(source)
		names := possibleNames(env)
		for range 6 {
			name := names[source.Intn(len(names))]
			levels := []string{}
			for range max(0, impl.LevelsFor(env, name)+source.Intn(2)*source.Intn(2)) {
				levels = append(levels, randomLevel(source, 1+source.Intn(6)))
			}
			s := impl.ConstText(name, levels)
			for range source.Intn(6) {
				if arg := treeOfSize(source, 3+source.Intn(20)).text; s != "" {
					s = "@" + s + arg
				}
			}
			fuel := source.Intn(30)
			if want := checkWantWhnf(t, env, s, fuel); want.Code == 0 && want.Fuel < fuel {
				stepped++
			}
		}
		recursors += checkRandomRecursors(t, source, env)
	}
	if stepped < 50 || recursors < 200 {
		t.Errorf("the test has only %d terms and %d recursors with steps", stepped, recursors)
	}
}

// checkRandomRecursors checks a recursor of each data type with a constructor, whose arguments are as many as they should be or one more, and returns how many have a step.
func checkRandomRecursors(t *testing.T, source *rand.Rand, env []impl.Entry) int {
	t.Helper()
	stepped := 0
	for _, entry := range env {
		d := entry.Decl
		if d.Kind != impl.DkData || !wantDeclOk(d) || len(d.Ctors) == 0 {
			continue
		}
		call := randomStep(source, d, source.Intn(len(d.Ctors)))
		if source.Intn(6) == 0 {
			call.given = append(call.given, "v0.")
		}
		element := strings.Repeat("@", len(call.given)) + constantTree(d.Ctors[call.k].Name, selfParams[:d.Params]...).text + strings.Join(call.given, "")
		s := strings.Repeat("@", len(call.args)+1) + constantTree(d.Name+".rec", call.levels...).text + strings.Join(call.args, "") + element
		checkWantWhnf(t, env, s, source.Intn(5))
		if want := checkWantWhnf(t, env, "@"+s+"sz.", 20); slices.Contains(want.Seen, d.Name+".rec") {
			stepped++
		}
	}
	return stepped
}

// TestWhnfManyRecursorsInsideEachOther has as many recursors that wait for each other as fuel allows: each unit of fuel adds a term full of them.
func TestWhnfManyRecursorsInsideEachOther(t *testing.T) {
	nest := strings.Repeat("@@cfalse.rec;.sz.", 100)
	env := entriesOf(falseData(), definition("d", 0, nest+"cd;."), definition("e", 0, nest+"cf;."), definition("f", 0, nest+"sz."))
	got := impl.Whnf(env, "cd;.", impl.MaxFuel)
	if !sameGot(got, impl.Got{Code: impl.CkFuel, Seen: []string{"d"}}) {
		t.Errorf("Whnf = %v", got)
	}
	checkReduction(t, env, "ce;.", reduction{2, 0, nest + "cf;.", []string{"e", "f"}})
	checkReduction(t, env, nest+"v0.", reduction{0, 0, nest + "v0.", nil})
}

func TestWhnfLeavesSpareCapacity(t *testing.T) {
	ctors := append(slices.Clone(natData().Ctors), impl.Ctor{Name: "nat.more", Type: "cnat;."}, impl.Ctor{Name: "spare", Type: "spare"})
	nat := natData()
	nat.Ctors = ctors[:2]
	spare := impl.Entry{Decl: definition("spare", 0, "sz."), Labels: []impl.Label{{Kind: 1, Name: "spare"}}}
	backing := append(entriesOf(nat, idDef(), definition("one", 0, "@cnat.succ;.cnat.zero;.")), spare, spare)
	kept, keptCtors := copyOf(backing), slices.Clone(ctors)
	for count := range len(backing) - 1 {
		for _, s := range []string{"cone;.", "cspare;.", onElement("cone;."), onElement("cnat.more;."), "@@cid;z,.cnat;.cone;."} {
			for _, fuel := range []int{0, 1, 3, 5000} {
				checkWantWhnf(t, backing[:count], s, fuel)
			}
		}
	}
	if !reflect.DeepEqual(backing, kept) || !slices.Equal(ctors, keptCtors) {
		t.Errorf("the memory of the arguments was changed: %q, %q", stringsIn(backing), ctors)
	}
}

// TestWhnfResultsAreNewMemory changes results and arguments; the memory of the strings is compared by the checks above.
func TestWhnfResultsAreNewMemory(t *testing.T) {
	env := entriesOf(natData(), definition("one", 0, "@cnat.succ;.cnat.zero;."))
	first, second := impl.Whnf(env, onElement("cone;."), 10), impl.Whnf(env, onElement("cone;."), 10)
	names := impl.Unfolds(env, onElement("cone;."), 10)
	first.Seen[0], names[1] = "changed", "changed"
	if third := impl.Whnf(env, onElement("cone;."), 10); !sameGot(second, third) || !slices.Equal(second.Seen, []string{"nat.rec", "one"}) {
		t.Errorf("a changed result changed others to %v and %v", second, third)
	}
	// Nothing is kept from the calls before: changed entries have their own results.
	env[1].Decl.Value, env[0].Decl.Ctors[1] = "cnat.zero;.", impl.Ctor{Name: "nat.other", Type: "cnat;."}
	checkReduction(t, env, onElement("cone;."), reduction{2, 0, "v1.", []string{"nat.rec", "one"}})
	checkReduction(t, env, onElement("@cnat.succ;.v3."), reduction{0, 0, onElement("@cnat.succ;.v3."), nil})
	checkReduction(t, env, onElement("cnat.other;."), reduction{1, 0, "v2.", []string{"nat.rec"}})
}
