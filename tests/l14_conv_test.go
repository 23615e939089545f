package tests

import (
	"math"
	"math/rand"
	"reflect"
	"slices"
	"strconv"
	"strings"
	"testing"

	"loop.example/g00963/impl"
)

// partsIn returns the two terms of which a function or a function type consists.
func partsIn(s string) (string, string) {
	first := firstTerm(s[1:])
	return first, s[1+len(first):]
}

func sameLevel(a string, b string) bool {
	return atMost(a, b) && atMost(b, a)
}

// sameFixedHead decides whether two heads are one variable, or one constant with levels of the same values.
func sameFixedHead(a string, b string) bool {
	first, _ := leafOf(a)
	second, _ := leafOf(b)
	switch {
	case a[0] == 'v':
		return a == b
	case a[0] != 'c' || b[0] != 'c' || first.name != second.name || len(first.levels) != len(second.levels):
		return false
	}
	for at := range first.levels {
		if !sameLevel(first.levels[at], second.levels[at]) {
			return false
		}
	}
	return true
}

// onOwnVariable returns s under a binder, applied to its variable, or "" with a code.
func (m *machine) onOwnVariable(s string) string {
	lifted, ok := wantLifted(s, 1, 0)
	text := withinLimits("@" + lifted + "v0.")
	if !ok || text == "" {
		m.code = 2
		return ""
	}
	return text
}

// equal is an independent description of a comparison, which has texts instead of terms.
func (m *machine) equal(a string, b string) bool {
	if m.fuel == 0 {
		m.code = 1
		return false
	}
	m.fuel--
	if a == b {
		return true
	}
	if a = m.whnf(a); m.code == 0 {
		b = m.whnf(b)
	}
	if m.code != 0 || a == b {
		return m.code == 0
	}
	return m.equalReduced(a, b)
}

func (m *machine) equalReduced(a string, b string) bool {
	switch a[:1] + b[:1] {
	case "ss":
		return sameLevel(a[1:len(a)-1], b[1:len(b)-1])
	case "pp", "ll":
		firstOfA, secondOfA := partsIn(a)
		firstOfB, secondOfB := partsIn(b)
		return m.equal(firstOfA, firstOfB) && m.equal(secondOfA, secondOfB)
	}
	if a[0] == 'l' {
		_, body := partsIn(a)
		other := m.onOwnVariable(b)
		return m.code == 0 && m.equal(body, other)
	}
	if b[0] == 'l' {
		_, body := partsIn(b)
		other := m.onOwnVariable(a)
		return m.code == 0 && m.equal(other, body)
	}
	headOfA, argsOfA := wantHeadAndArgs(a)
	headOfB, argsOfB := wantHeadAndArgs(b)
	if !sameFixedHead(headOfA, headOfB) || len(argsOfA) != len(argsOfB) {
		return false
	}
	for at := range argsOfA {
		if !m.equal(argsOfA[at], argsOfB[at]) {
			return false
		}
	}
	return true
}

// wantConv describes Conv for all arguments.
func wantConv(env []impl.Entry, a string, b string, fuel int) (bool, impl.Got) {
	_, okA := treeOf(a)
	_, okB := treeOf(b)
	if !okA || !okB || fuel < 0 || fuel > 5000 {
		return false, impl.Got{Code: 2}
	}
	m := machine{env: env, fuel: fuel, seen: map[string]bool{}}
	equal := m.equal(a, b)
	got := impl.Got{Code: m.code, Fuel: m.fuel}
	for name := range m.seen {
		got.Seen = append(got.Seen, name)
	}
	slices.Sort(got.Seen)
	return equal, got
}

// checkConv checks Conv, and Same where it has the same fuel, and that they neither change the entries nor return memory of their arguments.
func checkConv(t *testing.T, env []impl.Entry, a string, b string, fuel int, equal bool, want impl.Got) {
	t.Helper()
	kept := copyOf(env)
	gotEqual, got := impl.Conv(env, a, b, fuel)
	if gotEqual != equal || !sameGot(got, want) {
		t.Errorf("Conv(%.300q, %.300q) with the fuel %d = %v, %s, want %v, %s", a, b, fuel, gotEqual, gotText(got), equal, gotText(want))
	}
	if fuel == 5000 {
		if same := impl.Same(env, a, b); same != equal {
			t.Errorf("Same(%.300q, %.300q) = %v, want %v", a, b, same, equal)
		}
	}
	for _, argument := range append(stringsIn(env), a, b) {
		for _, result := range got.Seen {
			checkNewString(t, result, argument)
		}
	}
	if !reflect.DeepEqual(env, kept) {
		t.Errorf("the entries %.300q were changed to %.300q", stringsIn(kept), stringsIn(env))
	}
}

// checkWantConv checks two terms of which the test itself finds out the result, and returns it.
func checkWantConv(t *testing.T, env []impl.Entry, a string, b string, fuel int) (bool, impl.Got) {
	t.Helper()
	equal, want := wantConv(env, a, b, fuel)
	checkConv(t, env, a, b, fuel, equal, want)
	return equal, want
}

// comparison is what a comparison comes to, and the fuel that it needs.
type comparison struct {
	used  int
	equal bool
	code  int
	seen  []string
}

// yes is the comparison of equal terms.
func yes(used int, seen ...string) comparison {
	return comparison{used: used, equal: true, seen: seen}
}

// no is the comparison of terms that are not equal.
func no(used int, seen ...string) comparison {
	return comparison{used: used, seen: seen}
}

// tooBig is a comparison that ends where a limit is exceeded.
func tooBig(used int, seen ...string) comparison {
	return comparison{used: used, code: impl.CkSize, seen: seen}
}

// comparisonFigure is two terms with the figures for their comparison.
type comparisonFigure struct {
	a, b string
	want comparison
}

// checkComparison checks the terms in the order given, with too little fuel, with exactly enough, and with more.
func checkComparison(t *testing.T, env []impl.Entry, a string, b string, want comparison) {
	t.Helper()
	for _, s := range []string{a, b} {
		if _, ok := treeOf(s); !ok {
			t.Fatalf("%q is no term", s)
		}
	}
	for _, fuel := range []int{want.used, want.used + 1, want.used + 2, want.used + 100, 4999, 5000} {
		if fuel <= 5000 {
			got := impl.Got{Code: want.code, Fuel: fuel - want.used, Seen: want.seen}
			checkConv(t, env, a, b, fuel, want.equal, got)
			if equal, described := wantConv(env, a, b, fuel); equal != want.equal || !sameGot(described, got) {
				t.Errorf("the test itself finds %v, %s for %.300q and %.300q, not %v, %s", equal, gotText(described), a, b, want.equal, gotText(got))
			}
		}
	}
	for fuel := range want.used {
		if equal, got := checkWantConv(t, env, a, b, fuel); equal || got.Code != impl.CkFuel || got.Fuel != 0 {
			t.Errorf("the test itself finds %v, %s for %.300q and %.300q with the fuel %d", equal, gotText(got), a, b, fuel)
		}
	}
}

// checkComparisonFigures checks both orders of the terms, unless a code ends the comparison: only then the order matters.
func checkComparisonFigures(t *testing.T, env []impl.Entry, figures []comparisonFigure) {
	t.Helper()
	for _, f := range figures {
		checkComparison(t, env, f.a, f.b, f.want)
		if f.want.code == 0 {
			checkComparison(t, env, f.b, f.a, f.want)
		}
	}
}

// someEnvs returns no entries, entries without a valid declaration, and many entries.
func someEnvs() [][]impl.Entry {
	return [][]impl.Entry{nil, {}, {{}}, whnfEnv()}
}

const (
	// oneNumber is what the definition one is unfolded to.
	oneNumber = "@cnat.succ;.cnat.zero;."
	// omegaTerm is reduced to itself.
	omegaTerm = "@lsz.@v0.v0.lsz.@v0.v0."
	// greatTerm has one step, which makes a variable too great.
	greatTerm = "@lsz.lsz.v1.v999."
)

// TestConvEqualTexts has terms that are equal before any reduction, also where a reduction would not end or would fail.
func TestConvEqualTexts(t *testing.T) {
	texts := []string{
		"v0.", "v999.", "sz.", "smu0u1.", "ca;.", "cone;.", "cnat.rec;z,.", "cem;z,u0,.", "lsz.v0.", "lsz.v1.", "psz.v0.", "@v0.v1.", "@sz.v0.", "@psz.v0.v1.", "@lsz.v0.v1.", "tsz.v0.v0.", plainText(2000),
		"cloop;.", "@v0.cloop;.", "lcloop;.cloop;.", omegaTerm, greatTerm, "l" + greatTerm + "v999.", "cup;" + strings.Repeat("+", 59) + "z,.", onElement("cone;."), onElement("cloop;."), "@@@cbad.rec;z,.v0.v1.@cbad.mk;.v2.",
	}
	for _, env := range someEnvs() {
		for _, s := range texts {
			checkComparison(t, env, s, s, yes(1))
			checkComparison(t, env, s, strings.Clone(s), yes(1))
		}
	}
}

// TestConvEqualReductions has terms whose reductions are equal, without another comparison.
func TestConvEqualReductions(t *testing.T) {
	plain := []comparisonFigure{
		{"@lsz.v0.v3.", "v3.", yes(2)}, {"@lsz.v0.v3.", "tsz.v3.v0.", yes(3)}, {"@lsz.v0.sz.", "@@lsz.lsz.v0.v1.sz.", yes(4)}, {"@lsz.@v0.cloop;.v3.", "@v3.cloop;.", yes(2)}, {"@lsz.lv0.v1.v3.", "lv3.v4.", yes(2)}, {"@lsz.pv0.v1.v3.", "tsz.v3.pv0.v1.", yes(3)}, {"@lsz.@v0.@v0.v3.v3.", "@v3.@v3.v2.", yes(2)}, {"tsz.v0.psz.v0.", "psz.v0.", yes(2)}, {"@lsz.@v0.v0.sz.", "@sz.sz.", yes(2)},
	}
	for _, env := range someEnvs() {
		checkComparisonFigures(t, env, plain)
	}
	checkComparisonFigures(t, whnfEnv(), []comparisonFigure{
		{"cone;.", oneNumber, yes(2, "one")}, {"ctwo;.", "@cnat.succ;.cone;.", yes(2, "two")}, {"cid;z,.", "lsz.lv0.v0.", yes(2, "id")}, {"@cid;z,.cnat;.", "lcnat;.v0.", yes(3, "id")}, {"cup;z,.", "s+z.", yes(2, "up")}, {"cup;z,.", "@lsz.v0.s+z.", yes(3, "up")}, {"@@cid;z,.cnat;.cone;.", "cone;.", yes(6, "id", "one")}, {"@@cid;z,.cnat;.v3.", "@@cid;u0,.sz.v3.", yes(7, "id")}, {"@@cconst;.cone;.v0.", "@@cconst;.cone;.v1.", yes(9, "const", "one")},
		{onElement("cnat.zero;."), "v1.", yes(2, "nat.rec")}, {onElement("cone;."), onElement(oneNumber), yes(4, "nat.rec", "one")}, {onElement("ctwo;."), onElement("@cnat.succ;.cone;."), yes(4, "nat.rec", "two")}, {"@" + onElement("cnat.zero;.") + "v3.", "@v1.v3.", yes(2, "nat.rec")},
	})
}

// TestConvSorts has sorts whose levels are the same text, or have the same values, or have not.
func TestConvSorts(t *testing.T) {
	for _, env := range someEnvs() {
		checkComparisonFigures(t, env, []comparisonFigure{
			{"siu0z.", "sz.", yes(1)}, {"smu0u1.", "smu1u0.", yes(1)}, {"smu0u0.", "su0.", yes(1)}, {"smzz.", "sz.", yes(1)}, {"s+mu0u1.", "sm+u0+u1.", yes(1)}, {"siu0+u1.", "smu0+u1.", yes(1)}, {"siiu0u1u1.", "siu0u1.", yes(1)}, {"sm+zu0.", "smu0+z.", yes(1)}, {"sizu2.", "su2.", yes(1)},
			{"sz.", "s+z.", no(1)}, {"su0.", "su1.", no(1)}, {"su0.", "s+u0.", no(1)}, {"siu0u1.", "smu0u1.", no(1)}, {"siu0u1.", "siu1u0.", no(1)}, {"sz.", "su2.", no(1)}, {"smu0u1.", "su0.", no(1)}, {"sm+zu0.", "su0.", no(1)}, {"s++z.", "s+z.", no(1)},
			{"@lsz.v0.siu0z.", "sz.", yes(2)}, {"@lsz.v0.sz.", "tsz.s+z.v0.", no(3)},
		})
	}
	checkComparisonFigures(t, whnfEnv(), []comparisonFigure{{"cup;z,.", "sm+zz.", yes(2, "up")}, {"cup;u0,.", "cup;iu1u0,.", no(3, "up")}, {"cup;mu0u1,.", "cup;mu1u0,.", yes(3, "up")}})
	checkLevelsInTerms(t)
}

// checkLevelsInTerms compares random levels, as those of sorts and of constants.
func checkLevelsInTerms(t *testing.T) {
	t.Helper()
	source := rand.New(rand.NewSource(140))
	found := map[bool]int{}
	for size := 1; size <= 50; size += 3 {
		level := randomLevel(source, size)
		for _, other := range kinOf(level) {
			if len(other) > 60 {
				continue
			}
			same := sameLevel(level, other)
			found[same]++
			want := comparison{used: 1, equal: same}
			checkComparison(t, nil, "s"+level+".", "s"+other+".", want)
			checkComparison(t, nil, "ca;u2,"+other+",.", "ca;u2,"+level+",.", want)
		}
	}
	if found[true] < 100 || found[false] < 100 {
		t.Errorf("the test has %v levels that are the same", found)
	}
}

// TestConvParts has two functions or two function types, of which the first parts, the second parts, or none differ.
func TestConvParts(t *testing.T) {
	for _, kind := range []string{"l", "p"} {
		for _, env := range someEnvs() {
			checkComparisonFigures(t, env, []comparisonFigure{
				{kind + "sz.v0.", kind + "v3.v0.", no(2)}, {kind + "sz.v0.", kind + "s+z.v0.", no(2)}, {kind + "sz.v0.", kind + "sz.v1.", no(3)}, {kind + "sz.v0.", kind + "s+z.v1.", no(2)}, {kind + "smzz.v0.", kind + "sz.v0.", yes(3)}, {kind + "sz.sizu0.", kind + "sz.su0.", yes(3)}, {kind + "@lsz.v0.v3.v0.", kind + "v3.v0.", yes(4)}, {kind + "sz.@lsz.v0.v3.", kind + "sz.v3.", yes(4)}, {kind + "sz.@lsz.v0.v3.", kind + "sz.v4.", no(4)}, {"@lsz." + kind + "v0.v1.v3.", kind + "v3.tsz.v4.v0.", yes(5)},
				// The second parts are not looked at behind different first parts.
				{kind + "sz.cloop;.", kind + "v3.v0.", no(2)}, {kind + "sz." + omegaTerm, kind + "s+z.v0.", no(2)}, {kind + "sz." + greatTerm, kind + "v3." + omegaTerm, no(2)}, {kind + "@lsz.v0.v3." + omegaTerm, kind + "v4.v0.", no(3)},
				// Parts inside parts.
				{kind + kind + "sz.v0.v5.", kind + kind + "sz.v1.v5.", no(4)}, {kind + kind + "sz.v0.v5.", kind + kind + "smzz.v0.v5.", yes(5)}, {kind + kind + "sz.v0." + omegaTerm, kind + kind + "sz.v1.v5.", no(4)}, {kind + "v3." + kind + "v0.smzz.", kind + "v3." + kind + "v0.sz.", yes(5)},
			})
		}
		checkComparisonFigures(t, whnfEnv(), []comparisonFigure{
			{kind + "sz.cone;.", kind + "sz." + oneNumber, yes(4, "one")}, {kind + "cone;.v0.", kind + oneNumber + "v0.", yes(4, "one")}, {kind + "cone;.ctwo;.", kind + oneNumber + "@cnat.succ;.cone;.", yes(5, "one", "two")}, {kind + "cone;.ctwo;.", kind + "cnat.zero;.cloop;.", no(3, "one")}, {kind + "cup;z,.v0.", kind + "s+z.v0.", yes(4, "up")},
		})
	}
	for _, env := range someEnvs() {
		// One of them is a function type, which is applied, and not looked into.
		checkComparisonFigures(t, env, []comparisonFigure{{"psz.v0.", "lsz.v0.", no(2)}, {"psz.sz.", "lsz.sz.", no(2)}, {"psz.v0.", "sz.", no(1)}, {"psz.sz.", "sz.", no(1)}, {"psz.v0.", "v0.", no(1)}, {"psz.v0.", "ca;.", no(1)}, {"psz.v0.", "@v0.v1.", no(1)}, {"psz.v0.", "@psz.v0.v1.", no(1)}})
	}
}

// TestConvFunctionAndOther has one function only, compared with a term of each other kind.
func TestConvFunctionAndOther(t *testing.T) {
	figures := []comparisonFigure{
		// Variables: the other term is under one more binder.
		{"lsz.@v4.v0.", "v3.", yes(2)}, {"lsz.@v3.v0.", "v3.", no(2)}, {"lsz.@v1.v0.", "v0.", yes(2)}, {"lsz.@v0.v0.", "v0.", no(2)}, {"lsz.@v4.v1.", "v3.", no(3)}, {"lsz.v0.", "v0.", no(2)}, {"lsz.v4.", "v3.", no(2)}, {"lsz.@@v4.v0.v0.", "v3.", no(2)},
		// Constants.
		{"lcnat;.@cnat.succ;.v0.", "cnat.succ;.", yes(2)}, {"lcnat;.@cnat.succ;.v1.", "cnat.succ;.", no(3)}, {"lsz.@cnobody;.v0.", "cnobody;.", yes(2)}, {"lsz.@cnobody;mzz,.v0.", "cnobody;z,.", yes(3)}, {"lsz.@cnobody;z,.v0.", "cnobody;.", no(2)}, {"lsz.cnat.succ;.", "cnat.succ;.", no(2)}, {"lcnat;.@@@@cnat.rec;z,.v1.v2.v3.v0.", "@@@cnat.rec;z,.v0.v1.v2.", yes(2)},
		// Applications, function types and sorts.
		{"lsz.@@v4.v5.v0.", "@v3.v4.", yes(2)}, {"lsz.@@v4.v5.v0.", "@v3.v3.", no(3)}, {"lsz.@v4.v0.", "@v3.v4.", no(2)}, {"lsz.@@cnat.succ;.v4.v0.", "@cnat.succ;.v3.", yes(2)}, {"lsz.@psz.v0.v0.", "psz.v0.", yes(2)}, {"lsz.@psz.v2.v0.", "psz.v1.", yes(2)}, {"lsz.@psz.v1.v0.", "psz.v1.", no(2)}, {"lsz.@pv4.v0.v0.", "pv3.v0.", yes(2)}, {"lsz.@sz.v0.", "sz.", yes(2)}, {"lsz.@sizu0.v0.", "su0.", no(2)}, {"lsz.sz.", "sz.", no(2)},
		// The type of the variable is not looked at.
		{"lcloop;.@v4.v0.", "v3.", yes(2)}, {"l" + omegaTerm + "@v4.v0.", "v3.", yes(2)}, {"l" + greatTerm + "v0.", "v3.", no(2)},
		// More than once, and with reductions.
		{"lsz.lsz.@@v5.v1.v0.", "v3.", yes(3)}, {"lsz.lsz.@@v5.v0.v1.", "v3.", no(4)}, {"lsz.lsz.lsz.@@@v6.v2.v1.v0.", "v3.", yes(4)}, {"lsz.lsz.@@v5.v1.v0.", "lsz.@v4.v0.", yes(4)}, {"lsz.@lsz.@v5.v0.v0.", "v3.", yes(3)}, {"lsz.tsz.v0.@v5.v0.", "v3.", yes(3)}, {"lsz.@v4.@lsz.v0.v0.", "v3.", yes(4)}, {"lsz.@v4.@lsz.v0.v0.", "@lsz.v0.v3.", yes(5)}, {"@lsz.lsz.@v1.v0.v3.", "v3.", yes(3)}, {"lsz.@v4.lsz.@v6.v0.", "@v3.v4.", no(2)}, {"@v3.lsz.@v5.v0.", "@v3.v4.", yes(3)}, {"psz.lsz.@v5.v0.", "psz.v4.", yes(4)},
	}
	for _, env := range someEnvs() {
		checkComparisonFigures(t, env, figures)
	}
	checkComparisonFigures(t, whnfEnv(), []comparisonFigure{
		{"cid;z,.", "v3.", no(4, "id")}, {"lsz.@cid;z,.v0.", "cid;z,.", yes(6, "id")}, {"lsu0.@cid;u0,.v0.", "cid;u0,.", yes(6, "id")}, {"lcnat;.@cid;z,.v0.", "cid;z,.", no(3, "id")}, {"lsz.cone;.", "cone;.", no(4, "one")}, {"lcnat;.@@cadd;.v1.v0.", "@cadd;.v0.", yes(8, "add")}, {"lcnat;.@cnat.succ;.@@cid;z,.cnat;.v0.", "cnat.succ;.", yes(6, "id")}, {"cconst;.", "lsz.lsz.v1.", yes(2, "const")}, {"lcnat;.cloop;.", "lsz.v3.", no(2)},
		// The element of a recursor is reduced again where the recursor is applied.
		{"lsz.v0.", onElement("@cone;.v3."), no(4, "one")}, {"lsz.@@@@@cnat.rec;z,.v1.v2.v3.@cone;.v4.v0.", onElement("@cone;.v3."), yes(3, "one")}, {"lsz.@@@@@cnat.rec;z,.v1.v2.v3.@cone;.v5.v0.", onElement("@cone;.v3."), no(13, "one")},
	})
}

// TestConvTwoFunctions has functions on both sides: the types of their variables are compared, even if both are equal to a third term.
func TestConvTwoFunctions(t *testing.T) {
	for _, env := range someEnvs() {
		checkComparisonFigures(t, env, []comparisonFigure{{"lsz.v0.", "lcnat;.v0.", no(2)}, {"lsz.@v4.v0.", "ls+z.@v4.v0.", no(2)}, {"lsz.@v4.v0.", "v3.", yes(2)}, {"ls+z.@v4.v0.", "v3.", yes(2)}, {"lsz.@v4.v0.", "lsmzz.@v4.v0.", yes(3)}, {"lv0.lv0.v0.", "lv0.lv1.v0.", no(4)}, {"lsz.lsz.v0.", "lsz.lsz.v1.", no(5)}, {"lsz.v999.", "lsz.v998.", no(3)}})
	}
}

// TestConvHeads has terms with each kind of head, equal and different ones.
func TestConvHeads(t *testing.T) {
	figures := []comparisonFigure{
		{"v0.", "v1.", no(1)}, {"v0.", "v10.", no(1)}, {"v0.", "@v0.v1.", no(1)}, {"v0.", "ca;.", no(1)}, {"v0.", "sz.", no(1)}, {"@v0.v1.", "v1.", no(1)}, {"@v0.v1.", "@v0.v2.", no(2)}, {"@v1.v0.", "@v2.v0.", no(1)}, {"@v0.smzz.", "@v0.sz.", yes(2)}, {"@v0.v1.", "@ca;.v1.", no(1)}, {"@v999.smzz.", "@v999.sz.", yes(2)},
		// Constants.
		{"ca;.", "cb;.", no(1)}, {"ca;.", "ca.a;.", no(1)}, {"ca;.", "caa;.", no(1)}, {"ca;z,.", "ca;.", no(1)}, {"ca;z,z,.", "ca;z,.", no(1)}, {"ca;z,z,z,.", "ca;z,z,.", no(1)}, {"ca;z,.", "cb;z,.", no(1)}, {"ca;mzz,.", "cb;z,.", no(1)}, {"@ca;.v1.", "@cb;.v1.", no(1)}, {"@ca;.v1.", "@ca;z,.v1.", no(1)}, {"@ca;.smzz.", "@ca;.sz.", yes(2)},
		{"ca;z,.", "ca;+z,.", no(1)}, {"ca;u0,.", "ca;u1,.", no(1)}, {"ca;mu0u1,.", "ca;mu1u0,.", yes(1)}, {"ca;u0,u1,.", "ca;u1,u0,.", no(1)}, {"ca;z,mzz,.", "ca;mzz,z,.", yes(1)}, {"ca;+z,z,.", "ca;z,z,.", no(1)}, {"ca;z,+z,.", "ca;z,z,.", no(1)}, {"ca;z,u0,u1,.", "ca;z,u0,u2,.", no(1)}, {"ca;z,u0,u1,.", "ca;mzz,izu0,mu1u1,.", yes(1)}, {"ca;mzz,u0,u1,.", "ca;z,u1,u1,.", no(1)}, {"@ca;mzz,.v1.", "@ca;z,.v1.", yes(2)}, {"@ca;z,.v1.", "@ca;+z,.v1.", no(1)},
		// Other heads are not compared.
		{"@sz.v0.", "@sz.v1.", no(1)}, {"@smzz.v0.", "@sz.v0.", no(1)}, {"@sz.@lsz.v0.v1.", "@sz.v1.", no(1)}, {"@sz.v0.", "sz.", no(1)}, {"@psz.sz.v0.", "@psz.sz.v1.", no(1)}, {"@psz.sz.smzz.", "@psz.sz.sz.", no(1)}, {"@sz.v0.", "@psz.sz.v0.", no(1)}, {"@@sz.v0.smzz.", "@@sz.v0.sz.", no(1)},
	}
	for _, env := range someEnvs() {
		checkComparisonFigures(t, env, figures)
	}
	checkComparisonFigures(t, whnfEnv(), []comparisonFigure{
		{"@ca;mzz,.cone;.", "@ca;z,." + oneNumber, yes(3, "one")}, {"cone;z,.", "cone;mzz,.", yes(1)}, {"cone;z,.", oneNumber, no(1)}, {"cone;z,.", "cone;.", no(2, "one")}, {"cone.eq;.", "@crefl;.cone;.", no(1)}, {"cem;z,.", "cem;u0,.", no(1)}, {"cem;mzz,.", "cem;z,.", yes(1)}, {"cnat;.", "clist;z,.", no(1)}, {"clist;mzz,.", "clist;z,.", yes(1)}, {"clist.nil;mzz,.", "clist.nil;z,.", yes(1)}, {"clist.nil;z,.", "clist.nil;+z,.", no(1)},
		{"cnat.zero;.", "cnat.succ;.", no(1)}, {"cnat.zero;.", "cone;.", no(2, "one")}, {"cone;.", "ctwo;.", no(5, "one", "two")}, {"ctwo;.", numberText(2), yes(4, "one", "two")}, {"cpair;u0,u1,.", "cpair;mu0u0,mu1u1,.", no(3, "pair")}, {"cpair;u0,u1,.", "@su0.ca;u1,u0,.", no(2, "pair")},
		// Recursors without a step.
		{onElement("@lsz.v0.v3."), onElement("v3."), yes(7)}, {onElement("v3."), onElement("v4."), no(5)}, {onElement("@cone;.v3."), onElement("@" + oneNumber + "v3."), yes(7, "one")}, {"@@@@cnat.rec;mzz,.v0.v1.v2.v3.", onElement("v3."), yes(5)}, {"@@@@cnat.rec;+z,.v0.v1.v2.v3.", onElement("v3."), no(1)}, {"@@@@cnat.rec;.v0.v1.v2.cnat.zero;.", onElement("cnat.zero;."), no(2, "nat.rec")}, {"@@@@cnat.rec;z,.v0.cone;.v2.v3.", "@@@@cnat.rec;z,.v0." + oneNumber + "v2.v3.", yes(6, "one")}, {"cnat.rec;mzz,.", "cnat.rec;z,.", yes(1)}, {"@cfalse.rec;.smzz.", "@cfalse.rec;.sz.", yes(2)},
	})
}

// TestConvArguments has equally and unequally many arguments behind the same head.
func TestConvArguments(t *testing.T) {
	for _, head := range []string{"v0.", "ca;.", "ca;mu0u1,z,."} {
		for _, env := range someEnvs() {
			checkComparisonFigures(t, env, []comparisonFigure{
				{head, "@" + head + "v1.", no(1)}, {"@" + head + "v1.", "@@" + head + "v1.v2.", no(1)}, {"@" + head + "v1.", "@@" + head + "v1.v1.", no(1)}, {"@@" + head + "v1.v2.", "@@@" + head + "v1.v2.v3.", no(1)}, {"@" + head + "@v1.v2.", "@@" + head + "v1.v2.", no(1)},
				{"@@" + head + "v1.v2.", "@@" + head + "v3.v2.", no(2)}, {"@@" + head + "v1.v2.", "@@" + head + "v1.v3.", no(3)}, {"@@@" + head + "v1.v2.v3.", "@@@" + head + "v1.v4.v3.", no(3)}, {"@@@" + head + "smzz.v2.sizz.", "@@@" + head + "sz.v2.sz.", yes(4)}, {"@" + head + "@v1.smzz.", "@" + head + "@v1.sz.", yes(3)}, {"@" + head + "@v1.smzz.", "@" + head + "@v2.sz.", no(2)}, {"@@" + head + "@lsz.v0.v1.v2.", "@@" + head + "v1.tsz.v2.v0.", yes(5)},
				// Arguments behind a different one, or behind different heads or numbers of arguments, are not compared.
				{"@@" + head + "v1." + omegaTerm, "@@" + head + "v2.v3.", no(2)}, {"@@" + head + "v1." + omegaTerm, "@@" + head + "v2." + greatTerm, no(2)}, {"@@@" + head + "v1.v2." + omegaTerm, "@@@" + head + "v1.v3.v0.", no(3)}, {"@@@" + head + "v1." + omegaTerm + "v2.", "@@@" + head + "v3.v1.v4.", no(2)}, {"@" + head + omegaTerm, "@v7.v0.", no(1)}, {"@" + head + omegaTerm, "@@" + head + omegaTerm + "v2.", no(1)}, {"@@" + head + "@v1." + omegaTerm + "v3.", "@@" + head + "@v2.v0.v3.", no(2)},
			})
		}
		for _, count := range []int{0, 1, 2, 5, 40} {
			arguments := strings.Repeat("v1.", count)
			a, b := strings.Repeat("@", count+1)+head+"smzz."+arguments, strings.Repeat("@", count+1)+head+"sz."+arguments
			checkComparison(t, nil, a, b, yes(count+2))
			a, b = strings.Repeat("@", count+1)+head+arguments+"su0.", strings.Repeat("@", count+1)+head+arguments+"sz."
			checkComparison(t, nil, a, b, no(count+2))
		}
	}
	checkComparison(t, nil, "@ca;z,."+omegaTerm, "@ca;+z,.v0.", no(1))
	checkComparison(t, nil, "@ca;z,."+omegaTerm, "@ca;z,z,.v0.", no(1))
	checkComparison(t, nil, "@ca;z,."+omegaTerm, "@cb;z,.v0.", no(1))
}

// TestConvFuelThatRunsOut gives what has been seen when the fuel runs out, also in a reduction and in an inner comparison.
func TestConvFuelThatRunsOut(t *testing.T) {
	none, one, two, both := []string{}, []string{"one"}, []string{"two"}, []string{"one", "two"}
	figures := []struct {
		a, b string
		// seen has the names for each fuel that is not enough.
		seen [][]string
	}{
		{"v0.", "v0.", [][]string{none}}, {"v0.", "v1.", [][]string{none}}, {"cone;.", "cone;.", [][]string{none}},
		{"cone;.", oneNumber, [][]string{none, none}}, {oneNumber, "cone;.", [][]string{none, none}},
		{"cone;.", "ctwo;.", [][]string{none, none, one, both, both}}, {"ctwo;.", "cone;.", [][]string{none, none, two, both, both}},
		{"ctwo;.", numberText(2), [][]string{none, none, two, two}}, {numberText(2), "ctwo;.", [][]string{none, none, two, two}},
		{"@@v0.cone;.ctwo;.", "@@v0." + oneNumber + "@cnat.succ;.cone;.", [][]string{none, none, none, one, one}}, {"@@v0.cone;.@cnat.succ;.cone;.", "@@v0." + oneNumber + "ctwo;.", [][]string{none, none, none, one, one}}, {"pcone;.ctwo;.", "p" + oneNumber + "v0.", [][]string{none, none, none, one, one}}, {"lctwo;.v3.", "l@cnat.succ;.cone;.cone;.", [][]string{none, none, none, two, two}},
		{"lcone;.ctwo;.", "v3.", [][]string{none, none, none}}, {"lsz.@v4.cone;.", "v3.", [][]string{none, none, none, none}}, {"v3.", "lsz.@v4.cone;.", [][]string{none, none, none, none}},
		{onElement("cone;."), onElement("@lsz.v0.ctwo;."), [][]string{none, none, one, {"nat.rec", "one"}, {"nat.rec", "one"}, {"nat.rec", "one", "two"}, {"nat.rec", "one", "two"}, {"nat.rec", "one", "two"}}},
	}
	env := whnfEnv()
	for _, f := range figures {
		for fuel, seen := range f.seen {
			checkConv(t, env, f.a, f.b, fuel, false, impl.Got{Code: impl.CkFuel, Seen: seen})
		}
		if _, got := checkWantConv(t, env, f.a, f.b, len(f.seen)); got.Code != 0 || got.Fuel != 0 {
			t.Errorf("the test itself finds %s for %q and %q with the fuel %d", gotText(got), f.a, f.b, len(f.seen))
		}
	}
}

// TestConvFuelThatIsNeverEnough has reductions and comparisons that do not end.
func TestConvFuelThatIsNeverEnough(t *testing.T) {
	env := append(whnfEnv(), entriesOf(definition("left", 0, "@cf;.cleft;."), definition("right", 0, "@cf;.cright;."), definition("down", 0, "psz.cdown;."), definition("deep", 0, "psz.cdeep;."), definition("in", 0, "lcin;.sz."), definition("out", 0, "lcout;.sz."))...)
	figures := []struct {
		a, b string
		seen []string
	}{
		{"cloop;.", "cone;.", []string{"loop"}}, {"cone;.", "cloop;.", []string{"loop", "one"}}, {omegaTerm, "cone;.", nil}, {"cone;.", omegaTerm, []string{"one"}}, {"@v0.cloop;.", "@v0.cone;.", []string{"loop"}}, {"psz.cone;.", "psz.cloop;.", []string{"loop", "one"}}, {"lsz.cloop;.", "v3.", []string{"loop"}}, {"v3.", "lsz.cloop;.", []string{"loop"}}, {onElement("cloop;."), "v3.", []string{"loop"}},
		// Each comparison has another one inside.
		{"cleft;.", "cright;.", []string{"left", "right"}}, {"cdown;.", "cdeep;.", []string{"deep", "down"}}, {"cin;.", "cout;.", []string{"in", "out"}},
	}
	for _, f := range figures {
		for _, fuel := range []int{10, 100, 4998, 4999, 5000} {
			checkConv(t, env, f.a, f.b, fuel, false, impl.Got{Code: impl.CkFuel, Seen: f.seen})
		}
		for fuel := range 20 {
			checkWantConv(t, env, f.a, f.b, fuel)
		}
		if equal, got := wantConv(env, f.a, f.b, 1000); equal || got.Code != impl.CkFuel {
			t.Errorf("the test itself finds %v, %s for %q and %q", equal, gotText(got), f.a, f.b)
		}
	}
}

// TestConvAllFuel has comparisons that need exactly all fuel that there can be, and one unit less and more.
func TestConvAllFuel(t *testing.T) {
	for count := 4998; count <= 5000; count++ {
		env := chainOf(count)
		// The first two names are those of the data type.
		names := impl.Known(env)[2:]
		want := impl.Got{Fuel: impl.MaxFuel - 1 - count, Seen: names}
		if count == 5000 {
			// The last definition is the only one that is not unfolded.
			want = impl.Got{Code: impl.CkFuel, Seen: slices.DeleteFunc(names, func(name string) bool { return name == "n4999" })}
		}
		for _, pair := range [][]string{{"cn0;.", "sz."}, {"cn0;.", "smzz."}, {"sz.", "cn0;."}} {
			equal, got := impl.Conv(env, pair[0], pair[1], impl.MaxFuel)
			if equal != (want.Code == 0) || !sameGot(got, want) {
				t.Errorf("Conv(%q) with %d definitions has %v, the code %d, the fuel %d and %d names", pair, count, equal, got.Code, got.Fuel, len(got.Seen))
			}
			if same := impl.Same(env, pair[0], pair[1]); same != equal {
				t.Errorf("Same(%q) with %d definitions = %v", pair, count, same)
			}
		}
	}
}

// TestConvOrder has reductions that fail, so that it matters which of the terms is the first one.
func TestConvOrder(t *testing.T) {
	great := "@@cid;z,.cnat;." + greatTerm
	stuck := onElement("@cone;.v3.")
	env := whnfEnv()
	for _, f := range []comparisonFigure{
		{greatTerm, "cone;.", tooBig(2)}, {"cone;.", greatTerm, tooBig(3, "one")}, {great, "cone;.", tooBig(5, "id")}, {"cone;.", great, tooBig(6, "id", "one")}, {greatTerm, "cloop;.", tooBig(2)}, {greatTerm, omegaTerm, tooBig(2)},
		{"@v0." + greatTerm, "@v0.cone;.", tooBig(3)}, {"@v0.cone;.", "@v0." + greatTerm, tooBig(4, "one")}, {"psz." + greatTerm, "psz.cone;.", tooBig(4)}, {"psz.cone;.", "psz." + greatTerm, tooBig(5, "one")}, {"l" + greatTerm + "v0.", "lcone;.v0.", tooBig(3)}, {"lcone;.v0.", "l" + greatTerm + "v0.", tooBig(4, "one")},
		// The body of a function stays on its side; the recursor has no step, but uses fuel on the other side.
		{"lsz." + greatTerm, stuck, tooBig(4, "one")}, {stuck, "lsz." + greatTerm, tooBig(5, "one")}, {"lsz." + great, stuck, tooBig(7, "id", "one")}, {stuck, "lsz." + great, tooBig(8, "id", "one")},
	} {
		checkComparison(t, env, f.a, f.b, f.want)
	}
	for _, f := range []struct {
		a, b string
		seen []string
	}{
		{"lsz." + great, stuck, []string{"id", "one"}}, {stuck, "lsz." + great, []string{"one"}}, {"lsz.@cid;z,.v0.", stuck, []string{"id", "one"}}, {stuck, "lsz.@cid;z,.v0.", []string{"one"}},
	} {
		checkConv(t, env, f.a, f.b, 4, false, impl.Got{Code: impl.CkFuel, Seen: f.seen})
	}
}

// TestConvReductionsThatFail has codes of reductions, in each place; nothing behind them is compared.
func TestConvReductionsThatFail(t *testing.T) {
	level := "cup;" + strings.Repeat("+", 59) + "z,."
	for _, f := range []comparisonFigure{
		{greatTerm, "v0.", tooBig(2)}, {"v0.", greatTerm, tooBig(2)}, {level, "sz.", tooBig(2)}, {"@@@cbad.rec;z,.v0.v1.@cbad.mk;.v2.", "v0.", tooBig(2)}, {onElement(greatTerm), "v3.", tooBig(2)}, {"@lsz.v0." + greatTerm, "v3.", tooBig(3)}, {"@lsz.@v0.v0." + plainText(1000), "v3.", tooBig(2)}, {"v3.", "@lsz.@v0.v0." + plainText(1000), tooBig(2)}, {"@lsz.@v0.v0." + plainText(999), "v3.", no(2)},
		{"psz." + greatTerm, "psz.v0.", tooBig(4)}, {"p" + greatTerm + "cloop;.", "psz.v0.", tooBig(3)}, {"lsz." + greatTerm, "lsz.v0.", tooBig(4)}, {"l" + greatTerm + "cloop;.", "lsz.v0.", tooBig(3)}, {"lsz." + greatTerm, "v3.", tooBig(3)}, {"v3.", "lsz." + greatTerm, tooBig(3)}, {"lsz.lsz." + greatTerm, "v3.", tooBig(4)},
		{"@@v0." + greatTerm + "cloop;.", "@@v0.v1.v2.", tooBig(3)}, {"@@v0.v1." + greatTerm, "@@v0.v1.v2.", tooBig(4)}, {"@v0.@v1." + greatTerm, "@v0.@v1.v2.", tooBig(4)}, {"@@v0.cone;." + greatTerm, "@@v0." + oneNumber + "v2.", tooBig(5, "one")}, {"@@v0.cone;." + greatTerm, "@@v0.ctwo;.v2.", no(6, "one", "two")}, {"@@v0.@v1." + level + "v3.", "@@v0.@v1.sz.v4.", tooBig(4)}, {"pp" + greatTerm + "v0.cloop;.", "ppv1.v0.v2.", tooBig(4)},
	} {
		checkComparison(t, whnfEnv(), f.a, f.b, f.want)
	}
}

// TestConvGreatVariables has functions compared with terms whose variables become too great under one more binder.
func TestConvGreatVariables(t *testing.T) {
	figures := []comparisonFigure{
		{"lsz.v0.", "v999.", tooBig(1)}, {"lsz.v0.", "v998.", no(2)}, {"lsz.@v999.v0.", "v998.", yes(2)}, {"lsz.v0.", "@v0.v999.", tooBig(1)}, {"lsz.v0.", "@v999.v0.", tooBig(1)}, {"lsz.v0.", "@ca;.v999.", tooBig(1)}, {"lsz.v0.", "psz.v999.", tooBig(1)}, {"lsz.v0.", "pv999.sz.", tooBig(1)}, {"lsz.v0.", "@v0.lsz.v999.", tooBig(1)}, {"lsz.v0.", "@v0.lsz.v998.", no(2)}, {"lsz.v0.", "@v0.tsz.sz.v999.", tooBig(1)}, {"lv999.v0.", "v0.", no(2)}, {"lsz.v999.", "v0.", no(2)}, {"lsz.v999.", "lsz.v998.", no(3)},
		{"lsz.v0.", "@lsz.v0.v999.", tooBig(2)}, {"@lsz.v0.v999.", "v999.", yes(2)}, {"lsz.lsz.v0.", "v998.", tooBig(2)}, {"lsz.lsz.@@v999.v1.v0.", "v997.", yes(3)}, {"lsz.lsz.v0.", "@v0.v998.", tooBig(2)}, {"@v0.lsz.v0.", "@v0.v999.", tooBig(2)}, {"@@v0.lsz.v0." + omegaTerm, "@@v0.v999.v1.", tooBig(2)}, {"psz.lsz.v0.", "psz.v999.", tooBig(3)}, {"plsz.v0.cloop;.", "pv999.sz.", tooBig(2)},
	}
	for _, env := range someEnvs() {
		for _, f := range figures {
			checkComparison(t, env, f.a, f.b, f.want)
			checkComparison(t, env, f.b, f.a, f.want)
		}
	}
	checkComparison(t, whnfEnv(), "cid;z,.", "v999.", tooBig(2, "id"))
	checkComparison(t, whnfEnv(), "v999.", "cid;z,.", tooBig(2, "id"))
}

// TestConvLongTerms has functions compared with terms that have exactly the greatest number of bytes under one more binder and applied, and one more.
func TestConvLongTerms(t *testing.T) {
	figures := []comparisonFigure{
		{"lsz.v0.", plainText(1996), no(2)}, {"lsz.v0.", plainText(1997), tooBig(1)}, {"lsz.v0.", plainText(2000), tooBig(1)}, {"lsz.@" + plainText(1992) + "v0.", plainText(1992), yes(2)}, {"lsz.v0.", filledUp("v8.", 1996), no(2)}, {"lsz.v0.", filledUp("v8.", 1997), tooBig(1)}, {"lsz.v0.", filledUp("v9.", 1995), no(2)}, {"lsz.v0.", filledUp("v9.", 1996), tooBig(1)}, {"lsz.v0.", filledUp("v9.", 2000), tooBig(1)}, {"lsz.v0.", filledUp("v8.", 2000), tooBig(1)}, {"lsz.v0.", filledUp("@v99.v9.", 1994), no(2)}, {"lsz.v0.", filledUp("@v99.v9.", 1995), tooBig(1)}, {"lsz.v0.", filledUp("v998.", 1996), no(2)},
		{"lsz.lsz.v0.", plainText(1992), no(3)}, {"lsz.lsz.v0.", plainText(1993), tooBig(2)}, {"@v0.lsz.v0.", "@v0." + plainText(1996), no(3)}, {"@v0.lsz.v0.", "@v0." + filledUp("v9.", 1995), no(3)}, {"@v0.lsz.v0.", "@v0." + filledUp("v9.", 1996), tooBig(2)}, {"lsz.v0.", "@lsz.v0." + plainText(1990), no(3)},
	}
	for _, f := range figures {
		checkComparison(t, nil, f.a, f.b, f.want)
		checkComparison(t, nil, f.b, f.a, f.want)
	}
	// A function that is its own body makes the other term longer with each comparison.
	env := entriesOf(definition("more", 0, "lsz.cmore;."))
	for _, pair := range [][]string{{"cmore;.", "v0."}, {"ca;.", "cmore;."}} {
		if equal, got := checkWantConv(t, env, pair[0], pair[1], 5000); equal || got.Code != impl.CkSize || got.Fuel < 1000 || got.Fuel > 4500 {
			t.Errorf("the test itself finds %v, %s for %q", equal, gotText(got), pair)
		}
	}
}

// TestConvInvalidArguments has texts that are no terms, on each side and on both, and numbers that are no fuel.
func TestConvInvalidArguments(t *testing.T) {
	none := impl.Got{Code: impl.CkSize}
	fuels := []int{0, 1, 100, 5000, -1, 5001}
	for _, env := range [][]impl.Entry{nil, {}, whnfEnv()} {
		for _, s := range someNoTerms() {
			for _, fuel := range fuels {
				checkConv(t, env, s, "v0.", fuel, false, none)
				checkConv(t, env, "cloop;.", s, fuel, false, none)
				checkConv(t, env, s, s, fuel, false, none)
			}
		}
		for _, a := range []string{"v0.", "cone;.", "cloop;.", "lsz.v0.", greatTerm} {
			for _, b := range []string{"v0.", "cone;.", oneNumber, "v999."} {
				for _, fuel := range []int{-1, -2, -5000, 5001, 5002, 1000000000, math.MinInt, math.MaxInt} {
					checkConv(t, env, a, b, fuel, false, none)
				}
			}
		}
	}
	// The terms are not joined before they are checked.
	checkConv(t, nil, "@v0.v1.v2.", "@v0.", 10, false, none)
	checkConv(t, nil, "@v0.", "v1.", 10, false, none)
}

// TestSameFigures has terms that are equal, that are not, and for which the code is not 0.
func TestSameFigures(t *testing.T) {
	figures := []struct {
		a, b string
		want bool
	}{
		{"cone;.", oneNumber, true}, {"cthree.nat;.", numberText(3), true}, {"cnat.succ;.", "lcnat;.@cnat.succ;.v0.", true}, {"siu0z.", "sz.", true}, {"v0.", "v0.", true}, {"cloop;.", "cloop;.", true}, {greatTerm, greatTerm, true},
		{"cone;.", "cnat.zero;.", false}, {"v0.", "v1.", false}, {"cthree.nat;.", numberText(4), false}, {"siu0u1.", "smu0u1.", false}, {"lsz.v0.", "lcnat;.v0.", false},
		{"cloop;.", "cone;.", false}, {"cone;.", "cloop;.", false}, {greatTerm, "v0.", false}, {"lsz.v0.", "v999.", false}, {omegaTerm, "@v0." + omegaTerm, false}, {"", "", false}, {"v0.", "v1000.", false}, {"x", "v0.", false},
	}
	for _, f := range figures {
		for _, pair := range [][]string{{f.a, f.b}, {f.b, f.a}} {
			if got := impl.Same(whnfEnv(), pair[0], pair[1]); got != f.want {
				t.Errorf("Same(%q) = %v, want %v", pair, got, f.want)
			}
		}
	}
	for _, pair := range [][]string{{"cone;.", oneNumber}, {"cone;.", "ctwo;."}} {
		if impl.Same(nil, pair[0], pair[1]) {
			t.Errorf("Same(%q) without entries", pair)
		}
	}
}

// checkBothOrders checks that two terms are equal, or not, in both orders, with exactly enough fuel, with more, and with one unit less.
func checkBothOrders(t *testing.T, env []impl.Entry, a string, b string, equal bool) {
	t.Helper()
	_, all := wantConv(env, a, b, 5000)
	used := 5000 - all.Fuel
	for _, fuel := range []int{used, used + 1, 5000} {
		checkConv(t, env, a, b, fuel, equal, impl.Got{Fuel: fuel - used, Seen: all.Seen})
		checkConv(t, env, b, a, fuel, equal, impl.Got{Fuel: fuel - used, Seen: all.Seen})
	}
	checkWantConv(t, env, a, b, used-1)
	checkWantConv(t, env, b, a, used-1)
}

// TestNumbersAreEqualToTheNumbersThatTheyDenote checks promise 14 for numbers that are written in several ways.
func TestNumbersAreEqualToTheNumbersThatTheyDenote(t *testing.T) {
	ways := []struct {
		number int
		text   string
	}{
		{0, "cnat.zero;."}, {0, "@lsz.v0.cnat.zero;."}, {1, "cone;."}, {1, oneNumber}, {1, "@@cid;+z,.cnat;.cone;."}, {1, "tcnat;.cnat.zero;.@cnat.succ;.v0."}, {2, "ctwo;."}, {2, "@cnat.succ;.cone;."}, {2, "@@cadd;.cone;.cone;."}, {3, "cthree.nat;."}, {3, "@@cadd;.ctwo;.cone;."}, {3, "@cnat.succ;.@@cadd;.cone;.cone;."}, {4, "@@cadd;.@@cadd;.cone;.cone;.ctwo;."}, {5, "@@cadd;.ctwo;.cthree.nat;."}, {6, "@@@@cnat.rec;+z,.lcnat;.cnat;.cnat.zero;.lcnat;.lcnat;.@@cadd;.ctwo;.v0.cthree.nat;."},
	}
	env := whnfEnv()
	for at, way := range ways {
		for n := range 8 {
			checkBothOrders(t, env, way.text, numberText(n), n == way.number)
		}
		for _, other := range ways[at:] {
			checkBothOrders(t, env, way.text, other.text, way.number == other.number)
		}
		checkBothOrders(t, env, way.text, "v0.", false)
		checkBothOrders(t, env, way.text, "cnat;.", false)
	}
	for a := range 6 {
		for b := range 6 {
			sum := "@@cadd;." + numberText(a) + numberText(b)
			for n := max(0, a+b-1); n < a+b+2; n++ {
				checkBothOrders(t, env, sum, numberText(n), n == a+b)
			}
			checkBothOrders(t, env, sum, "@@cadd;."+numberText(b)+numberText(a), true)
		}
	}
	// Numbers without definitions use one unit for each number inside them, up to the first difference.
	for n := range 40 {
		checkComparison(t, env, "@ca;mzz,."+numberText(n), "@ca;z,."+numberText(n), yes(2))
		checkComparison(t, env, numberText(n), numberText(n+1), no(n+1))
		checkComparison(t, env, numberText(n+3), numberText(n), no(n+1))
	}
}

// etaOf returns the function that applies s, or "" if a limit is exceeded.
func etaOf(varType string, s string) string {
	lifted, ok := wantLifted(s, 1, 0)
	if !ok {
		return ""
	}
	return withinLimits("l" + varType + "@" + lifted + "v0.")
}

// TestFunctionsAreEqualToTheirEtaExpansions checks promise 14 with random terms: what is reduced to a function needs an expansion with its own type.
func TestFunctionsAreEqualToTheirEtaExpansions(t *testing.T) {
	source := rand.New(rand.NewSource(14))
	env := whnfEnv()
	kinds := map[string]int{}
	for range 800 {
		s := reducibleTerm(source, source.Intn(4), 0)
		varType := reducibleTerm(source, source.Intn(2), 0)
		if withinLimits(s) == "" {
			continue
		}
		reduced := wantWhnf(env, s, 200)
		if reduced.Code != 0 {
			continue
		}
		if reduced.Term[0] == 'l' {
			varType, _ = partsIn(reduced.Term)
		}
		expanded := etaOf(varType, s)
		if _, got := wantConv(env, expanded, s, 500); got.Code != 0 {
			continue
		}
		kinds[reduced.Term[:1]]++
		checkBothOrders(t, env, s, expanded, true)
		if twice := etaOf(varType, expanded); twice != "" && !impl.Same(env, twice, s) {
			t.Errorf("%.300q is not equal to %.300q", twice, s)
		}
	}
	for kind, least := range map[string]int{"v": 15, "c": 50, "@": 150, "l": 40, "p": 15, "s": 25} {
		if kinds[kind] < least {
			t.Errorf("the test has only %v", kinds)
		}
	}
}

// changedAt returns s with the term that begins at index at changed, often to one that is equal by reduction.
func changedAt(source *rand.Rand, s string, at int) string {
	part := firstTerm(s[at:])
	lifted, _ := wantLifted(part, 1, 0)
	options := []string{"@lsz.v0." + part, "tsz." + part + "v0.", "@lsz." + lifted + "cone;.", "@@cid;z,.cnat;." + part, "lsz.@" + lifted + "v0.", "lcnat;.@" + lifted + "v0.", "v" + strconv.Itoa(source.Intn(4)) + ".", "@v0." + part, greatTerm, "@@@@cnat.rec;z,.v0." + part + "v2.cnat.zero;.", "cloop;."}
	changed := options[source.Intn(len(options))]
	if equals := map[string]string{"cone;.": oneNumber, "ctwo;.": "@cnat.succ;.cone;.", "cnat.zero;.": "@@cadd;.cnat.zero;.cnat.zero;.", "sz.": "smzz.", "cem;z,.": "cem;izu0,.", "cid;z,.": "lsz.lv0.v0.", "cup;z,.": "cup;izz,."}; equals[part] != "" && source.Intn(4) > 0 {
		changed = equals[part]
	}
	return s[:at] + changed + s[at+len(part):]
}

// kinTerm returns s with one to three of its terms changed.
func kinTerm(source *rand.Rand, s string) string {
	for range 1 + source.Intn(3) {
		begins, at := []int{}, 0
		for _, place := range spotsOf(s) {
			begins = append(begins, at)
			at += len(place.leaf.text)
		}
		if next := changedAt(source, s, begins[source.Intn(len(begins))]); withinLimits(next) != "" {
			s = next
		}
	}
	return s
}

// stuckTerm returns a term that is compared part by part.
func stuckTerm(source *rand.Rand, depth int) string {
	if depth == 0 {
		return []string{"cone;.", "ctwo;.", "cnat.zero;.", "sz.", "cem;z,.", "cid;z,.", "cup;z,.", "cadd;.", "v0.", "v1.", "v2."}[source.Intn(11)]
	}
	some := func() string { return stuckTerm(source, depth-1) }
	switch source.Intn(8) {
	case 0:
		return "l" + some() + some()
	case 1:
		return "p" + some() + some()
	case 2:
		return "@@v" + strconv.Itoa(source.Intn(3)) + "." + some() + some()
	case 3:
		return "@" + "cem;z,." + some()
	case 4:
		return "@@@@cnat.rec;z,." + some() + some() + some() + "@v0." + some()
	case 5:
		return "@cnat.succ;." + some()
	case 6:
		return reducibleTerm(source, depth, 0)
	}
	return "@@@ca;z,." + some() + some() + some()
}

// checkMoreFuel checks that more fuel gives the same answer and leaves as much more, and that less fuel runs out; it returns the code and the answer.
func checkMoreFuel(t *testing.T, source *rand.Rand, env []impl.Entry, a string, b string) (int, bool) {
	t.Helper()
	allEqual, all := impl.Conv(env, a, b, impl.MaxFuel)
	if all.Code == impl.CkFuel {
		checkWantConv(t, env, a, b, source.Intn(40))
		return all.Code, allEqual
	}
	used := impl.MaxFuel - all.Fuel
	for _, fuel := range []int{used, used + 1, used + source.Intn(100), 4999, 5000} {
		if fuel <= 5000 {
			checkConv(t, env, a, b, fuel, allEqual, impl.Got{Code: all.Code, Fuel: fuel - used, Seen: all.Seen})
		}
	}
	checkWantConv(t, env, a, b, used)
	checkWantConv(t, env, a, b, source.Intn(used))
	if equal, got := impl.Conv(env, a, b, used-1); equal || got.Code != impl.CkFuel || got.Fuel != 0 {
		t.Errorf("Conv(%.300q, %.300q) with the fuel %d = %v, %s, but it needs %d", a, b, used-1, equal, gotText(got), used)
	}
	if all.Code == 0 {
		checkBothOrders(t, env, a, b, allEqual)
	}
	return all.Code, allEqual
}

// TestMoreFuelGivesTheSameAnswer checks random terms and changed ones, which are often equal to them.
func TestMoreFuelGivesTheSameAnswer(t *testing.T) {
	source := rand.New(rand.NewSource(141))
	env := whnfEnv()
	codes, answers, several := map[int]int{}, map[bool]int{}, 0
	for range 1200 {
		a := stuckTerm(source, source.Intn(4))
		if withinLimits(a) == "" {
			continue
		}
		b := kinTerm(source, a)
		code, equal := checkMoreFuel(t, source, env, a, b)
		codes[code]++
		if code == 0 {
			answers[equal]++
		}
		if _, got := impl.Conv(env, a, b, impl.MaxFuel); len(got.Seen) >= 3 {
			several++
		}
	}
	if answers[true] < 250 || answers[false] < 250 || codes[impl.CkFuel] < 30 || codes[impl.CkSize] < 30 || several < 50 {
		t.Errorf("the test finds the codes %v, the answers %v, and often %d names", codes, answers, several)
	}
}

// TestConvRandomTerms has pairs of terms of any form, and entries that often have the same names.
func TestConvRandomTerms(t *testing.T) {
	source := rand.New(rand.NewSource(142))
	for range 600 {
		env := randomEnv(source)
		a := treeOfSize(source, 3+source.Intn(60)).text
		checkWantConv(t, env, a, treeOfSize(source, 3+source.Intn(60)).text, source.Intn(20))
		checkWantConv(t, env, a, kinTerm(source, a), source.Intn(40))
		names := append(possibleNames(env), "a")
		a = constantTree(names[source.Intn(len(names))], selfParams[:source.Intn(3)]...).text
		checkWantConv(t, env, "@"+a+"v0.", "@"+kinTerm(source, a)+"v0.", source.Intn(20))
	}
}

func TestConvNameThatTwoEntriesHave(t *testing.T) {
	first, second := definition("a", 0, "sz."), definition("a", 0, "s+z.")
	axiom := impl.Decl{Kind: impl.DkAxiom, Name: "a", Type: "sz."}
	invalid := definition("a", 0, "v0.")
	figures := []struct {
		env  []impl.Entry
		b    string
		want comparison
	}{
		{entriesOf(first, second), "sz.", yes(2, "a")}, {entriesOf(first, second), "s+z.", no(2, "a")}, {entriesOf(second, first), "s+z.", yes(2, "a")}, {entriesOf(invalid, first), "sz.", yes(2, "a")}, {entriesOf(axiom, first), "sz.", no(1)}, {entriesOf(first, axiom), "sz.", yes(2, "a")}, {entriesOf(invalid), "sz.", no(1)}, {entriesOf(axiom, first), "ca;.", yes(1)},
	}
	for _, f := range figures {
		checkComparison(t, f.env, "ca;.", f.b, f.want)
		checkComparison(t, f.env, f.b, "ca;.", f.want)
	}
}

func TestConvLeavesSpareCapacity(t *testing.T) {
	ctors := append(slices.Clone(natData().Ctors), impl.Ctor{Name: "nat.more", Type: "cnat;."}, impl.Ctor{Name: "spare", Type: "spare"})
	nat := natData()
	nat.Ctors = ctors[:2]
	spare := impl.Entry{Decl: definition("spare", 0, "sz."), Labels: []impl.Label{{Kind: 1, Name: "spare"}}}
	backing := append(entriesOf(nat, idDef(), definition("one", 0, oneNumber)), spare, spare)
	kept, keptCtors := copyOf(backing), slices.Clone(ctors)
	for count := range len(backing) {
		for _, pair := range [][]string{{"cone;.", oneNumber}, {"cspare;.", "sz."}, {onElement("cone;."), "v0."}, {"lcnat;.@cnat.succ;.v0.", "cnat.succ;."}, {"@@cid;z,.cnat;.cone;.", "cone;."}} {
			for _, fuel := range []int{0, 1, 3, 5000} {
				checkWantConv(t, backing[:count], pair[0], pair[1], fuel)
			}
		}
	}
	if !reflect.DeepEqual(backing, kept) || !slices.Equal(ctors, keptCtors) {
		t.Errorf("the memory of the arguments was changed: %q, %q", stringsIn(backing), ctors)
	}
}

// TestConvResultsAreNewMemory changes results and arguments; the memory of the strings is compared by the checks above.
func TestConvResultsAreNewMemory(t *testing.T) {
	env := entriesOf(natData(), definition("one", 0, oneNumber), definition("two", 0, "@cnat.succ;.cone;."))
	_, first := impl.Conv(env, "ctwo;.", "cone;.", 10)
	_, second := impl.Conv(env, "ctwo;.", "cone;.", 10)
	first.Seen[0] = "changed"
	if _, third := impl.Conv(env, "ctwo;.", "cone;.", 10); !sameGot(second, third) || !slices.Equal(second.Seen, []string{"one", "two"}) {
		t.Errorf("a changed result changed others to %v and %v", second, third)
	}
	// Nothing is kept from the calls before: changed entries have their own results.
	checkComparison(t, env, "ctwo;.", numberText(2), yes(4, "one", "two"))
	env[1].Decl.Value = "cnat.zero;."
	checkComparison(t, env, "ctwo;.", numberText(2), no(4, "one", "two"))
	checkComparison(t, env, "ctwo;.", numberText(1), yes(4, "one", "two"))
}
