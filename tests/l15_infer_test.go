package tests

import (
	"maps"
	"math"
	"math/rand"
	"reflect"
	"slices"
	"strconv"
	"strings"
	"testing"

	"loop.example/g00963/impl"
)

// typing is an independent description of type inference, which has texts instead of terms, and reduces and compares like a machine.
type typing struct {
	machine
	params int
}

func (m *typing) fails(code int) string {
	m.code = code
	return ""
}

// fits returns a new text, or "" with a code if there is none within the limits.
func (m *typing) fits(text string, ok bool) string {
	if !ok || withinLimits(text) == "" {
		return m.fails(2)
	}
	return text
}

// typeOf returns "" if the code is not 0.
func (m *typing) typeOf(context []string, s string) string {
	if m.fuel == 0 {
		return m.fails(1)
	}
	m.fuel--
	switch s[0] {
	case 'v':
		leaf, _ := leafOf(s)
		number := leaf.free[0]
		if number >= len(context) {
			return m.fails(3)
		}
		return m.fits(wantLifted(context[number], number+1, 0))
	case 's':
		if wantParams(s) > m.params {
			return m.fails(5)
		}
		return m.fits("s+"+s[1:], true)
	case 'c':
		return m.typeOfConstant(s)
	case '@':
		return m.typeOfApplication(context, s)
	}
	return m.typeOfBinder(context, s)
}

func (m *typing) typeOfConstant(s string) string {
	leaf, _ := leafOf(s)
	want := wantsOfName(m.env, leaf.name, leaf.levels)
	switch {
	case wantParams(s) > m.params:
		return m.fails(5)
	case want.found.kind == 0:
		return m.fails(4)
	case len(leaf.levels) != want.levels:
		return m.fails(5)
	}
	return m.fits(want.typeText, true)
}

func (m *typing) typeOfApplication(context []string, s string) string {
	function, argument := partsIn(s)
	found := m.typeOf(context, function)
	if m.code == 0 {
		found = m.whnf(found)
	}
	if m.code != 0 {
		return ""
	}
	if found[0] != 'p' {
		return m.fails(6)
	}
	varType, result := partsIn(found)
	if !m.hasType(context, argument, varType) {
		return ""
	}
	return m.fits(wantPutIn(result, argument))
}

// typeOfBinder describes functions, function types and local definitions.
func (m *typing) typeOfBinder(context []string, s string) string {
	first, rest := partsIn(s)
	level := m.sortOf(context, first)
	if m.code != 0 {
		return ""
	}
	inner := append([]string{first}, context...)
	switch s[0] {
	case 'l':
		if result := m.typeOf(inner, rest); m.code == 0 {
			return m.fits("p"+first+result, true)
		}
		return ""
	case 'p':
		if second := m.sortOf(inner, rest); m.code == 0 {
			return m.fits("si"+level+second+".", true)
		}
		return ""
	}
	value := firstTerm(rest)
	if !m.hasType(context, value, first) {
		return ""
	}
	if body := m.fits(wantPutIn(rest[len(value):], value)); m.code == 0 {
		return m.typeOf(context, body)
	}
	return ""
}

// sortOf returns a level, or "" if the code is not 0.
func (m *typing) sortOf(context []string, s string) string {
	found := m.typeOf(context, s)
	if m.code == 0 {
		found = m.whnf(found)
	}
	if m.code != 0 {
		return ""
	}
	if found[0] != 's' {
		return m.fails(8)
	}
	return found[1 : len(found)-1]
}

// hasType decides whether s has a type that is equal to want.
func (m *typing) hasType(context []string, s string, want string) bool {
	found := m.typeOf(context, s)
	if m.code == 0 && !m.equal(found, want) && m.code == 0 {
		m.code = 7
	}
	return m.code == 0
}

// typeCall is a call of one of the functions; only HasType has ty, and only the others have a context.
type typeCall struct {
	function string
	env      []impl.Entry
	context  []string
	text     string
	ty       string
	params   int
}

func (c typeCall) got(fuel int) impl.Got {
	switch c.function {
	case "TypeOf":
		return impl.TypeOf(c.env, c.context, c.text, c.params, fuel)
	case "SortOf":
		return impl.SortOf(c.env, c.context, c.text, c.params, fuel)
	}
	return impl.HasType(c.env, c.text, c.ty, c.params, fuel)
}

// terms returns the arguments that must be terms.
func (c typeCall) terms() []string {
	if c.function == "HasType" {
		return []string{c.text, c.ty}
	}
	return append([]string{c.text}, c.context...)
}

func (c typeCall) valid(fuel int) bool {
	for _, s := range c.terms() {
		if _, ok := treeOf(s); !ok {
			return false
		}
	}
	return len(c.context) <= 200 && c.params >= 0 && c.params <= 3 && fuel >= 0 && fuel <= 5000
}

// want describes all functions for all arguments.
func (c typeCall) want(fuel int) impl.Got {
	if !c.valid(fuel) {
		return impl.Got{Code: 2}
	}
	m := typing{machine{env: c.env, fuel: fuel, seen: map[string]bool{}}, c.params}
	got := impl.Got{}
	switch c.function {
	case "TypeOf":
		got.Term = m.typeOf(c.context, c.text)
	case "SortOf":
		got.Term = m.sortOf(c.context, c.text)
	default:
		if m.hasType(nil, c.text, c.ty) {
			got.Term = c.ty
		}
	}
	got.Code, got.Fuel, got.Seen = m.code, m.fuel, slices.Sorted(maps.Keys(m.seen))
	return got
}

// checkTypeCall checks a call, and that it neither changes its arguments nor returns their memory.
func checkTypeCall(t *testing.T, c typeCall, fuel int, want impl.Got) {
	t.Helper()
	kept, keptContext := copyOf(c.env), slices.Clone(c.context)
	got := c.got(fuel)
	if !sameGot(got, want) {
		t.Errorf("%s(%.300q, %.300q, %.300q) with %d parameters and the fuel %d = %s, want %s", c.function, c.context, c.text, c.ty, c.params, fuel, gotText(got), gotText(want))
	}
	for _, argument := range slices.Concat(stringsIn(c.env), c.context, []string{c.text, c.ty}) {
		for _, result := range append(got.Seen, got.Term) {
			checkNewString(t, result, argument)
		}
	}
	if !reflect.DeepEqual(c.env, kept) || !slices.Equal(c.context, keptContext) {
		t.Errorf("the entries %.300q or the context %.300q were changed", stringsIn(kept), keptContext)
	}
}

// checkWantTypeCall checks a call of which the test itself finds out the result, and returns it.
func checkWantTypeCall(t *testing.T, c typeCall, fuel int) impl.Got {
	t.Helper()
	want := c.want(fuel)
	checkTypeCall(t, c, fuel, want)
	return want
}

// checkTyping checks a call with too little fuel, with exactly enough, and with more.
func checkTyping(t *testing.T, c typeCall, want reduction) {
	t.Helper()
	if !c.valid(0) {
		t.Fatalf("%.300q are no arguments", c.terms())
	}
	for _, fuel := range []int{want.used, want.used + 1, want.used + 2, want.used + 100, 4999, 5000} {
		if fuel <= 5000 {
			got := impl.Got{Code: want.code, Term: want.term, Fuel: fuel - want.used, Seen: want.seen}
			checkTypeCall(t, c, fuel, got)
			if described := c.want(fuel); !sameGot(described, got) {
				t.Errorf("the test itself finds %s for %s(%.300q, %.300q, %.300q), not %s", gotText(described), c.function, c.context, c.text, c.ty, gotText(got))
			}
		}
	}
	for fuel := range want.used {
		if fuel > 12 && fuel < want.used-3 {
			continue
		}
		if got := checkWantTypeCall(t, c, fuel); got.Code != impl.CkFuel || got.Fuel != 0 || got.Term != "" {
			t.Errorf("the test itself finds %s for %s(%.300q, %.300q, %.300q) with the fuel %d", gotText(got), c.function, c.context, c.text, c.ty, fuel)
		}
	}
}

// typed is a result with this type, or with this level or ty for the other functions.
func typed(used int, term string, seen ...string) reduction {
	return reduction{used: used, term: term, seen: seen}
}

// untyped is a result with this code.
func untyped(used int, code int, seen ...string) reduction {
	return reduction{used: used, code: code, seen: seen}
}

// typingFigure is a term in a context with the figures for its type.
type typingFigure struct {
	context []string
	text    string
	want    reduction
}

// checkTypingFigure checks TypeOf, and what follows for the other functions: they have its codes, and the type that it returns.
func checkTypingFigure(t *testing.T, env []impl.Entry, params int, f typingFigure) {
	t.Helper()
	c := typeCall{function: "TypeOf", env: env, context: f.context, text: f.text, params: params}
	checkTyping(t, c, f.want)
	if f.want.code != 0 {
		c.function = "SortOf"
		checkTyping(t, c, f.want)
	}
	if len(f.context) > 0 {
		return
	}
	c.function, c.ty = "HasType", f.want.term
	if f.want.code == 0 {
		checkTyping(t, c, reduction{f.want.used + 1, 0, f.want.term, f.want.seen})
		return
	}
	for _, ty := range []string{"sz.", "v7.", f.text} {
		c.ty = ty
		checkTyping(t, c, f.want)
	}
}

func checkTypingFigures(t *testing.T, env []impl.Entry, params int, figures []typingFigure) {
	t.Helper()
	for _, f := range figures {
		checkTypingFigure(t, env, params, f)
	}
}

// checkPlainFigures checks figures for which the entries do not matter.
func checkPlainFigures(t *testing.T, params int, figures []typingFigure) {
	t.Helper()
	for _, env := range [][]impl.Entry{nil, {}, {{}}, typedEnv()} {
		checkTypingFigures(t, env, params, figures)
	}
}

func axiomOf(name string, params int, typeText string) impl.Decl {
	return impl.Decl{Kind: impl.DkAxiom, Name: name, Params: params, Type: typeText}
}

func valueOf(name string, params int, typeText string, value string) impl.Decl {
	return impl.Decl{Kind: impl.DkDef, Name: name, Params: params, Type: typeText, Value: value}
}

// typedEnv has entries of all kinds; each type is a type, and each value has its type.
func typedEnv() []impl.Entry {
	return entriesOf(natData(), listData(), ordData(), wData(), eitherData(), falseData(), badData(), idDef(),
		axiomOf("eq", 1, "psu0.pv0.pv1.sz."), axiomOf("refl", 1, "psu0.pv0.@@@ceq;u0,.v1.v0.v0."), axiomOf("twice.not", 0, "psz.pppv0.cfalse;.cfalse;.v1."),
		valueOf("one", 0, "cnat;.", "@cnat.succ;.cnat.zero;."), valueOf("two", 0, "cnat;.", "@cnat.succ;.cone;."), valueOf("add", 0, "pcnat;.pcnat;.cnat;.", addValue), valueOf("three.nat", 0, "cnat;.", "@@cadd;.cone;.ctwo;."),
		valueOf("up", 1, "s++u0.", "s+u0."), valueOf("const", 2, "psu0.psu1.pv1.pv1.v3.", "lsu0.lsu1.lv1.lv1.v1."),
		valueOf("arrow", 0, "s+z.", "pcnat;.cnat;."), valueOf("double", 0, "carrow;.", "lcnat;.@@cadd;.v0.v0."), valueOf("n", 0, "s+z.", "cnat;."), axiomOf("x", 0, "cn;."), valueOf("from", 0, "pcn;.cnat;.", "lcn;.@cnat.succ;.v0."), axiomOf("a", 0, "cup;z,."),
		valueOf("absurd", 0, "psz.pcfalse;.v1.", "lsz.lcfalse;.@@cfalse.rec;.lcfalse;.v2.v0."), valueOf("four", 0, "cnat;.", "tcnat;.ctwo;.@@cadd;.v0.v0."), valueOf("types", 0, "clist;+z,.", "@@clist.cons;+z,.cnat;.clist.nil;+z,."), valueOf("flat", 0, "pcord;.cnat;.", "lcord;.@@@@@cord.rec;+z,.lcord;.cnat;.cnat.zero;.lcord;.lcnat;.@cnat.succ;.v0.lpcnat;.cord;.lpcnat;.cnat;.@v0.ctwo;.v0."),
		impl.Decl{Kind: impl.DkTheorem, Name: "one.eq", Type: "@@@ceq;+z,.cnat;.cone;.@cnat.succ;.cnat.zero;.", Value: "@@crefl;+z,.cnat;.cone;."},
		impl.Decl{Kind: impl.DkTheorem, Name: "sum.eq", Type: "@@@ceq;+z,.cn;.cthree.nat;.@@cadd;.ctwo;.cone;.", Value: "@@crefl;+z,.cnat;." + numberText(3)},
		valueOf("loop", 0, "s+z.", "cloop;."))
}

func TestInferConstants(t *testing.T) {
	codes := []int{impl.CkVar, impl.CkName, impl.CkLevel, impl.CkFunc, impl.CkArg, impl.CkSort, impl.MaxContext}
	if !slices.Equal(codes, []int{3, 4, 5, 6, 7, 8, 200}) {
		t.Errorf("the codes and the limit are %v", codes)
	}
}

// TestTypeOfVariables has variables inside and beyond their context, with types that are lifted by each number.
func TestTypeOfVariables(t *testing.T) {
	beyond := untyped(1, impl.CkVar)
	figures := []typingFigure{
		{nil, "v0.", beyond}, {nil, "v1.", beyond}, {nil, "v999.", beyond}, {[]string{}, "v0.", beyond},
		{[]string{"sz."}, "v0.", typed(1, "sz.")}, {[]string{"sz."}, "v1.", beyond}, {[]string{"sz."}, "v2.", beyond}, {[]string{"sz."}, "v999.", beyond},
		{[]string{"v0.", "sz."}, "v0.", typed(1, "v1.")}, {[]string{"v0.", "sz."}, "v1.", typed(1, "sz.")}, {[]string{"v0.", "sz."}, "v2.", beyond},
		{[]string{"v1.", "v0.", "sz."}, "v0.", typed(1, "v2.")}, {[]string{"v1.", "v0.", "sz."}, "v1.", typed(1, "v2.")}, {[]string{"v1.", "v0.", "sz."}, "v2.", typed(1, "sz.")}, {[]string{"v1.", "v0.", "sz."}, "v3.", beyond},
		// The variables of a type need not be in the context.
		{[]string{"v5.", "v5."}, "v0.", typed(1, "v6.")}, {[]string{"v5.", "v5."}, "v1.", typed(1, "v7.")}, {[]string{"sz.", "sz.", "sz.", "v0."}, "v3.", typed(1, "v4.")}, {[]string{"sz.", "sz.", "sz.", "pv0.v1."}, "v3.", typed(1, "pv4.v5.")},
		{[]string{"psz.v0."}, "v0.", typed(1, "psz.v0.")}, {[]string{"psz.v1."}, "v0.", typed(1, "psz.v2.")}, {[]string{"sz.", "psz.@v0.v1."}, "v1.", typed(1, "psz.@v0.v3.")}, {[]string{"tsz.v0.v1."}, "v0.", typed(1, "tsz.v1.v2.")},
		// The types are neither reduced nor have a type themselves.
		{[]string{"@lsz.v0.v0."}, "v0.", typed(1, "@lsz.v0.v1.")}, {[]string{"su2."}, "v0.", typed(1, "su2.")}, {[]string{"cnobody;."}, "v0.", typed(1, "cnobody;.")}, {[]string{omegaTerm}, "v0.", typed(1, omegaTerm)}, {[]string{"cone;.", greatTerm}, "v0.", typed(1, "cone;.")},
	}
	checkPlainFigures(t, 0, figures)
	checkPlainFigures(t, 3, figures)
	// Each variable of a long context has its own type.
	context := make([]string, 200)
	for at := range context {
		context[at] = "v" + strconv.Itoa(at%7) + "."
	}
	for _, number := range []int{0, 1, 6, 7, 99, 198, 199} {
		checkTypingFigure(t, nil, 0, typingFigure{context, variableTree(number).text, typed(1, variableTree(number%7+number+1).text)})
	}
	for _, number := range []int{200, 201, 998, 999} {
		checkTypingFigure(t, nil, 0, typingFigure{context, variableTree(number).text, beyond})
	}
}

// TestTypeOfVariablesLimits has types that exceed a limit only because they are lifted.
func TestTypeOfVariablesLimits(t *testing.T) {
	tooBig := untyped(1, impl.CkSize)
	checkTypingFigures(t, nil, 0, []typingFigure{
		{[]string{"v998."}, "v0.", typed(1, "v999.")}, {[]string{"v999."}, "v0.", tooBig}, {[]string{"sz.", "v997."}, "v1.", typed(1, "v999.")}, {[]string{"sz.", "v998."}, "v1.", tooBig}, {[]string{"sz.", "lsz.v998."}, "v1.", tooBig}, {[]string{"v999.", "v0."}, "v1.", typed(1, "v2.")},
		{[]string{plainText(2000)}, "v0.", typed(1, plainText(2000))}, {[]string{filledUp("v8.", 2000)}, "v0.", typed(1, filledUp("v9.", 2000))}, {[]string{filledUp("v9.", 1999)}, "v0.", typed(1, "@v10."+plainText(1995))}, {[]string{filledUp("v9.", 2000)}, "v0.", tooBig}, {[]string{"sz.", filledUp("v8.", 2000)}, "v1.", tooBig}, {[]string{"sz.", filledUp("v8.", 1999)}, "v1.", typed(1, "@v10."+plainText(1995))},
	})
}

// TestTypeOfSorts has levels with up to as many parameters as there are, and with more.
func TestTypeOfSorts(t *testing.T) {
	levels := [][]string{{"z", "+z", "mzz", "iz+z"}, {"u0", "+u0", "mzu0", "iu0z"}, {"u1", "mu0u1", "i+u1u0"}, {"u2", "mu0iu1u2", "i+u2z"}}
	for params := range 4 {
		for needed, list := range levels {
			for _, level := range list {
				want := typed(1, "s+"+level+".")
				if needed > params {
					want = untyped(1, impl.CkLevel)
				}
				checkPlainFigures(t, params, []typingFigure{{nil, "s" + level + ".", want}, {[]string{"sz.", "su2."}, "s" + level + ".", want}})
			}
		}
	}
	for _, size := range []int{57, 58, 59, 60} {
		for last, needed := range map[string]int{"z": 0, "u1": 2} {
			level := strings.Repeat("+", size-len(last)) + last
			for params := range 4 {
				want := typed(1, "s+"+level+".")
				if size == 60 {
					want = untyped(1, impl.CkSize)
				}
				if needed > params {
					want = untyped(1, impl.CkLevel)
				}
				checkTypingFigure(t, nil, params, typingFigure{nil, "s" + level + ".", want})
			}
		}
	}
}

// TestTypeOfConstants has a name of each kind of entry, and each reason for a code together with each other one.
func TestTypeOfConstants(t *testing.T) {
	noName, noLevel, tooBig := untyped(1, impl.CkName), untyped(1, impl.CkLevel), untyped(1, impl.CkSize)
	figures := []typingFigure{
		// Axioms, definitions, theorems, data types, constructors and recursors.
		{nil, "ceq;z,.", typed(1, "psz.pv0.pv1.sz.")}, {nil, "cone;.", typed(1, "cnat;.")}, {nil, "cid;+z,.", typed(1, "ps+z.pv0.v1.")}, {nil, "cconst;z,+z,.", typed(1, "psz.ps+z.pv1.pv1.v3.")}, {nil, "cone.eq;.", typed(1, "@@@ceq;+z,.cnat;.cone;.@cnat.succ;.cnat.zero;.")}, {nil, "cnat;.", typed(1, "s+z.")}, {nil, "ceither;z,++z,.", typed(1, "s+mz++z.")}, {nil, "cnat.succ;.", typed(1, "pcnat;.cnat;.")}, {nil, "clist.cons;+z,.", typed(1, "ps+z.pclist;+z,.clist;+z,.")}, {nil, "cfalse.rec;.", typed(1, "ppcfalse;.sz.pcfalse;.@v1.v0.")}, {nil, "cnat.rec;z,.", typed(1, "ppcnat;.sz.p@v0.cnat.zero;.ppcnat;.p@v2.v0.@v3.@cnat.succ;.v1.pcnat;.@v3.v0.")}, {[]string{"sz."}, "cdouble;.", typed(1, "carrow;.")}, {nil, "cloop;.", typed(1, "s+z.")},
		// Names that no entry has, with any number of levels.
		{nil, "cnobody;.", noName}, {nil, "cnobody;z,.", noName}, {nil, "cnobody;z,z,z,.", noName}, {nil, "cnat.rec.rec;z,.", noName}, {nil, "cnat.one;.", noName}, {[]string{"sz."}, "cnobody;.", noName},
		// Too many levels, and too few.
		{nil, "cnat;z,.", noLevel}, {nil, "cone;z,.", noLevel}, {nil, "cid;.", noLevel}, {nil, "cid;z,z,.", noLevel}, {nil, "cconst;z,.", noLevel}, {nil, "cconst;z,z,z,.", noLevel}, {nil, "cone.eq;z,.", noLevel}, {nil, "ceq;.", noLevel}, {nil, "cnat.zero;z,.", noLevel}, {nil, "clist.nil;.", noLevel}, {nil, "cnat.rec;.", noLevel}, {nil, "cnat.rec;z,z,.", noLevel}, {nil, "cfalse.rec;z,.", noLevel}, {nil, "ceither.rec;z,z,.", noLevel},
		// Levels with too many parameters, alone and together with each other code.
		{nil, "cid;u0,.", noLevel}, {nil, "cconst;z,u0,.", noLevel}, {nil, "cconst;u0,z,.", noLevel}, {nil, "cnobody;u0,.", noLevel}, {nil, "cnobody;z,z,+u2,.", noLevel}, {nil, "cnat;u0,.", noLevel}, {nil, "cbad.rec;u0,.", noLevel}, {nil, "cid;z,u0,.", noLevel},
		// A recursor without a type.
		{nil, "cbad;.", typed(1, "s+z.")}, {nil, "cbad.rec;z,.", tooBig}, {nil, "cbad.rec;.", noLevel}, {nil, "cbad.rec;z,z,.", noLevel},
	}
	checkTypingFigures(t, typedEnv(), 0, figures)
	checkTypingFigures(t, typedEnv(), 1, []typingFigure{{nil, "cid;u0,.", typed(1, "psu0.pv0.v1.")}, {nil, "cid;mu0z,.", typed(1, "psmu0z.pv0.v1.")}, {nil, "cid;u1,.", noLevel}, {nil, "cid;iu1u0,.", noLevel}, {nil, "cconst;u0,u1,.", noLevel}, {nil, "cnobody;u0,.", noName}, {nil, "cnobody;u1,.", noLevel}})
	checkTypingFigures(t, typedEnv(), 3, []typingFigure{{nil, "cconst;u2,u1,.", typed(1, "psu2.psu1.pv1.pv1.v3.")}, {nil, "ceither.left;u2,u0,.", typed(1, "psu2.ceither;u2,u0,.")}, {nil, "cnobody;u2,.", noName}, {nil, "cid;u2,u2,.", noLevel}})
	for _, env := range [][]impl.Entry{nil, {}, {{}}} {
		checkTypingFigures(t, env, 0, []typingFigure{{nil, "cnat;.", noName}, {nil, "cnat;z,.", noName}, {nil, "cnat;u0,.", noLevel}})
	}
	checkConstantLimits(t)
}

// checkConstantLimits has types that exceed a limit only with their levels.
func checkConstantLimits(t *testing.T) {
	t.Helper()
	level := strings.Repeat("+", 57) + "u0"
	env := entriesOf(axiomOf("b", 1, "s+u0."), axiomOf("c", 1, "psu0."+plainText(1990)), axiomOf("d", 1, "psz.sz."))
	tooBig := untyped(1, impl.CkSize)
	checkTypingFigures(t, env, 1, []typingFigure{
		{nil, "cb;" + level + ",.", typed(1, "s+"+level+".")}, {nil, "cb;+" + level + ",.", tooBig}, {nil, "cd;+" + level + ",.", typed(1, "psz.sz.")}, {nil, "cc;++++++z,.", typed(1, "ps++++++z."+plainText(1990))}, {nil, "cc;+++++++z,.", tooBig}, {nil, "cc;u1,u1,.", untyped(1, impl.CkLevel)}, {nil, "cc;++++++u1,.", untyped(1, impl.CkLevel)},
	})
}

// TestTypeOfApplications has functions whose types are function types at once, only after reductions, or not at all.
func TestTypeOfApplications(t *testing.T) {
	checkPlainFigures(t, 0, []typingFigure{
		{nil, "@lsz.v0.v0.", untyped(5, impl.CkVar)}, {nil, "@ls+z.v0.sz.", typed(6, "s+z.")}, {nil, "@lsz.v0.sz.", untyped(6, impl.CkArg)}, {nil, "@ls+z.lv0.v0.sz.", typed(8, "psz.sz.")}, {nil, "@lsm+z+z.v0.sz.", typed(6, "sm+z+z.")},
		{nil, "@sz.sz.", untyped(2, impl.CkFunc)}, {nil, "@psz.sz.sz.", untyped(4, impl.CkFunc)}, {nil, "@v0.sz.", untyped(2, impl.CkVar)}, {nil, "@su0.sz.", untyped(2, impl.CkLevel)}, {nil, "@sz.v9.", untyped(2, impl.CkFunc)}, {nil, "@@ls+z.v0.sz.sz.", untyped(7, impl.CkFunc)},
		// The type of the argument is put into the second part, whose greater variables decrease.
		{[]string{"pv0.v1.", "sz."}, "v0.", typed(1, "pv1.v2.")}, {[]string{"v1.", "pv0.v1.", "sz."}, "@v1.v0.", typed(4, "v2.")}, {[]string{"v1.", "pv0.@v3.v0.", "sz."}, "@v1.v0.", typed(4, "@v4.v0.")}, {[]string{"psz.pv0.v1.", "sz."}, "@v0.v1.", typed(4, "pv1.v2.")}, {[]string{"psz.pv0.v1.", "sz."}, "@v1.v0.", untyped(2, impl.CkFunc)}, {[]string{"psz.v998.", "sz."}, "@v0.v1.", typed(4, "v998.")}, {[]string{"psz.v999.", "sz."}, "@v0.v1.", untyped(2, impl.CkSize)},
		// The type of the function is reduced.
		{[]string{"@lsz.psz.sz.v0.", "sz."}, "@v0.v1.", typed(5, "sz.")}, {[]string{"ts+z.psz.sz.v0.", "sz."}, "@v0.v1.", typed(5, "sz.")}, {[]string{"@lsz.v0.v3."}, "@v0.v0.", untyped(3, impl.CkFunc)}, {[]string{"@psz.sz.v0."}, "@v0.v0.", untyped(2, impl.CkFunc)}, {[]string{"lsz.psz.sz."}, "@v0.v0.", untyped(2, impl.CkFunc)}, {[]string{"@lsz.lsz.v1.v998."}, "@v0.v0.", untyped(3, impl.CkSize)},
	})
	checkTypingFigures(t, typedEnv(), 0, []typingFigure{
		{nil, oneNumber, typed(4, "cnat;.")}, {nil, "@cnat.succ;.cone;.", typed(4, "cnat;.")}, {nil, numberText(3), typed(10, "cnat;.")}, {nil, "@@cadd;.cone;.ctwo;.", typed(7, "cnat;.")}, {nil, "@cadd;.cone;.", typed(4, "pcnat;.cnat;.")}, {nil, "@lcnat;.v0.cone;.", typed(6, "cnat;.")}, {nil, "@lsz.lv0.v0.cfalse;.", typed(8, "pcfalse;.cfalse;.")}, {nil, "@cid;+z,.cnat;.", typed(4, "pcnat;.cnat;.")}, {nil, "@@cid;+z,.cnat;.cone;.", typed(7, "cnat;.")}, {nil, "@crefl;+z,.cnat;.", typed(4, "pcnat;.@@@ceq;+z,.cnat;.v0.v0.")}, {nil, "@@crefl;+z,.cnat;.@cnat.succ;.cone;.", typed(10, "@@@ceq;+z,.cnat;.@cnat.succ;.cone;.@cnat.succ;.cone;.")},
		// A function type only after a definition is unfolded.
		{nil, "@cdouble;.cone;.", typed(5, "cnat;.", "arrow")}, {nil, "@@@cid;+z,.carrow;.cdouble;.cone;.", typed(11, "cnat;.", "arrow")}, {nil, "@cx;.cone;.", untyped(3, impl.CkFunc, "n")}, {nil, "@cdouble;.v0.", untyped(4, impl.CkVar, "arrow")}, {nil, "@cdouble;.sz.", untyped(5, impl.CkArg, "arrow")},
		// No function type, whatever the argument is.
		{nil, "@cnat.zero;.cone;.", untyped(2, impl.CkFunc)}, {nil, "@cone;.v9.", untyped(2, impl.CkFunc)}, {nil, "@cnat;.cnobody;.", untyped(2, impl.CkFunc)}, {nil, "@@cnat.succ;.cone;.cone;.", untyped(5, impl.CkFunc)}, {nil, "@@cadd;.cone;.@cone;.cone;.", untyped(7, impl.CkFunc)},
		// Parts without a type.
		{nil, "@cnobody;.v0.", untyped(2, impl.CkName)}, {nil, "@cnat.rec;.v0.", untyped(2, impl.CkLevel)}, {nil, "@cbad.rec;z,.v0.", untyped(2, impl.CkSize)}, {nil, "@cnat.succ;.v0.", untyped(3, impl.CkVar)}, {nil, "@cnat.succ;.cnobody;.", untyped(3, impl.CkName)}, {nil, "@cnat.succ;.su0.", untyped(3, impl.CkLevel)}, {nil, "@cnat.succ;.@cone;.cone;.", untyped(4, impl.CkFunc)}, {nil, "@cnat.succ;.@cnat.succ;.sz.", untyped(6, impl.CkArg)},
		// The type of the argument is equal only after reductions, or is another one.
		{nil, "@cfrom;.cone;.", typed(5, "cnat;.", "n")}, {nil, "@cnat.succ;.cx;.", typed(5, "cnat;.", "n")}, {nil, "@cfrom;.cx;.", typed(4, "cnat;.")}, {nil, "@@ceq;+z,.cn;.cone;.", typed(8, "pcn;.sz.", "n")},
		{nil, "@cid;m+z+z,.cnat;.", typed(4, "pcnat;.cnat;.")}, {nil, "@cid;+z,.ca;.", typed(5, "pca;.ca;.", "up")}, {nil, "@cid;z,.cnat;.", untyped(4, impl.CkArg)}, {nil, "@cid;++z,.cnat;.", untyped(4, impl.CkArg)}, {nil, "@cnat.succ;.sz.", untyped(4, impl.CkArg)}, {nil, "@cnat.succ;.cnat;.", untyped(4, impl.CkArg)}, {nil, "@cnat.succ;.cnat.succ;.", untyped(4, impl.CkArg)}, {nil, "@cfrom;.cnat;.", untyped(5, impl.CkArg, "n")}, {nil, "@cid;+z,.cx;.", untyped(5, impl.CkArg, "n")},
	})
}

// TestTypeOfFunctions has functions whose variable has a type that is none, and bodies with and without a type.
func TestTypeOfFunctions(t *testing.T) {
	checkPlainFigures(t, 0, []typingFigure{
		{nil, "lsz.v0.", typed(3, "psz.sz.")}, {nil, "lsz.sz.", typed(3, "psz.s+z.")}, {nil, "lsz.lv0.v0.", typed(5, "psz.pv0.v1.")}, {nil, "lsz.lv0.v1.", typed(5, "psz.pv0.sz.")}, {nil, "lpsz.sz.v0.", typed(5, "ppsz.sz.psz.sz.")}, {nil, "lsz.lpv0.v1.lv1.@v1.v0.", typed(12, "psz.ppv0.v1.pv1.v2.")}, {[]string{"sz."}, "lv0.v0.", typed(3, "pv0.v1.")}, {[]string{"sz."}, "lv0.v1.", typed(3, "pv0.sz.")}, {[]string{"v0.", "sz."}, "lv1.v1.", typed(3, "pv1.v2.")}, {[]string{"v0.", "sz."}, "lv1.v2.", typed(3, "pv1.sz.")},
		// The first part is not a type, or has none.
		{nil, "lv0.v0.", untyped(2, impl.CkVar)}, {nil, "lsu0.v0.", untyped(2, impl.CkLevel)}, {nil, "l@sz.sz.v0.", untyped(3, impl.CkFunc)}, {nil, "llsz.v0.v0.", untyped(4, impl.CkSort)}, {[]string{"v0.", "sz."}, "lv0.v0.", untyped(2, impl.CkSort)}, {nil, "l@lsz.v0.sz.v0.", untyped(7, impl.CkArg)},
		// The first part is a type, as a reduction shows, but stays as it is.
		{nil, "l@ls+z.v0.sz.v0.", typed(8, "p@ls+z.v0.sz.@ls+z.v0.sz.")}, {[]string{"@ls+z.v0.sz."}, "lv0.v0.", typed(4, "pv0.v1.")}, {[]string{"@lsz.v0.v0.", "v0.", "sz."}, "lv0.v0.", untyped(3, impl.CkSort)},
		// The body has no type: its variable is in the context, and no other one.
		{nil, "lsz.v1.", untyped(3, impl.CkVar)}, {[]string{"sz."}, "lv0.v2.", untyped(3, impl.CkVar)}, {nil, "lsz.su0.", untyped(3, impl.CkLevel)}, {nil, "lsz.@v0.v0.", untyped(4, impl.CkFunc)}, {nil, "lsz.lv0.lv0.v0.", untyped(6, impl.CkSort)}, {nil, "lsz.@ls+z.v0.v0.", untyped(8, impl.CkArg)},
	})
	checkTypingFigures(t, typedEnv(), 0, []typingFigure{
		{nil, "lcnat;.v0.", typed(3, "pcnat;.cnat;.")}, {nil, "lcnat;.@cnat.succ;.v0.", typed(6, "pcnat;.cnat;.")}, {nil, "lca;.v0.", typed(4, "pca;.ca;.", "up")}, {nil, "lcn;.@cnat.succ;.v0.", typed(7, "pcn;.cnat;.", "n")}, {nil, "lcone;.v0.", untyped(2, impl.CkSort)}, {nil, "lcx;.v0.", untyped(3, impl.CkSort, "n")}, {nil, "lcnat.succ;.v0.", untyped(2, impl.CkSort)}, {nil, "lcnobody;.v0.", untyped(2, impl.CkName)}, {nil, "lcid;.v0.", untyped(2, impl.CkLevel)}, {nil, "lcnat;.cnobody;.", untyped(3, impl.CkName)}, {nil, "lcnat;.cbad.rec;z,.", untyped(3, impl.CkSize)}, {nil, "lcnat;.@cdouble;.v0.", typed(7, "pcnat;.cnat;.", "arrow")},
	})
	checkTypingFigures(t, typedEnv(), 1, []typingFigure{{nil, "lsu0.lv0.@@cid;u0,.v1.v0.", typed(11, "psu0.pv0.v1.")}})
}

// TestTypeOfFunctionTypes has the levels of both parts, and parts that are no types.
func TestTypeOfFunctionTypes(t *testing.T) {
	checkPlainFigures(t, 0, []typingFigure{
		{nil, "psz.sz.", typed(3, "si+z+z.")}, {nil, "psz.v0.", typed(3, "si+zz.")}, {nil, "ps+z.sz.", typed(3, "si++z+z.")}, {nil, "psz.s+z.", typed(3, "si+z++z.")}, {nil, "psmzz.sizz.", typed(3, "si+mzz+izz.")}, {nil, "psz.pv0.v1.", typed(5, "si+zizz.")}, {nil, "ppsz.v0.sz.", typed(5, "sii+zz+z.")}, {nil, "psz.psz.sz.", typed(5, "si+zi+z+z.")}, {[]string{"s+z."}, "pv0.v1.", typed(3, "si+z+z.")}, {[]string{"sz.", "s+z."}, "pv0.v2.", typed(3, "siz+z.")},
		// The first part is not a type, or has none.
		{nil, "pv0.sz.", untyped(2, impl.CkVar)}, {nil, "psu0.sz.", untyped(2, impl.CkLevel)}, {nil, "p@sz.sz.sz.", untyped(3, impl.CkFunc)}, {nil, "plsz.v0.sz.", untyped(4, impl.CkSort)}, {[]string{"v0.", "sz."}, "pv0.sz.", untyped(2, impl.CkSort)}, {nil, "p@lsz.v0.sz.sz.", untyped(7, impl.CkArg)},
		// The second part is not a type, or has none.
		{nil, "psz.v1.", untyped(3, impl.CkVar)}, {nil, "psz.su0.", untyped(3, impl.CkLevel)}, {nil, "psz.@v0.v0.", untyped(4, impl.CkFunc)}, {nil, "psz.lsz.v0.", untyped(5, impl.CkSort)}, {nil, "psz.pv0.v0.", untyped(5, impl.CkSort)}, {nil, "psz.@ls+z.v0.v0.", untyped(8, impl.CkArg)}, {[]string{"v0.", "sz."}, "psz.v1.", untyped(3, impl.CkSort)},
		// The parts are types, as reductions show.
		{[]string{"@ls+z.v0.sz."}, "pv0.v1.", typed(5, "sizz.")}, {nil, "p@ls+z.v0.sz.v0.", typed(9, "si+zz.")}, {nil, "p@ls++z.v0.s+z.v0.", typed(9, "si++z+z.")},
	})
	checkTypingFigures(t, typedEnv(), 0, []typingFigure{
		{nil, "pcnat;.cnat;.", typed(3, "si+z+z.")}, {nil, "pca;.ca;.", typed(5, "si+z+z.", "up")}, {nil, "pcnat;.cfalse;.", typed(3, "si+zz.")}, {nil, "pcfalse;.cnat;.", typed(3, "siz+z.")}, {nil, "pcone;.sz.", untyped(2, impl.CkSort)}, {nil, "pcx;.sz.", untyped(3, impl.CkSort, "n")}, {nil, "pcnobody;.sz.", untyped(2, impl.CkName)}, {nil, "pcid;.sz.", untyped(2, impl.CkLevel)}, {nil, "psz.cone;.", untyped(3, impl.CkSort)}, {nil, "psz.cx;.", untyped(4, impl.CkSort, "n")}, {nil, "pcnat;.v0.", untyped(3, impl.CkSort)}, {nil, "psz.cnobody;.", untyped(3, impl.CkName)}, {nil, "psz.cbad.rec;z,.", untyped(3, impl.CkSize)}, {nil, "pcnat;.@@@ceq;+z,.cnat;.v0.v0.", typed(12, "si+zz.")},
	})
	checkTypingFigures(t, typedEnv(), 3, []typingFigure{{nil, "psu0.su1.", typed(3, "si+u0+u1.")}, {nil, "psu1.su0.", typed(3, "si+u1+u0.")}, {nil, "psu0.psu2.v0.", typed(5, "si+u0i+u2u2.")}, {nil, "psu0.psu2.v1.", typed(5, "si+u0i+u2u0.")}, {nil, "psiu0u1.v0.", typed(3, "si+iu0u1iu0u1.")}})
}

// TestTypeOfDefinitions has local definitions with types, values and bodies that fit or do not.
func TestTypeOfDefinitions(t *testing.T) {
	checkPlainFigures(t, 0, []typingFigure{
		{nil, "ts+z.sz.v0.", typed(5, "s+z.")}, {nil, "ts+z.sz.s+z.", typed(5, "s++z.")}, {nil, "tsm+z+z.sz.v0.", typed(5, "s+z.")}, {nil, "ts+z.sz.lv0.v0.", typed(7, "psz.sz.")}, {nil, "ts+z.sz.lv0.v1.", typed(7, "psz.s+z.")}, {[]string{"sz."}, "tsz.v0.v0.", typed(5, "sz.")}, {[]string{"v0.", "sz."}, "tv1.v0.v0.", typed(5, "v1.")}, {[]string{"sz."}, "ts+z.sz.v1.", typed(5, "sz.")}, {[]string{"v0.", "sz."}, "ts+z.sz.v1.", typed(5, "v1.")},
		// The body has a type only with the value.
		{[]string{"v0.", "sz."}, "tsz.v1.@lv0.v0.v1.", typed(10, "v1.")}, {[]string{"v0.", "sz."}, "@lsz.@lv0.v0.v1.v1.", untyped(9, impl.CkArg)}, {nil, "ts++z.s+z.@lv0.v0.sz.", typed(10, "s+z.")},
		// The first part is not a type, or has none.
		{nil, "tv0.sz.sz.", untyped(2, impl.CkVar)}, {nil, "tsu0.sz.sz.", untyped(2, impl.CkLevel)}, {nil, "t@sz.sz.sz.sz.", untyped(3, impl.CkFunc)}, {nil, "tlsz.v0.sz.sz.", untyped(4, impl.CkSort)}, {[]string{"v0.", "sz."}, "tv0.v0.v0.", untyped(2, impl.CkSort)}, {nil, "t@lsz.v0.sz.sz.sz.", untyped(7, impl.CkArg)},
		// The value has no type, or another one.
		{nil, "tsz.v0.sz.", untyped(3, impl.CkVar)}, {nil, "tsz.su0.sz.", untyped(3, impl.CkLevel)}, {nil, "tsz.@sz.sz.sz.", untyped(4, impl.CkFunc)}, {nil, "tsz.sz.v0.", untyped(4, impl.CkArg)}, {nil, "ts++z.sz.v0.", untyped(4, impl.CkArg)}, {[]string{"v0.", "sz."}, "tsz.v0.v0.", untyped(4, impl.CkArg)}, {nil, "tsz.llsz.v0.v0.sz.", untyped(6, impl.CkSort)},
		// The body has no type.
		{nil, "ts+z.sz.v1.", untyped(5, impl.CkVar)}, {[]string{"sz."}, "ts+z.sz.v2.", untyped(5, impl.CkVar)}, {nil, "ts+z.sz.su0.", untyped(5, impl.CkLevel)}, {nil, "ts+z.sz.@v0.v0.", untyped(6, impl.CkFunc)}, {nil, "ts+z.sz.@lv0.v0.v0.", untyped(10, impl.CkArg)}, {nil, "ts+z.sz.llv0.v0.v0.", untyped(8, impl.CkSort)},
		// Local definitions inside each part of another one.
		{nil, "ts+z.ts+z.sz.v0.v0.", typed(13, "s+z.")}, {nil, "ts+z.sz.ts+z.v0.v0.", typed(9, "s+z.")}, {nil, "tts++z.s+z.v0.sz.v0.", typed(10, "s+z.")},
	})
	checkTypingFigures(t, typedEnv(), 0, []typingFigure{
		{nil, "tcnat;.cone;.v0.", typed(5, "cnat;.")}, {nil, "tcnat;.cone;.lcnat;.v1.", typed(7, "pcnat;.cnat;.")}, {nil, "tcnat;.cone;.sz.", typed(5, "s+z.")}, {nil, "tcnat;.ctwo;.@@cadd;.v0.v0.", typed(11, "cnat;.")}, {nil, "ts+z.cnat;.@lv0.v0.cone;.", typed(10, "cnat;.")}, {nil, "@ls+z.@lv0.v0.cone;.cnat;.", untyped(9, impl.CkArg)}, {nil, "tcnat;.tcnat;.cone;.v0.v0.", typed(13, "cnat;.")},
		// The type of the value is equal only after a reduction; the type of the body is that of the value.
		{nil, "tcn;.cone;.v0.", typed(6, "cnat;.", "n")}, {nil, "tcnat;.cx;.v0.", typed(6, "cn;.", "n")}, {nil, "tca;.cone;.v0.", untyped(5, impl.CkArg, "up")}, {nil, "tcnat;.carrow;.v0.", untyped(4, impl.CkArg)}, {nil, "tcn;.carrow;.v0.", untyped(5, impl.CkArg, "n")},
		{nil, "tcone;.cone;.v0.", untyped(2, impl.CkSort)}, {nil, "tcx;.cone;.v0.", untyped(3, impl.CkSort, "n")}, {nil, "tcnobody;.cone;.v0.", untyped(2, impl.CkName)}, {nil, "tcnat;.cnobody;.v0.", untyped(3, impl.CkName)}, {nil, "tcnat;.cone;.cnobody;.", untyped(5, impl.CkName)}, {nil, "tcnat;.cone;.@v0.v0.", untyped(6, impl.CkFunc)}, {nil, "tcnat;.cone;.v1.", untyped(5, impl.CkVar)}, {nil, "tcnat;.cbad.rec;z,.v0.", untyped(3, impl.CkSize)},
	})
}

// fault is a term without a type in any context without variables, and the figures for its code.
type fault struct {
	text string
	used int
	code int
}

func someFaults() []fault {
	return []fault{{"v7.", 1, impl.CkVar}, {"cnobody;.", 1, impl.CkName}, {"su0.", 1, impl.CkLevel}, {"cid;.", 1, impl.CkLevel}, {"@sz.sz.", 2, impl.CkFunc}, {"@cnat.succ;.sz.", 4, impl.CkArg}, {"lcone;.sz.", 2, impl.CkSort}, {"cbad.rec;z,.", 1, impl.CkSize}}
}

// TestTypeOfFirstFault has several faults in one term, of which the first in the described order decides.
func TestTypeOfFirstFault(t *testing.T) {
	env := entriesOf(natData(), badData(), idDef(), valueOf("one", 0, "cnat;.", oneNumber))
	check := func(text string, used int, code int) {
		t.Helper()
		checkTyping(t, typeCall{function: "TypeOf", env: env, text: text}, untyped(used, code))
	}
	for _, x := range someFaults() {
		for _, y := range someFaults() {
			for _, form := range []string{"@xy", "lxy", "pxy", "txyy", "tx" + "cone;.y", "@@xyy", "@@xcone;.y", "l@xcone;.y"} {
				before, _, _ := strings.Cut(form, "x")
				check(strings.NewReplacer("x", x.text, "y", y.text).Replace(form), len(before)+x.used, x.code)
			}
			check("@"+"@cnat.succ;."+x.text+y.text, 3+x.used, x.code)
			check("@cnat.succ;.@"+x.text+y.text, 3+x.used, x.code)
			check("lcnat;.p"+x.text+y.text, 3+x.used, x.code)
			check("tcnat;."+x.text+y.text, 2+x.used, x.code)
		}
		// The part before is not what it must be, whatever the next one is.
		check("@cone;."+x.text, 2, impl.CkFunc)
		check("@@cnat.succ;.cone;."+x.text, 5, impl.CkFunc)
		check("@@cnat.succ;.sz."+x.text, 5, impl.CkArg)
		check("lcone;."+x.text, 2, impl.CkSort)
		check("pcone;."+x.text, 2, impl.CkSort)
		check("tcone;.cone;."+x.text, 2, impl.CkSort)
		check("tcone;."+x.text+"v0.", 2, impl.CkSort)
		check("tcnat;.sz."+x.text, 4, impl.CkArg)
		// What comes before is right.
		check("@cnat.succ;."+x.text, 2+x.used, x.code)
		check("lcnat;."+x.text, 2+x.used, x.code)
		check("pcnat;."+x.text, 2+x.used, x.code)
		check("tcnat;.cone;."+x.text, 4+x.used, x.code)
		check("pcnat;.lcnat;."+x.text, 4+x.used, x.code)
	}
}

// TestTypesThatNeverEnd has types whose reduction or comparison uses all fuel, and places where they are not reduced.
func TestTypesThatNeverEnd(t *testing.T) {
	env := append(typedEnv(), entriesOf(axiomOf("y", 0, "cloop;."))...)
	for _, varType := range []string{"cloop;.", omegaTerm, "@cloop;.sz."} {
		for _, f := range []struct{ function, text string }{
			{"TypeOf", "@v0.sz."}, {"TypeOf", "lv0.v0."}, {"TypeOf", "pv0.sz."}, {"TypeOf", "psz.v1."}, {"TypeOf", "tv0.v0.v0."}, {"TypeOf", "@cnat.succ;.v0."}, {"TypeOf", "tcnat;.v0.v0."}, {"TypeOf", "tcnat;.cone;.@v1.v0."}, {"TypeOf", "@v0.v7."}, {"TypeOf", "lv0.v7."}, {"TypeOf", "lsz.lsz.@v2.v0."}, {"SortOf", "v0."}, {"SortOf", "lv0.v0."},
		} {
			c := typeCall{function: f.function, env: env, context: []string{varType}, text: f.text}
			for _, fuel := range []int{0, 1, 2, 3, 4, 5, 6, 10, 100, 300} {
				if got := checkWantTypeCall(t, c, fuel); got.Code != impl.CkFuel || got.Fuel != 0 || fuel >= 10 && strings.Contains(varType, "loop") != slices.Contains(got.Seen, "loop") {
					t.Errorf("the test itself finds %s for %q with the fuel %d", gotText(got), f.text, fuel)
				}
			}
		}
		checkTypingFigures(t, env, 0, []typingFigure{{[]string{varType}, "v0.", typed(1, varType)}, {[]string{varType}, "lsz.v1.", typed(3, "psz."+varType)}, {[]string{varType, "p" + varType + "sz."}, "@v1.v0.", typed(4, "sz.")}})
	}
	for _, pair := range [][]string{{"cone;.", "cloop;."}, {"cy;.", "cnat;."}, {"cy;.", "cone;."}, {"cone;.", omegaTerm}, {"lcnat;.v0.", "pcnat;.cloop;."}} {
		c := typeCall{function: "HasType", env: env, text: pair[0], ty: pair[1]}
		for _, fuel := range []int{0, 1, 2, 3, 4, 10, 5000} {
			if got := checkWantTypeCall(t, c, fuel); got.Code != impl.CkFuel || got.Fuel != 0 {
				t.Errorf("the test itself finds %s for %q with the fuel %d", gotText(got), pair, fuel)
			}
		}
	}
	checkTyping(t, typeCall{function: "HasType", env: env, text: "cy;.", ty: "cloop;."}, typed(2, "cloop;."))
	checkTyping(t, typeCall{function: "HasType", env: env, text: "cloop;.", ty: "s+z."}, typed(2, "s+z."))
}

// TestTypeOfTermLimits has types and levels with exactly the greatest number of bytes, and with one more.
func TestTypeOfTermLimits(t *testing.T) {
	env := entriesOf(natData())
	number := numberText(10)
	for _, size := range []int{1867, 1868, 1869} {
		want, wantLonger := typed(34, "@"+number+plainText(size)), untyped(68, impl.CkFunc)
		if size > 1868 {
			want, wantLonger = untyped(34, impl.CkSize), untyped(34, impl.CkSize)
		}
		// PutIn for an application, and for a local definition with the value three times.
		checkTypingFigure(t, env, 0, typingFigure{[]string{"pcnat;.@v0." + plainText(size)}, "@v0." + number, want})
		checkTypingFigure(t, env, 0, typingFigure{nil, "tcnat;." + number + "@@@v0.v0.v0." + plainText(size-264), wantLonger})
	}
	for _, size := range []int{1994, 1995, 1996, 1997, 2000} {
		want, wantGrown := typed(3, "psz."+filledUp("v9.", size)), typed(3, "psz.@v10."+plainText(size-4))
		if size > 1996 {
			want = untyped(3, impl.CkSize)
		}
		if size > 1995 {
			wantGrown = untyped(3, impl.CkSize)
		}
		checkTypingFigures(t, nil, 0, []typingFigure{{[]string{filledUp("v7.", size)}, "lsz.v1.", want}, {[]string{filledUp("v8.", size)}, "lsz.v1.", wantGrown}})
	}
	// The levels of function types in each other.
	for count := 18; count < 23; count++ {
		for _, last := range []string{"z", "+z", "++z", "+++z"} {
			level, text := strings.Repeat("i+z", count)+"+"+last, strings.Repeat("psz.", count)+"s"+last+"."
			want := typed(2*count+1, "s"+level+".")
			if len(level) > 60 {
				want = untyped(2*count+1, impl.CkSize)
			}
			checkTypingFigure(t, nil, 0, typingFigure{nil, text, want})
		}
	}
	// A variable that is too great only under the binders of the type into which it is put.
	outside := slices.Repeat([]string{"sz."}, 200)
	outside[199] = strings.Repeat("psz.", 491) + "v490."
	under := strings.Repeat("lsz.", 320) + "@@v519."
	checkTypingFigures(t, nil, 0, []typingFigure{{outside, under + "v509.sz.", untyped(647, impl.CkArg)}, {outside, under + "v510.sz.", untyped(645, impl.CkSize)}})
	// A comparison that exceeds a limit.
	checkTypingFigures(t, nil, 0, []typingFigure{{[]string{"v998.", "plsz.v0.sz."}, "@v1.v0.", untyped(4, impl.CkSize)}, {[]string{"v997.", "plsz.v0.sz."}, "@v1.v0.", untyped(5, impl.CkArg)}})
}

// TestContextLengths has contexts with up to the greatest number of elements, and with more; only inner contexts may have more.
func TestContextLengths(t *testing.T) {
	for _, size := range []int{0, 1, 198, 199, 200, 201, 202, 1000, 100000} {
		context := slices.Repeat([]string{"sz."}, size)
		if size > 0 {
			context[size-1] = "cnat;."
		}
		for _, binders := range []int{0, 1, 2, 300} {
			at := func(number int) string { return strings.Repeat("lsz.", binders) + variableTree(number).text }
			last, beyond := min(size, 500)+binders-1, min(size, 500)+binders
			want := typed(2*binders+1, strings.Repeat("psz.", binders)+"cnat;.")
			if size == 0 {
				want.term = strings.Repeat("psz.", binders) + "sz."
			}
			if size <= 200 && last >= 0 {
				checkTypeCall(t, typeCall{function: "TypeOf", context: context, text: at(last)}, 1000, impl.Got{Term: want.term, Fuel: 1000 - want.used})
			}
			none := impl.Got{Code: impl.CkSize}
			if size <= 200 {
				none = impl.Got{Code: impl.CkVar, Fuel: 1000 - want.used}
			}
			for _, function := range []string{"TypeOf", "SortOf"} {
				checkTypeCall(t, typeCall{function: function, context: context, text: at(beyond)}, 1000, none)
			}
		}
		if size > 200 {
			for _, function := range []string{"TypeOf", "SortOf"} {
				for _, fuel := range []int{0, 1, 5000} {
					checkTypeCall(t, typeCall{function: function, context: context, text: "sz."}, fuel, impl.Got{Code: impl.CkSize})
				}
			}
		}
	}
	full := slices.Repeat([]string{"sz."}, 200)
	checkTypingFigures(t, nil, 0, []typingFigure{{full, "pv199.v200.", typed(3, "sizz.")}, {full, "pv199.v201.", untyped(3, impl.CkVar)}, {full, "psz.psz.v201.", typed(5, "si+zi+zz.")}, {full, "tsz.v199.v200.", typed(5, "sz.")}, {full, "tsz.sz.v200.", untyped(4, impl.CkArg)}, {full, "ts+z.sz.v200.", typed(5, "sz.")}, {full, "@lsz.v200.v199.", typed(6, "sz.")}, {full, "@ls+z.v200.v199.", untyped(6, impl.CkArg)}, {full, "@ls+z.v200.sz.", typed(6, "sz.")}})
}

// TestInferInvalidArguments has texts that are no terms at each place, and numbers out of their ranges, each of them alone and with others.
func TestInferInvalidArguments(t *testing.T) {
	none := impl.Got{Code: impl.CkSize}
	numbers := []struct{ params, fuel int }{{0, 0}, {0, 1}, {3, 5000}, {-1, 10}, {4, 10}, {0, -1}, {3, 5001}, {-1, 5001}}
	for _, env := range [][]impl.Entry{nil, typedEnv()} {
		for _, s := range someNoTerms() {
			for _, n := range numbers {
				for _, c := range []typeCall{
					{function: "TypeOf", text: s}, {function: "TypeOf", context: []string{"sz."}, text: s}, {function: "TypeOf", context: []string{s}, text: "sz."}, {function: "TypeOf", context: []string{s, "sz."}, text: "v1."}, {function: "TypeOf", context: []string{"sz.", "sz.", s}, text: "v9."}, {function: "TypeOf", context: []string{s}, text: s},
					{function: "SortOf", text: s}, {function: "SortOf", context: []string{"sz.", s, "sz."}, text: "sz."}, {function: "HasType", text: s, ty: "sz."}, {function: "HasType", text: "sz.", ty: s}, {function: "HasType", text: "v0.", ty: s}, {function: "HasType", text: s, ty: s},
				} {
					c.env, c.params = env, n.params
					checkTypeCall(t, c, n.fuel, none)
				}
			}
		}
		for _, c := range []typeCall{{function: "TypeOf", text: "sz."}, {function: "TypeOf", text: "v0."}, {function: "TypeOf", text: "su2."}, {function: "TypeOf", context: []string{"sz."}, text: "v0."}, {function: "SortOf", text: "sz."}, {function: "SortOf", text: "cone;."}, {function: "HasType", text: "sz.", ty: "s+z."}, {function: "HasType", text: "cone;.", ty: "sz."}} {
			c.env = env
			for _, fuel := range []int{-1, -2, -5000, 5001, 5002, 1000000000, math.MinInt, math.MaxInt} {
				checkTypeCall(t, c, fuel, none)
			}
			for _, params := range []int{-1, -2, 4, 5, 1000000000, math.MinInt, math.MaxInt} {
				c.params = params
				for _, fuel := range []int{0, 1, 10, 5000} {
					checkTypeCall(t, c, fuel, none)
				}
			}
			for params := range 4 {
				c.params = params
				checkWantTypeCall(t, c, 0)
				checkWantTypeCall(t, c, 5000)
			}
		}
	}
	// The texts are not joined before they are checked.
	checkTypeCall(t, typeCall{function: "TypeOf", context: []string{"sz.sz."}, text: "v0."}, 10, none)
	checkTypeCall(t, typeCall{function: "HasType", text: "@sz.", ty: "sz."}, 10, none)
}

// TestSortOfFigures has terms that are types at once, only as a reduction shows, or not at all.
func TestSortOfFigures(t *testing.T) {
	figures := []struct {
		params int
		typingFigure
	}{
		{0, typingFigure{nil, "sz.", typed(1, "+z")}}, {0, typingFigure{nil, "smzz.", typed(1, "+mzz")}}, {1, typingFigure{nil, "su0.", typed(1, "+u0")}}, {3, typingFigure{nil, "siu1u2.", typed(1, "+iu1u2")}}, {0, typingFigure{nil, "cnat;.", typed(1, "+z")}}, {0, typingFigure{nil, "cfalse;.", typed(1, "z")}}, {2, typingFigure{nil, "ceither;u1,z,.", typed(1, "+mu1z")}}, {0, typingFigure{nil, "pcnat;.cnat;.", typed(3, "i+z+z")}}, {0, typingFigure{nil, "psz.v0.", typed(3, "i+zz")}}, {1, typingFigure{nil, "psu0.pv0.v1.", typed(5, "i+u0iu0u0")}}, {0, typingFigure{nil, "@@@ceq;+z,.cnat;.cone;.ctwo;.", typed(10, "z")}}, {0, typingFigure{nil, "ts++z.s+z.v0.", typed(5, "++z")}}, {0, typingFigure{nil, "tcnat;.cone;.@@@ceq;+z,.cnat;.v0.v0.", typed(14, "z")}},
		{0, typingFigure{[]string{"sz."}, "v0.", typed(1, "z")}}, {0, typingFigure{[]string{"v0.", "smu0u1."}, "v1.", typed(1, "mu0u1")}},
		// The type is a sort only after reductions.
		{0, typingFigure{nil, "ca;.", typed(2, "+z", "up")}}, {0, typingFigure{[]string{"@ls+z.v0.sz."}, "v0.", typed(2, "z")}}, {0, typingFigure{[]string{"ts+z.sz.v0."}, "v0.", typed(2, "z")}}, {0, typingFigure{nil, "@lca;.cnat;.v0.", untyped(6, impl.CkVar, "up")}}, {0, typingFigure{nil, "@lcnat;.ca;.cone;.", typed(7, "+z", "up")}}, {0, typingFigure{[]string{"@@@@cnat.rec;++z,.lcnat;.s++z.sz.lcnat;.ls++z.s+z.cone;."}, "v0.", typed(5, "+z", "nat.rec", "one")}},
		// The type is no sort.
		{0, typingFigure{nil, "cone;.", untyped(1, impl.CkSort)}}, {0, typingFigure{nil, "cnat.succ;.", untyped(1, impl.CkSort)}}, {0, typingFigure{nil, "lsz.v0.", untyped(3, impl.CkSort)}}, {0, typingFigure{nil, "lsz.sz.", untyped(3, impl.CkSort)}}, {0, typingFigure{nil, "cx;.", untyped(2, impl.CkSort, "n")}}, {0, typingFigure{nil, "cdouble;.", untyped(2, impl.CkSort, "arrow")}}, {0, typingFigure{[]string{"v0.", "sz."}, "v0.", untyped(1, impl.CkSort)}}, {0, typingFigure{[]string{"@sz.v0."}, "v0.", untyped(1, impl.CkSort)}}, {0, typingFigure{[]string{"@lsz.v0.v3."}, "v0.", untyped(2, impl.CkSort)}}, {0, typingFigure{[]string{"lsz.sz."}, "v0.", untyped(1, impl.CkSort)}}, {0, typingFigure{[]string{"psz.sz."}, "v0.", untyped(1, impl.CkSort)}}, {0, typingFigure{[]string{"cnobody;."}, "v0.", untyped(1, impl.CkSort)}},
		// The reduction of the type exceeds a limit.
		{0, typingFigure{[]string{"@lsz.lsz.v1.v998."}, "v0.", untyped(2, impl.CkSize)}}, {0, typingFigure{nil, "s" + strings.Repeat("+", 59) + "z.", untyped(1, impl.CkSize)}},
	}
	for _, f := range figures {
		checkTyping(t, typeCall{function: "SortOf", env: typedEnv(), context: f.context, text: f.text, params: f.params}, f.want)
	}
}

// TestHasTypeFigures has types that are the same, equal only after reductions, or others.
func TestHasTypeFigures(t *testing.T) {
	figures := []struct {
		text, ty string
		used     int
		code     int
		seen     []string
	}{
		{"cone;.", "cnat;.", 2, 0, nil}, {"lcnat;.v0.", "pcnat;.cnat;.", 4, 0, nil}, {"sz.", "s+z.", 2, 0, nil},
		{"cone;.", "cn;.", 3, 0, []string{"n"}}, {"cx;.", "cnat;.", 3, 0, []string{"n"}}, {"cx;.", "cn;.", 2, 0, nil}, {"sz.", "sm+zz.", 2, 0, nil}, {"sz.", "cup;z,.", 3, 0, []string{"up"}}, {"cnat;.", "cup;mzz,.", 3, 0, []string{"up"}}, {"cdouble;.", "pcnat;.cnat;.", 3, 0, []string{"arrow"}}, {"cnat.succ;.", "carrow;.", 3, 0, []string{"arrow"}}, {"cdouble;.", "pcn;.cnat;.", 6, 0, []string{"arrow", "n"}}, {"crefl;+z,.", "pcup;z,.pv0.@@@ceq;+z,.v1.v0.v0.", 5, 0, []string{"up"}}, {"psz.v0.", "sz.", 4, 0, nil}, {"pcnat;.cnat;.", "s+z.", 4, 0, nil}, {"pcnat;.cfalse;.", "sz.", 4, 0, nil},
		// Equal to a term that itself has no type.
		{"cone;.", "@lsz.cnat;.v99.", 3, 0, nil}, {"cone;.", "@lcnobody;.cnat;.cnobody;.", 3, 0, nil}, {"cone;.", "tsz.v7.cnat;.", 3, 0, nil}, {"sz.", "@lsz.v0.s+z.", 3, 0, nil},
		// Other types, and terms that are no types or have none.
		{"cone;.", "sz.", 2, impl.CkArg, nil}, {"cone;.", "ca;.", 2, impl.CkArg, nil}, {"cone;.", "cone;.", 3, impl.CkArg, []string{"one"}}, {"cone;.", "v0.", 2, impl.CkArg, nil}, {"cone;.", "su2.", 2, impl.CkArg, nil}, {"cone;.", "cnobody;.", 2, impl.CkArg, nil}, {"cone;.", "cnat;z,.", 2, impl.CkArg, nil}, {"cx;.", "sz.", 3, impl.CkArg, []string{"n"}}, {"sz.", "sz.", 2, impl.CkArg, nil}, {"sz.", "s++z.", 2, impl.CkArg, nil}, {"lcnat;.v0.", "pcnat;.sz.", 6, impl.CkArg, nil}, {"cnat.succ;.", "pcfalse;.cnat;.", 3, impl.CkArg, nil}, {"psz.v0.", "s+z.", 4, impl.CkArg, nil},
		// The comparison exceeds a limit.
		{"cone;.", "@lsz.lsz.v1.v999.", 3, impl.CkSize, nil}, {"cone;.", greatTerm, 3, impl.CkSize, nil},
		// The codes of TypeOf, even where ty is what the type would be.
		{"v0.", "sz.", 1, impl.CkVar, nil}, {"cnobody;.", "cnat;.", 1, impl.CkName, nil}, {"su0.", "s+u0.", 1, impl.CkLevel, nil}, {"@cone;.cone;.", "cnat;.", 2, impl.CkFunc, nil}, {"@cx;.cone;.", "cnat;.", 3, impl.CkFunc, []string{"n"}}, {"@cnat.succ;.sz.", "cnat;.", 4, impl.CkArg, nil}, {"@cfrom;.sz.", "cnat;.", 5, impl.CkArg, []string{"n"}}, {"lcone;.v0.", "pcone;.cone;.", 2, impl.CkSort, nil}, {"cbad.rec;z,.", "cnat;.", 1, impl.CkSize, nil}, {"v0.", greatTerm, 1, impl.CkVar, nil}, {"v0.", "cloop;.", 1, impl.CkVar, nil},
	}
	for _, f := range figures {
		want := reduction{f.used, f.code, f.ty, f.seen}
		if f.code != 0 {
			want.term = ""
		}
		checkTyping(t, typeCall{function: "HasType", env: typedEnv(), text: f.text, ty: f.ty}, want)
	}
	for params := range 4 {
		want := untyped(1, impl.CkLevel)
		if params >= 2 {
			want = typed(2, "s+u1.")
		}
		checkTyping(t, typeCall{function: "HasType", text: "su1.", ty: "s+u1.", params: params}, want)
	}
}

// TestTypesByRecursion has types that a recursor computes, so that its name is in Seen, also together with a code.
func TestTypesByRecursion(t *testing.T) {
	vector := func(number string) string {
		return "@@@@cnat.rec;++z,.lcnat;.s+z.cnat;.lcnat;.ls+z.pcnat;.v1." + number
	}
	env := append(typedEnv(), entriesOf(axiomOf("vector", 0, vector("cone;.")), axiomOf("none", 0, vector("cnat.zero;.")), axiomOf("stuck", 0, "pcnat;."+vector("v0.")))...)
	names := []string{"nat.rec", "one"}
	checkTypingFigures(t, env, 0, []typingFigure{
		{nil, "cvector;.", typed(1, vector("cone;."))}, {nil, "@cvector;.ctwo;.", typed(8, vector("cnat.zero;."), names...)}, {nil, "@@cvector;.ctwo;.cone;.", untyped(10, impl.CkFunc, names...)}, {nil, "@cvector;.sz.", untyped(8, impl.CkArg, names...)}, {nil, "@cvector;.v0.", untyped(7, impl.CkVar, names...)}, {nil, "@cvector;.cnobody;.", untyped(7, impl.CkName, names...)}, {nil, "@cnone;.ctwo;.", untyped(3, impl.CkFunc, "nat.rec")}, {nil, "@cnat.succ;.cnone;.", typed(5, "cnat;.", "nat.rec")}, {nil, "@cstuck;.ctwo;.", typed(4, vector("ctwo;."))}, {nil, "@@cstuck;.cone;.ctwo;.", typed(11, vector("cnat.zero;."), names...)}, {nil, "@cnat.succ;.@cvector;.cone;.", typed(12, "cnat;.", names...)}, {nil, "lcvector;.v0.", untyped(6, impl.CkSort, names...)}, {nil, "tcnat;.@cvector;.cone;.@cnat.succ;.v0.", typed(24, "cnat;.", names...)},
	})
	checkTyping(t, typeCall{function: "HasType", env: env, text: "cvector;.", ty: "carrow;."}, typed(10, "carrow;.", "arrow", "nat.rec", "one"))
}

// checkHasType checks that s has a type, and that all functions find what the test itself finds.
func checkHasType(t *testing.T, env []impl.Entry, s string, ty string, params int) {
	t.Helper()
	c := typeCall{function: "HasType", env: env, text: s, ty: ty, params: params}
	if got := checkWantTypeCall(t, c, impl.MaxFuel); got.Code != 0 || got.Term != ty {
		t.Errorf("HasType(%.300q, %.300q) = %s", s, ty, gotText(got))
	}
}

// checkNumber checks that s has the type of numbers, and keeps it with each reduction, down to zero; it returns the number.
func checkNumber(t *testing.T, env []impl.Entry, s string) int {
	t.Helper()
	for n := 0; ; n++ {
		checkHasType(t, env, s, "cnat;.", 0)
		reduced := impl.Whnf(env, s, impl.MaxFuel)
		if reduced.Code != 0 {
			t.Fatalf("Whnf(%.300q) = %s", s, gotText(reduced))
		}
		checkHasType(t, env, reduced.Term, "cnat;.", 0)
		head, args := impl.HeadOf(reduced.Term), impl.ArgsOf(reduced.Term)
		if head == "cnat.zero;." && len(args) == 0 {
			return n
		}
		if head != "cnat.succ;." || len(args) != 1 {
			t.Fatalf("%.300q is reduced to %.300q", s, reduced.Term)
		}
		s = args[0]
	}
}

// numberTerm returns a term of the type of numbers under this many binders for numbers, over the names of typedEnv.
func numberTerm(source *rand.Rand, depth int, binders int) string {
	some := func() string { return numberTerm(source, depth-1, binders) }
	under := func(more int) string { return numberTerm(source, depth-1, binders+more) }
	if depth == 0 {
		leaves := []string{"cnat.zero;.", "cone;.", "ctwo;.", "cthree.nat;.", "cfour;."}
		for number := range binders {
			leaves = append(leaves, variableTree(number).text)
		}
		return leaves[source.Intn(len(leaves))]
	}
	switch source.Intn(10) {
	case 0:
		return "@cnat.succ;." + some()
	case 1:
		return "@@cadd;." + some() + some()
	case 2:
		return "@lcnat;." + under(1) + some()
	case 3:
		return "tcnat;." + some() + under(1)
	case 4:
		return "@@@@cnat.rec;+z,.lcnat;.cnat;." + some() + "lcnat;.lcnat;." + under(2) + some()
	case 5:
		return "@@cid;+z,.cnat;." + some()
	case 6:
		return "@cdouble;." + some()
	case 7:
		return "@@@@cconst;+z,+z,.cn;.carrow;." + some() + "lcnat;." + under(1)
	case 8:
		return "tcn;." + some() + "@cfrom;." + under(1)
	}
	return "@cflat;.@cord.lim;.lcnat;.@@@@cnat.rec;+z,.lcnat;.cord;.cord.zero;.lcnat;.lcord;.@cord.succ;.v0.v0."
}

// TestNumbersHaveTheirTypeAndKeepIt checks promise 15 for numbers, and for terms that are reduced to numbers.
func TestNumbersHaveTheirTypeAndKeepIt(t *testing.T) {
	env := typedEnv()
	for n := range 30 {
		s := numberText(n)
		checkTyping(t, typeCall{function: "TypeOf", env: env, text: s}, typed(3*n+1, "cnat;."))
		checkTyping(t, typeCall{function: "HasType", env: env, text: s, ty: "cnat;."}, typed(3*n+2, "cnat;."))
		checkTyping(t, typeCall{function: "HasType", env: env, text: s, ty: "cord;."}, untyped(3*n+2, impl.CkArg))
		if got := checkNumber(t, env, s); got != n {
			t.Errorf("%d is reduced to %d", n, got)
		}
	}
	for text, want := range map[string]int{"cone;.": 1, "ctwo;.": 2, "cthree.nat;.": 3, "cfour;.": 4, "@cdouble;.cfour;.": 8, "@@cadd;.cthree.nat;.cfour;.": 7, "@@cid;+z,.cnat;.ctwo;.": 2, "@cflat;.@cord.succ;.@cord.succ;.cord.zero;.": 2, "@cfrom;.ctwo;.": 3, "tcnat;.ctwo;.@@cadd;.v0.v0.": 4} {
		if got := checkNumber(t, env, text); got != want {
			t.Errorf("%q is reduced to %d, not %d", text, got, want)
		}
	}
	source := rand.New(rand.NewSource(15))
	found := map[int]int{}
	for range 150 {
		s := numberTerm(source, 1+source.Intn(3), 0)
		if len(s) < 400 {
			found[min(checkNumber(t, env, s), 5)]++
		}
	}
	for n := range 6 {
		if found[n] < 4 {
			t.Errorf("the test finds the numbers %v", found)
		}
	}
}

// TestValuesOfDefinitionsHaveTheirTypes checks promise 15 for a library, whose values do not have the types of others.
func TestValuesOfDefinitionsHaveTheirTypes(t *testing.T) {
	env := typedEnv()
	values, others := 0, 0
	for _, entry := range env {
		d := entry.Decl
		checkSortOf(t, env, d.Type, d.Params)
		for _, c := range d.Ctors {
			checkSortOf(t, env, c.Type, d.Params)
		}
		if rec, ok := impl.RecType(d); ok {
			checkSortOf(t, env, rec, impl.RecLevels(d))
		}
		if d.Value == "" {
			continue
		}
		values++
		checkHasType(t, env, d.Value, d.Type, d.Params)
		checkUnfolded(t, env, d)
		for _, other := range env {
			c := typeCall{function: "HasType", env: env, text: d.Value, ty: other.Decl.Type, params: 3}
			got := checkWantTypeCall(t, c, 500)
			if same := impl.Same(env, d.Type, other.Decl.Type); got.Code != 0 && got.Code != impl.CkArg || same != (got.Code == 0) {
				t.Errorf("the value of %q has the type %q: %s", d.Name, other.Decl.Type, gotText(got))
			}
			if got.Code != 0 {
				others++
			}
		}
		if d.Params > 0 {
			c := typeCall{function: "HasType", env: env, text: d.Value, ty: d.Type, params: d.Params - 1}
			if got := checkWantTypeCall(t, c, 500); got.Code != impl.CkLevel {
				t.Errorf("with a parameter less, the value of %q is checked with the result %s", d.Name, gotText(got))
			}
		}
	}
	if values < 18 || others < 300 {
		t.Errorf("there are %d values, and %d pairs with other types", values, others)
	}
}

func checkSortOf(t *testing.T, env []impl.Entry, s string, params int) {
	t.Helper()
	if got := checkWantTypeCall(t, typeCall{function: "SortOf", env: env, text: s, params: params}, impl.MaxFuel); got.Code != 0 || !isLevel(got.Term) {
		t.Errorf("SortOf(%.300q) = %s", s, gotText(got))
	}
}

// checkUnfolded checks that the constant of a definition and its value have the same type, with other levels too.
func checkUnfolded(t *testing.T, env []impl.Entry, d impl.Decl) {
	t.Helper()
	if d.Kind != impl.DkDef {
		return
	}
	for _, levels := range [][]string{selfParams, {"z", "z", "z"}, {"+z", "+u1", "z"}, {"mu1u0", "u2", "z"}} {
		levels = levels[:d.Params]
		ty, _ := impl.TypeFor(env, d.Name, levels)
		value, _ := impl.ValueFor(env, d.Name, levels)
		checkHasType(t, env, impl.ConstText(d.Name, levels), ty, 3)
		checkHasType(t, env, value, ty, 3)
	}
}

// smallTerms returns all terms with up to this many leaves, which are the given ones.
func smallTerms(leaves []string, most int) []string {
	bySize := map[int][]string{1: leaves}
	for size := 2; size <= most; size++ {
		for first := 1; first < size; first++ {
			for _, a := range bySize[first] {
				for _, b := range bySize[size-first] {
					bySize[size] = append(bySize[size], "@"+a+b, "l"+a+b, "p"+a+b)
				}
			}
		}
		if size == 3 {
			for _, a := range leaves {
				for _, b := range leaves {
					for _, c := range leaves {
						bySize[size] = append(bySize[size], "t"+a+b+c)
					}
				}
			}
		}
	}
	all := []string{}
	for size := range most {
		all = append(all, bySize[size+1]...)
	}
	return all
}

// TestSmallTypings has all small terms over some leaves, in several contexts.
func TestSmallTypings(t *testing.T) {
	env := entriesOf(natData(), valueOf("n", 0, "s+z.", "cnat;."), axiomOf("x", 0, "cn;."))
	codes := map[int]int{}
	for _, context := range [][]string{nil, {"cnat;.", "sz."}, {"pcnat;.cn;.", "pcnat;.sz."}, {"v0.", "sz."}, {"p@v0.cx;.v2.", "pcnat;.sz."}} {
		for _, s := range smallTerms([]string{"v0.", "v1.", "sz.", "cnat;.", "cx;.", "cnat.succ;."}, 3) {
			c := typeCall{function: "TypeOf", env: env, context: context, text: s}
			codes[checkWantTypeCall(t, c, 12).Code]++
			c.function = "SortOf"
			checkWantTypeCall(t, c, 4)
		}
	}
	for _, code := range []int{0, impl.CkVar, impl.CkFunc, impl.CkArg, impl.CkSort} {
		if codes[code] < 100 {
			t.Errorf("the test finds the codes %v", codes)
		}
	}
}

// withOtherLeaf returns s with one of its leaves changed.
func withOtherLeaf(source *rand.Rand, s string) string {
	leaves, at := []int{}, 0
	for _, place := range spotsOf(s) {
		if place.leaf.size > 0 {
			leaves = append(leaves, at)
		}
		at += len(place.leaf.text)
	}
	at = leaves[source.Intn(len(leaves))]
	other := []string{"cnobody;.", "cid;.", "su2.", "v1.", "cx;.", "cbad.rec;z,.", "sz.", "cn;."}[source.Intn(8)]
	return s[:at] + other + s[at+len(firstTerm(s[at:])):]
}

// randomTyping returns a call for a term that often has a type, or would have one without a change or two.
func randomTyping(source *rand.Rand, env []impl.Entry) typeCall {
	texts := []string{}
	for _, entry := range env {
		texts = append(texts, entry.Decl.Type, entry.Decl.Type)
		if entry.Decl.Value != "" {
			texts = append(texts, entry.Decl.Value, entry.Decl.Value, entry.Decl.Value)
		}
	}
	c := typeCall{env: env, text: texts[source.Intn(len(texts))], params: 2 + source.Intn(2)}
	if source.Intn(2) == 0 {
		c.text = numberTerm(source, 1+source.Intn(3), source.Intn(3))
	}
	for range source.Intn(4) {
		c.context = append(c.context, []string{"cnat;.", "cn;.", "cnat;.", "sz.", "v0.", "pcnat;.cnat;.", "carrow;.", "cloop;.", "@lcnat;.cnat;.cloop;.", "ca;.", "su0."}[source.Intn(11)])
	}
	switch source.Intn(5) {
	case 0, 1:
		c.text = kinTerm(source, c.text)
	case 2:
		c.text = withOtherLeaf(source, c.text)
	}
	if c.ty = texts[source.Intn(len(texts))]; source.Intn(2) == 0 {
		c.ty = "cnat;."
	}
	c.function = []string{"TypeOf", "TypeOf", "SortOf", "HasType"}[source.Intn(4)]
	if c.function == "HasType" {
		c.context = nil
	}
	return c
}

// TestRandomTypings has terms of numbers, values and types, often with a change, and checks that more fuel gives the same result.
func TestRandomTypings(t *testing.T) {
	source := rand.New(rand.NewSource(150))
	env := typedEnv()
	codes, several := map[int]int{}, 0
	for range 1500 {
		c := randomTyping(source, env)
		if withinLimits(c.text) == "" || len(c.text) > 300 {
			continue
		}
		all := checkWantTypeCall(t, c, 300)
		codes[all.Code]++
		if len(all.Seen) >= 2 {
			several++
		}
		checkWantTypeCall(t, c, source.Intn(30))
		if all.Code == impl.CkFuel {
			continue
		}
		used := 300 - all.Fuel
		for _, fuel := range []int{used, used + source.Intn(100), 5000} {
			want := all
			want.Fuel = fuel - used
			checkTypeCall(t, c, fuel, want)
		}
		if got := checkWantTypeCall(t, c, used-1); got.Code != impl.CkFuel || got.Fuel != 0 || got.Term != "" {
			t.Errorf("%s(%.300q, %.300q) with a unit of fuel too few is %s", c.function, c.context, c.text, gotText(got))
		}
		c.params = source.Intn(3)
		checkWantTypeCall(t, c, 300)
	}
	for code, least := range map[int]int{0: 350, impl.CkFuel: 5, impl.CkSize: 5, impl.CkVar: 100, impl.CkName: 10, impl.CkLevel: 20, impl.CkFunc: 100, impl.CkArg: 200, impl.CkSort: 50} {
		if codes[code] < least {
			t.Errorf("the test finds the codes %v", codes)
		}
	}
	if several < 50 {
		t.Errorf("only %d results have several names", several)
	}
}

// TestTypingsOfAnyTerms has terms and contexts of any form, and entries that often have the same names.
func TestTypingsOfAnyTerms(t *testing.T) {
	source := rand.New(rand.NewSource(151))
	codes := map[int]int{}
	for range 500 {
		env := randomEnv(source)
		names := possibleNames(env)
		context := []string{}
		for range source.Intn(4) {
			context = append(context, treeOfSize(source, 3+source.Intn(20)).text)
		}
		for range 5 {
			levels := []string{}
			name := names[source.Intn(len(names))]
			for range max(0, impl.LevelsFor(env, name)+source.Intn(2)*source.Intn(2)) {
				levels = append(levels, randomLevel(source, 1+source.Intn(4)))
			}
			text := impl.ConstText(name, levels)
			if form := source.Intn(5); form > 0 && text != "" {
				text = []string{"", "@", "l", "p", "tsz."}[form] + text + treeOfSize(source, 3+source.Intn(20)).text
			}
			for _, function := range []string{"TypeOf", "SortOf", "HasType"} {
				c := typeCall{function: function, env: env, text: text, params: 1 + source.Intn(3)}
				if c.context, c.ty = context, "sz."; function == "HasType" {
					c.context = nil
				}
				codes[checkWantTypeCall(t, c, source.Intn(20)).Code]++
			}
		}
	}
	for code := range 9 {
		if codes[code] < 20 {
			t.Errorf("the test finds the codes %v", codes)
		}
	}
}

func TestInferNameThatTwoEntriesHave(t *testing.T) {
	first, second, invalid := axiomOf("b", 0, "sz."), valueOf("b", 1, "s++u0.", "s+u0."), axiomOf("b", 0, "v0.")
	noLevel, noName := untyped(1, impl.CkLevel), untyped(1, impl.CkName)
	figures := []struct {
		env         []impl.Entry
		plain, with reduction
	}{
		{entriesOf(first, second), typed(1, "sz."), noLevel}, {entriesOf(second, first), noLevel, typed(1, "s++z.")}, {entriesOf(invalid, first, second), typed(1, "sz."), noLevel}, {entriesOf(invalid, second), noLevel, typed(1, "s++z.")}, {entriesOf(invalid), noName, noName}, {nil, noName, noName},
	}
	for _, f := range figures {
		checkTypingFigures(t, f.env, 0, []typingFigure{{nil, "cb;.", f.plain}, {nil, "cb;z,.", f.with}})
	}
}

func TestInferLeavesSpareCapacity(t *testing.T) {
	backing := append(typedEnv(), impl.Entry{Decl: axiomOf("spare", 0, "sz."), Labels: []impl.Label{{Kind: 1, Name: "spare"}}})
	context := []string{"cnat;.", "v0.", "sz.", "spare", "spare"}
	kept, keptContext := copyOf(backing), slices.Clone(context)
	for size := range 4 {
		for count := range len(backing) {
			for _, s := range []string{"v0.", "v2.", "lcnat;.v1.", "pv1.v3.", "lsz.lv0.lcnat;.lcnat;.v4.", "tcn;.v0.@cnat.succ;.v0.", "cspare;.", "lv2.@cdouble;.v1."} {
				for _, function := range []string{"TypeOf", "SortOf"} {
					checkWantTypeCall(t, typeCall{function: function, env: backing[:count], context: context[:size], text: s}, 20)
				}
			}
		}
	}
	if !reflect.DeepEqual(backing, kept) || !slices.Equal(context, keptContext) {
		t.Errorf("the memory of the arguments was changed: %q, %q", stringsIn(backing), context)
	}
}

// TestInferResultsAreNewMemory changes results and arguments; the memory of the strings is compared by the checks above.
func TestInferResultsAreNewMemory(t *testing.T) {
	env, context := typedEnv(), []string{"cnat;.", "sz."}
	calls := []typeCall{{function: "TypeOf", env: env, context: context, text: "@cdouble;.@cfrom;.v0."}, {function: "SortOf", env: env, context: context, text: "@lcnat;.ca;.@cdouble;.@cfrom;.v0."}, {function: "HasType", env: env, text: "@cdouble;.cx;.", ty: "cn;."}}
	for _, c := range calls {
		first, second := c.got(50), c.got(50)
		kept := slices.Clone(second.Seen)
		if len(first.Seen) < 2 {
			t.Fatalf("%s returns %s", c.function, gotText(first))
		}
		for at := range first.Seen {
			first.Seen[at] = "changed"
		}
		if third := c.got(50); !sameGot(second, third) || !slices.Equal(second.Seen, kept) {
			t.Errorf("a changed result changed others to %v and %v", second, third)
		}
	}
	// Nothing is kept from the calls before: a changed context and changed entries have their own results.
	context[0] = "sz."
	checkWantTypeCall(t, calls[0], 50)
	checkTyping(t, typeCall{function: "TypeOf", env: env, context: context, text: "v0."}, typed(1, "sz."))
	for at := range env {
		env[at].Decl = axiomOf("double", 0, "pcnobody;.sz.")
	}
	checkTyping(t, typeCall{function: "TypeOf", env: env, context: []string{"cnobody;."}, text: "@cdouble;.v0."}, typed(4, "sz."))
}
