package tests

import (
	"math"
	"math/rand"
	"reflect"
	"slices"
	"strconv"
	"strings"
	"testing"

	"loop.example/g00963/impl"
)

// paramsOfClosed holds, for the texts seen so far, the number of their parameters, or -1 for what is no closed term.
var paramsOfClosed = map[string]int{}

// isClosedTerm is an independent description of closed terms of a declaration with this number of parameters.
func isClosedTerm(s string, params int) bool {
	needed, known := paramsOfClosed[s]
	if !known {
		needed = -1
		if whole, ok := treeOf(s); ok && whole.open() == 0 {
			needed = wantParams(s)
		}
		paramsOfClosed[s] = needed
	}
	return needed >= 0 && needed <= params
}

// wantDeclOk is an independent description of valid declarations.
func wantDeclOk(d impl.Decl) bool {
	if !isName(d.Name) || d.Params < 0 || d.Params > 3 || !isClosedTerm(d.Type, d.Params) {
		return false
	}
	switch d.Kind {
	case 1:
		return d.Flags == 0 && d.Value == "" && len(d.Ctors) == 0
	case 2, 3:
		return (d.Flags == 0 || d.Flags == 1) && isClosedTerm(d.Value, d.Params) && len(d.Ctors) == 0
	case 4:
		flagsOk := slices.Contains([]int{0, 2, 4, 6}, d.Flags)
		return flagsOk && d.Value == "" && d.Params < 3 && d.Type[0] == 's' && isName(d.Name+".rec") && wantCtorsOk(d)
	}
	return false
}

func wantCtorsOk(d impl.Decl) bool {
	names := map[string]bool{}
	for _, c := range d.Ctors {
		above, part := "", c.Name
		if dot := strings.LastIndex(c.Name, "."); dot >= 0 {
			above, part = c.Name[:dot], c.Name[dot+1:]
		}
		if above != d.Name || part == "rec" || !isName(c.Name) || !isClosedTerm(c.Type, d.Params) {
			return false
		}
		names[c.Name] = true
	}
	return len(d.Ctors) <= 6 && len(names) == len(d.Ctors)
}

// wantDeclUses is an independent description of UsesOf for a valid declaration.
func wantDeclUses(d impl.Decl) []string {
	texts := []string{d.Type}
	if d.Value != "" {
		texts = append(texts, d.Value)
	}
	for _, c := range d.Ctors {
		texts = append(texts, c.Type)
	}
	found := map[string]bool{}
	for _, text := range texts {
		for _, name := range wantUses(text) {
			found[name] = true
		}
	}
	if d.Kind == 4 {
		delete(found, d.Name)
	}
	names := []string{}
	for name := range found {
		names = append(names, name)
	}
	slices.Sort(names)
	return names
}

// stringsOf returns all strings of a declaration.
func stringsOf(d impl.Decl) []string {
	list := []string{d.Name, d.Type, d.Value}
	for _, c := range d.Ctors {
		list = append(list, c.Name, c.Type)
	}
	return list
}

// declWants holds what the functions return for a declaration; all of it is empty for one that is not valid.
type declWants struct {
	ok    bool
	rec   string
	names []string
	uses  []string
	self  string
}

// wantsOf is an independent description of all functions.
func wantsOf(d impl.Decl) declWants {
	if !wantDeclOk(d) {
		return declWants{}
	}
	want := declWants{ok: true, names: []string{d.Name}, uses: wantDeclUses(d)}
	for _, c := range d.Ctors {
		want.names = append(want.names, c.Name)
	}
	if d.Kind == 4 {
		want.rec = d.Name + ".rec"
		want.names = append(want.names, want.rec)
	}
	want.self = "c" + d.Name + ";" + []string{"", "u0,", "u0,u1,", "u0,u1,u2,"}[d.Params] + "."
	return want
}

// checkDeclWants checks all functions, and that they neither change the declaration nor return its memory.
func checkDeclWants(t *testing.T, d impl.Decl, want declWants) {
	t.Helper()
	kept := d
	kept.Ctors = slices.Clone(d.Ctors)
	ok, rec, names, uses, self := impl.DeclOk(d), impl.RecName(d), impl.NamesOf(d), impl.UsesOf(d), impl.SelfConst(d)
	if ok != want.ok {
		t.Errorf("DeclOk(%.300q) = %v", stringsOf(d), ok)
		t.Logf("kind %d, params %d, flags %d, %d constructors", d.Kind, d.Params, d.Flags, len(d.Ctors))
	}
	if rec != want.rec || self != want.self {
		t.Errorf("RecName and SelfConst of %.300q = %q, %q, want %q, %q", stringsOf(d), rec, self, want.rec, want.self)
	}
	if !slices.Equal(names, want.names) {
		t.Errorf("NamesOf(%.300q) = %q, want %q", stringsOf(d), names, want.names)
	}
	if !slices.Equal(uses, want.uses) {
		t.Errorf("UsesOf(%.300q) = %.300q, want %.300q", stringsOf(d), uses, want.uses)
	}
	if !reflect.DeepEqual(d, kept) {
		t.Errorf("the declaration %.300q was changed to %.300q", stringsOf(kept), stringsOf(d))
	}
	for _, result := range slices.Concat(names, uses, []string{rec, self}) {
		for _, argument := range stringsOf(d) {
			checkNewString(t, result, argument)
		}
	}
}

// checkDecl checks a declaration of which the test itself finds out the results.
func checkDecl(t *testing.T, d impl.Decl, ok bool) {
	t.Helper()
	want := wantsOf(d)
	if want.ok != ok {
		t.Errorf("the test takes %.300q for %v", stringsOf(d), want.ok)
	}
	checkDeclWants(t, d, want)
}

func emAxiom() impl.Decl {
	return impl.Decl{Kind: impl.DkAxiom, Name: "em", Params: 1, Type: "psu0.cor;."}
}

func idDef() impl.Decl {
	return impl.Decl{Kind: impl.DkDef, Name: "id", Params: 1, Type: "psu0.pv0.v1.", Value: "lsu0.lv0.v0."}
}

func oneTheorem() impl.Decl {
	return impl.Decl{Kind: impl.DkTheorem, Name: "one.eq", Type: "@@ceq;.cone;.cone;.", Value: "@crefl;.cone;."}
}

func natData() impl.Decl {
	return impl.Decl{Kind: impl.DkData, Name: "nat", Type: "s+z.", Ctors: []impl.Ctor{{Name: "nat.zero", Type: "cnat;."}, {Name: "nat.succ", Type: "pcnat;.cnat;."}}}
}

// boxData has a parameter, which makes it possible to go beyond it.
func boxData() impl.Decl {
	return impl.Decl{Kind: impl.DkData, Name: "a.box", Params: 1, Type: "s+u0.", Ctors: []impl.Ctor{{Name: "a.box.put", Type: "psu0.ca.box;u0,."}}}
}

// someDecls has a valid declaration of each kind, which does not depend on any of the parts that the tests replace.
func someDecls() []impl.Decl {
	return []impl.Decl{emAxiom(), idDef(), oneTheorem(), natData(), boxData()}
}

// ctorsFor returns constructors with these names, which have a type that is a closed term in every declaration.
func ctorsFor(names ...string) []impl.Ctor {
	ctors := []impl.Ctor{}
	for _, name := range names {
		ctors = append(ctors, impl.Ctor{Name: name, Type: "sz."})
	}
	return ctors
}

func TestDeclConstants(t *testing.T) {
	kinds := []int{impl.DkAxiom, impl.DkDef, impl.DkTheorem, impl.DkData}
	flags := []int{impl.FlUnsafe, impl.FlNoUniv, impl.FlNoPos}
	if !slices.Equal(kinds, []int{1, 2, 3, 4}) || !slices.Equal(flags, []int{1, 2, 4}) || impl.MaxCtors != 6 {
		t.Errorf("kinds %v, flags %v, at most %d constructors", kinds, flags, impl.MaxCtors)
	}
}

// TestDeclFigures gives the results of some declarations in full.
func TestDeclFigures(t *testing.T) {
	figures := []struct {
		d    impl.Decl
		want declWants
	}{
		{emAxiom(), declWants{true, "", []string{"em"}, []string{"or"}, "cem;u0,."}},
		{idDef(), declWants{true, "", []string{"id"}, nil, "cid;u0,."}},
		{oneTheorem(), declWants{true, "", []string{"one.eq"}, []string{"eq", "one", "refl"}, "cone.eq;."}},
		{natData(), declWants{true, "nat.rec", []string{"nat", "nat.zero", "nat.succ", "nat.rec"}, nil, "cnat;."}},
		{boxData(), declWants{true, "a.box.rec", []string{"a.box", "a.box.put", "a.box.rec"}, nil, "ca.box;u0,."}},
		{impl.Decl{Kind: impl.DkAxiom, Name: "a", Params: 2, Type: "su1."}, declWants{true, "", []string{"a"}, nil, "ca;u0,u1,."}},
		{impl.Decl{Kind: impl.DkDef, Name: "one", Type: "cnat;.", Value: "@cnat.succ;.cnat.zero;."}, declWants{true, "", []string{"one"}, []string{"nat", "nat.succ", "nat.zero"}, "cone;."}},
		{impl.Decl{Kind: impl.DkData, Name: "false", Type: "sz."}, declWants{true, "false.rec", []string{"false", "false.rec"}, nil, "cfalse;."}},
		{impl.Decl{}, declWants{}},
		{impl.Decl{Kind: impl.DkAxiom, Name: "a", Type: "v0."}, declWants{}},
	}
	for _, f := range figures {
		checkDeclWants(t, f.d, f.want)
		checkDecl(t, f.d, f.want.ok)
	}
}

func TestDeclKinds(t *testing.T) {
	for _, kind := range []int{math.MinInt, -1 << 32, -4, -3, -2, -1, 0, 5, 6, 7, 8, 9, 10, 100, 256 + 1, 1<<32 + 1, 1<<32 + 4, math.MaxInt} {
		for _, d := range someDecls() {
			d.Kind = kind
			checkDecl(t, d, false)
		}
	}
	// Each declaration with each other kind: definitions and theorems have the same form.
	for _, kind := range []int{impl.DkAxiom, impl.DkDef, impl.DkTheorem, impl.DkData} {
		for _, d := range someDecls() {
			same := d.Kind == kind || d.Value != "" && (kind == impl.DkDef || kind == impl.DkTheorem)
			d.Kind = kind
			checkDecl(t, d, same)
		}
	}
	for kind := -2; kind < 8; kind++ {
		checkDecl(t, impl.Decl{Kind: kind, Name: "a", Type: "sz."}, kind == impl.DkAxiom || kind == impl.DkData)
		checkDecl(t, impl.Decl{Kind: kind, Name: "a", Type: "cb;."}, kind == impl.DkAxiom)
		checkDecl(t, impl.Decl{Kind: kind, Name: "a", Type: "sz.", Value: "sz."}, kind == impl.DkDef || kind == impl.DkTheorem)
		checkDecl(t, impl.Decl{Kind: kind, Name: "a", Type: "sz.", Ctors: ctorsFor("a.b")}, kind == impl.DkData)
		checkDecl(t, impl.Decl{Kind: kind, Name: "a", Type: "sz.", Value: "sz.", Ctors: ctorsFor("a.b")}, false)
	}
}

func TestDeclNames(t *testing.T) {
	for _, d := range someDecls() {
		d.Ctors = nil
		for _, name := range validNames() {
			d.Name = name
			checkDecl(t, d, d.Kind != impl.DkData || isName(name+".rec"))
		}
		for _, name := range invalidNames() {
			d.Name = name
			checkDecl(t, d, false)
		}
	}
	// A name that is no name does not become one with the part of a constructor.
	for _, name := range []string{"", "a.", ".a", "a..b", "A", "a;b", "1"} {
		checkDecl(t, impl.Decl{Kind: impl.DkData, Name: name, Type: "sz.", Ctors: ctorsFor(name + ".b")}, false)
		checkDecl(t, impl.Decl{Kind: impl.DkData, Name: name, Type: "sz.", Ctors: ctorsFor(name + "b")}, false)
	}
}

// TestDataNameLimits checks names with which rec still makes a name, and the next ones, which remain names for the other kinds.
func TestDataNameLimits(t *testing.T) {
	longest := strings.Repeat("a", 36)
	names := []struct {
		name string
		ok   bool
	}{
		{longest[1:], true}, {longest, true}, {longest + "a", false}, {longest + "aa", false}, {longest + "aaaa", false},
		{"a.b.c", true}, {"a.b.c.d", true}, {"a.b.c.d.e", false}, {"rec", true}, {"rec.rec", true}, {"rec.rec.rec.rec", true}, {"rec.rec.rec.rec.rec", false},
		{"abcdefgh.abcdefgh.abcdefgh.abcdefgh8", true}, {"abcdefgh.abcdefgh.abcdefgh.abcdefgh89", false}, {"a.b.c." + longest[6:], true}, {"a.b.c." + longest[5:], false}, {"a.b.c.d." + longest[8:], false},
	}
	for _, f := range names {
		d := impl.Decl{Kind: impl.DkData, Name: f.name, Type: "sz."}
		checkDecl(t, d, f.ok)
		d.Ctors = ctorsFor(f.name + ".b")
		checkDecl(t, d, f.ok)
		checkDecl(t, impl.Decl{Kind: impl.DkAxiom, Name: f.name, Type: "sz."}, true)
		checkDecl(t, impl.Decl{Kind: impl.DkDef, Name: f.name, Type: "sz.", Value: "sz."}, true)
	}
	// The names of constructors have the limits of names.
	checkDecl(t, impl.Decl{Kind: impl.DkData, Name: longest, Type: "sz.", Ctors: ctorsFor(longest+".b", longest+".bcd", longest+".rc", longest+".cer")}, true)
	checkDecl(t, impl.Decl{Kind: impl.DkData, Name: longest, Type: "sz.", Ctors: ctorsFor(longest + ".bcde")}, false)
	checkDecl(t, impl.Decl{Kind: impl.DkData, Name: "a", Type: "sz.", Ctors: ctorsFor("a." + strings.Repeat("b", 38))}, true)
	checkDecl(t, impl.Decl{Kind: impl.DkData, Name: "a", Type: "sz.", Ctors: ctorsFor("a." + strings.Repeat("b", 39))}, false)
	checkDecl(t, impl.Decl{Kind: impl.DkData, Name: "a", Type: "sz.", Ctors: ctorsFor("a." + strings.Repeat("b", 100000))}, false)
}

func TestDeclParams(t *testing.T) {
	for _, params := range []int{math.MinInt, -1 << 32, -3, -2, -1, 0, 1, 2, 3, 4, 5, 1 << 32, math.MaxInt} {
		inRange, less := params >= 0 && params <= impl.MaxParams, params >= 0 && params <= impl.MaxParams-1
		for _, s := range []string{"sz.", "s+z."} {
			checkDecl(t, impl.Decl{Kind: impl.DkAxiom, Name: "a", Params: params, Type: s}, inRange)
			checkDecl(t, impl.Decl{Kind: impl.DkDef, Name: "a.b", Params: params, Type: s, Value: s}, inRange)
			checkDecl(t, impl.Decl{Kind: impl.DkTheorem, Name: "a", Params: params, Type: s, Value: s}, inRange)
			checkDecl(t, impl.Decl{Kind: impl.DkData, Name: "a", Params: params, Type: s}, less)
			checkDecl(t, impl.Decl{Kind: impl.DkData, Name: "a", Params: params, Type: s, Ctors: ctorsFor("a.b")}, less)
		}
	}
}

func TestSelfConstOfEachNumberOfParams(t *testing.T) {
	want := []string{"ca.b;.", "ca.b;u0,.", "ca.b;u0,u1,.", "ca.b;u0,u1,u2,."}
	for params, self := range want {
		for kind := impl.DkAxiom; kind <= impl.DkData; kind++ {
			d := impl.Decl{Kind: kind, Name: "a.b", Params: params, Type: "sz."}
			if kind == impl.DkDef || kind == impl.DkTheorem {
				d.Value = "ca.b;z,."
			}
			if kind == impl.DkData && params == 3 {
				self = ""
			}
			if got := impl.SelfConst(d); got != self {
				t.Errorf("SelfConst of kind %d with %d parameters = %q, want %q", kind, params, got, self)
			}
			name, levels, ok := impl.ConstIn(self)
			if ok && (name != "a.b" || !slices.Equal(levels, selfParams[:params]) || impl.ParamsIn(self) != params) {
				t.Errorf("%q has the name %q and the levels %q", self, name, levels)
			}
		}
	}
	for _, d := range []impl.Decl{{}, {Kind: impl.DkAxiom, Name: "a", Params: 4, Type: "sz."}, {Kind: impl.DkAxiom, Name: "a", Params: -1, Type: "sz."}, {Kind: impl.DkDef, Name: "a", Type: "sz."}} {
		if got := impl.SelfConst(d); got != "" {
			t.Errorf("SelfConst of a declaration that is not valid = %q", got)
		}
	}
}

func TestDeclFlags(t *testing.T) {
	flags := []int{math.MinInt, math.MinInt + 1, math.MinInt + 2, -1 << 32, 1<<32 + 1, 1<<32 + 2, 1 << 62, math.MaxInt, math.MaxInt - 1}
	for n := -17; n <= 33; n++ {
		flags = append(flags, n)
	}
	for _, n := range flags {
		for _, d := range someDecls() {
			d.Flags = n
			switch d.Kind {
			case impl.DkAxiom:
				checkDecl(t, d, n == 0)
			case impl.DkDef, impl.DkTheorem:
				checkDecl(t, d, n == 0 || n == impl.FlUnsafe)
			case impl.DkData:
				checkDecl(t, d, n == 0 || n == impl.FlNoUniv || n == impl.FlNoPos || n == impl.FlNoUniv+impl.FlNoPos)
			}
		}
	}
}

// closedTexts are closed terms without parameters and not sorts.
func closedTexts() []string {
	return []string{
		"ca;.", "cnat.rec;z,.", "ca;z,+z,mzz,.", "@sz.sz.", "@ca;.cb;.", "lsz.v0.", "lsz.lv0.@v0.v1.", "psz.v0.", "psz.pv0.v1.", "tsz.sz.v0.", "tsz.sz.lsz.@v0.v1.",
		"lsz.psz.tsz.v0.@v2.v1.", "ca.b.c.d.e;.", "@lsz.v0.sz.", "l@sz.sz.v0.",
	}
}

// openTexts are terms with an open variable.
func openTexts() []string {
	texts := []string{"v0.", "v1.", "v999.", "lv0.v0.", "pv0.v0.", "tv0.sz.v0.", "tsz.v0.v0.", "lsz.v1.", "psz.v1.", "tsz.sz.v1.", "lsz.lsz.v2.", "@v0.sz.", "@sz.v0.", "@lsz.v0.v0.", "lsz.psz.tsz.sz.v3."}
	everyPlace(2, func(before string, after string, binders int) {
		texts = append(texts, before+"v"+strconv.Itoa(binders)+"."+after)
	})
	return texts
}

// placesOf puts s, which is closed, into each part of terms of each form.
func placesOf(s string) []string {
	texts := []string{}
	everyPlace(2, func(before string, after string, _ int) {
		texts = append(texts, before+s+after)
	})
	return texts
}

// parameterTexts are closed terms with the parameter with this number, and with no greater one.
func parameterTexts(param int) []string {
	u := "u" + strconv.Itoa(param)
	texts := slices.Concat(placesOf("s"+u+"."), placesOf("ca;"+u+",."))
	for _, level := range []string{"+" + u, "mz" + u, "m" + u + "z", "iz" + u, "i" + u + "z", "mu0" + u, "i" + u + "u0", strings.Repeat("+", 58) + u} {
		texts = append(texts, "s"+level+".", "ca;z,z,"+level+",.", "ca;"+level+",z,z,.")
	}
	return texts
}

// checkClosed checks declarations of each kind with s as each of their terms; isSort tells whether s is a sort.
func checkClosed(t *testing.T, s string, params int, ok bool, isSort bool) {
	t.Helper()
	checkDecl(t, impl.Decl{Kind: impl.DkAxiom, Name: "a", Params: params, Type: s}, ok)
	for _, kind := range []int{impl.DkDef, impl.DkTheorem} {
		checkDecl(t, impl.Decl{Kind: kind, Name: "a", Params: params, Type: s, Value: s}, ok)
		checkDecl(t, impl.Decl{Kind: kind, Name: "a", Params: params, Type: s, Value: "sz."}, ok)
		checkDecl(t, impl.Decl{Kind: kind, Name: "a", Params: params, Type: "sz.", Value: s}, ok)
	}
	if params == impl.MaxParams {
		return
	}
	checkDecl(t, impl.Decl{Kind: impl.DkData, Name: "a", Params: params, Type: s}, ok && isSort)
	for at := range impl.MaxCtors {
		ctors := ctorsFor("a.a", "a.b", "a.c", "a.d", "a.e", "a.f")
		ctors[at].Type = s
		checkDecl(t, impl.Decl{Kind: impl.DkData, Name: "a", Params: params, Type: "sz.", Ctors: ctors}, ok)
		checkDecl(t, impl.Decl{Kind: impl.DkData, Name: "a", Params: params, Type: "sz.", Ctors: ctors[:at+1]}, ok)
	}
}

func TestDeclClosedTerms(t *testing.T) {
	for _, params := range []int{0, 1, 2, 3} {
		for _, s := range closedTexts() {
			checkClosed(t, s, params, true, false)
		}
		for _, s := range []string{"sz.", "s+z.", "s++z.", "smz+z.", "sizz."} {
			checkClosed(t, s, params, true, true)
		}
		for _, s := range openTexts() {
			checkClosed(t, s, params, false, false)
		}
		for _, s := range someNoTerms() {
			// For definitions, the empty text is no value and therefore not valid; the others do not need one.
			checkClosed(t, s, params, false, false)
		}
	}
}

func TestDeclParameters(t *testing.T) {
	for param := range impl.MaxParams {
		for _, s := range parameterTexts(param) {
			for params := range impl.MaxParams + 1 {
				checkClosed(t, s, params, param < params, s[0] == 's')
			}
		}
	}
	for _, s := range []string{"su3.", "ca;u3,.", "su9.", "@sz.su3."} {
		for params := range impl.MaxParams + 1 {
			checkClosed(t, s, params, false, true)
		}
	}
}

// TestDeclTermLimits checks terms of each form with exactly the greatest number of bytes, and with one more.
func TestDeclTermLimits(t *testing.T) {
	for _, form := range []string{"lsz.v0.", "@lsz.v0.ca;.", "tsz.sz.v0.", "psu0.v0.", "ca;u0,."} {
		for _, size := range []int{1998, 1999, 2000, 2001, 2002} {
			checkClosed(t, filledUp(form, size), 1, size <= 2000, false)
		}
	}
	for _, size := range []int{59, 60, 61, 62} {
		checkClosed(t, "s"+strings.Repeat("+", size-1)+"z.", 1, size <= 60, true)
		checkClosed(t, "s"+strings.Repeat("+", size-2)+"u0.", 1, size <= 60, true)
	}
	// Variables under many binders are closed, unless they are beyond all of them.
	for _, binders := range []int{1, 2, 10, 300} {
		checkClosed(t, strings.Repeat("lsz.", binders)+"v"+strconv.Itoa(binders-1)+".", 0, true, false)
		checkClosed(t, strings.Repeat("lsz.", binders)+"v"+strconv.Itoa(binders)+".", 0, false, false)
		checkClosed(t, strings.Repeat("p", binders)+strings.Repeat("sz.", binders)+"v0.", 0, true, false)
		checkClosed(t, strings.Repeat("p", binders)+strings.Repeat("sz.", binders)+"v1.", 0, false, false)
	}
}

func TestDeclValues(t *testing.T) {
	for _, d := range someDecls() {
		hasValue := d.Kind == impl.DkDef || d.Kind == impl.DkTheorem
		for _, value := range closedTexts() {
			d.Value = value
			checkDecl(t, d, hasValue)
		}
		for _, value := range append(openTexts(), " ", "\x00", "a", "sz", "sz.sz.") {
			d.Value = value
			checkDecl(t, d, false)
		}
		d.Value = ""
		checkDecl(t, d, !hasValue)
		d.Value = "su0."
		checkDecl(t, d, hasValue && d.Params > 0)
	}
}

// TestOnlyDataHasConstructors adds constructors that a data type with this name might have, and others.
func TestOnlyDataHasConstructors(t *testing.T) {
	for _, d := range []impl.Decl{emAxiom(), idDef(), oneTheorem()} {
		for _, ctors := range [][]impl.Ctor{{{}}, ctorsFor(""), ctorsFor(d.Name + ".a"), ctorsFor(d.Name+".a", d.Name+".b"), ctorsFor("a"), ctorsFor(d.Name), ctorsFor(d.Name + ".rec")} {
			d.Ctors = ctors
			checkDecl(t, d, false)
		}
		for _, none := range [][]impl.Ctor{nil, {}, make([]impl.Ctor, 0, 6)} {
			d.Ctors = none
			checkDecl(t, d, true)
		}
	}
}

func TestDataTypeIsASort(t *testing.T) {
	for _, d := range []impl.Decl{natData(), boxData()} {
		for _, s := range closedTexts() {
			d.Type = s
			checkDecl(t, d, false)
		}
		for _, s := range []string{"", "s", "sz", "z", "z.", "szz.", "s.", "sz.sz.", "psz.sz.", "@sz.sz.", "lsz.sz.", "tsz.sz.sz.", "cs;.", "cs.z;.", "csz;."} {
			d.Type = s
			checkDecl(t, d, false)
		}
		for _, level := range levelsUpTo(4) {
			d.Type = "s" + level + "."
			checkDecl(t, d, wantParams(d.Type) <= d.Params)
		}
	}
}

func TestNumberOfConstructors(t *testing.T) {
	names := []string{"a.z", "a.b", "a.y", "a.c", "a.x", "a.d", "a.w", "a.e", "a.v"}
	for count := range len(names) + 1 {
		d := impl.Decl{Kind: impl.DkData, Name: "a", Type: "sz.", Ctors: ctorsFor(names[:count]...)}
		checkDecl(t, d, count <= 6)
		if count <= 6 {
			// In the order of the constructors, which is not ascending.
			checkDeclWants(t, d, declWants{true, "a.rec", append(append([]string{"a"}, names[:count]...), "a.rec"), nil, "ca;."})
		}
	}
	for _, count := range []int{6, 7, 100, 1000000} {
		if impl.DeclOk(impl.Decl{Kind: impl.DkData, Name: "a", Type: "sz.", Ctors: make([]impl.Ctor, count)}) {
			t.Errorf("a declaration with %d constructors without names is valid", count)
		}
		checkDecl(t, impl.Decl{Kind: impl.DkData, Name: "a", Type: "sz.", Ctors: slices.Repeat(ctorsFor("a.b"), min(count, 100))}, false)
	}
}

func TestConstructorNames(t *testing.T) {
	figures := []struct {
		data  string
		names []string
		ok    bool
	}{
		{"nat", []string{"nat.zero"}, true}, {"nat", []string{"nat.zero", "nat.succ"}, true}, {"nat", []string{"nat.succ", "nat.zero"}, true}, {"nat", []string{"nat.nat"}, true}, {"nat", []string{"nat.a1", "nat.a2"}, true}, {"a.b", []string{"a.b.c"}, true}, {"a.b.c.d", []string{"a.b.c.d.e"}, true}, {"a", []string{"a.a"}, true}, {"a.a", []string{"a.a.a"}, true},
		// A constructor named rec, alone and among others, and names that contain rec.
		{"nat", []string{"nat.rec"}, false}, {"nat", []string{"nat.rec", "nat.zero"}, false}, {"nat", []string{"nat.zero", "nat.rec"}, false}, {"nat", []string{"nat.a", "nat.b", "nat.c", "nat.d", "nat.e", "nat.rec"}, false}, {"a.b", []string{"a.b.rec"}, false}, {"rec", []string{"rec.rec"}, false}, {"rec.rec", []string{"rec.rec.rec"}, false}, {"a.rec", []string{"a.rec.rec"}, false},
		{"nat", []string{"nat.rec0"}, true}, {"nat", []string{"nat.re"}, true}, {"nat", []string{"nat.arec"}, true}, {"nat", []string{"nat.recs", "nat.r", "nat.ec"}, true}, {"rec", []string{"rec.a"}, true}, {"a.rec", []string{"a.rec.b", "a.rec.c"}, true}, {"nat", []string{"rec"}, false}, {"rec", []string{"rec"}, false}, {"nat", []string{"rec.nat"}, false}, {"nat", []string{"nat.rec.a"}, false}, {"nat", []string{"nat.a.rec"}, false},
		// Two constructors with one name.
		{"nat", []string{"nat.zero", "nat.zero"}, false}, {"nat", []string{"nat.a", "nat.b", "nat.a"}, false}, {"nat", []string{"nat.b", "nat.a", "nat.a"}, false}, {"nat", []string{"nat.a", "nat.b", "nat.c", "nat.d", "nat.e", "nat.a"}, false}, {"nat", []string{"nat.a", "nat.b", "nat.c", "nat.d", "nat.e", "nat.e"}, false}, {"nat", []string{"nat.a", "nat.aa", "nat.aaa"}, true},
		// A name under another name.
		{"nat", []string{"int.zero"}, false}, {"nat", []string{"nats.zero"}, false}, {"nat", []string{"na.zero"}, false}, {"nat", []string{"nat0.zero"}, false}, {"nat", []string{"a.nat.zero"}, false}, {"nat", []string{"zero"}, false}, {"nat", []string{"zero.nat"}, false}, {"nat", []string{"n.at"}, false}, {"nat", []string{"natzero"}, false}, {"nat", []string{"nat0"}, false}, {"a.b", []string{"a.c"}, false}, {"a.b", []string{"b.c"}, false}, {"a.b", []string{"a.c.b"}, false}, {"a.b", []string{"a.bc.d"}, false}, {"a.b", []string{"ab.c"}, false}, {"a.b", []string{"a.b.c", "a.d.c"}, false}, {"a.b", []string{"a0b.c"}, false},
		// The name itself, shorter ones, and names with more parts.
		{"nat", []string{"nat"}, false}, {"nat", []string{"nat.zero", "nat"}, false}, {"a.b", []string{"a.b"}, false}, {"a.b", []string{"a"}, false}, {"nat", []string{"nat.a.b"}, false}, {"nat", []string{"nat.zero", "nat.a.b"}, false}, {"nat", []string{"nat.a.b.c"}, false}, {"a.b", []string{"a.b.c.d"}, false}, {"a.b", []string{"a.b.a.b"}, false}, {"a.b.c.d", []string{"a.b.c.d.e.f"}, false}, {"a", []string{"a.a.a"}, false},
		// No names.
		{"nat", []string{""}, false}, {"nat", []string{"."}, false}, {"nat", []string{"nat."}, false}, {"nat", []string{"nat.."}, false}, {"nat", []string{"nat..a"}, false}, {"nat", []string{"nat.a."}, false}, {"nat", []string{"nat.1"}, false}, {"nat", []string{"nat.A"}, false}, {"nat", []string{"Nat.a"}, false}, {"nat", []string{"nat a"}, false}, {"nat", []string{"nat.a b"}, false}, {"nat", []string{" nat.a"}, false}, {"nat", []string{"nat.a "}, false}, {"nat", []string{"nat.\xff"}, false}, {"nat", []string{".nat.a"}, false}, {"nat", []string{"nat.a", ""}, false}, {"nat", []string{"nat;a"}, false}, {"nat", []string{"nat.a\x00"}, false},
	}
	for _, f := range figures {
		checkDecl(t, impl.Decl{Kind: impl.DkData, Name: f.data, Type: "sz.", Ctors: ctorsFor(f.names...)}, f.ok)
	}
	for _, part := range append(validNames(), invalidNames()...) {
		ok := isName("nat."+part) && !strings.Contains(part, ".")
		checkDecl(t, impl.Decl{Kind: impl.DkData, Name: "nat", Type: "sz.", Ctors: ctorsFor("nat." + part)}, ok)
		checkDecl(t, impl.Decl{Kind: impl.DkData, Name: "nat", Type: "sz.", Ctors: ctorsFor(part)}, part == "nat.zero")
	}
}

func TestConstructorNamesEveryShortText(t *testing.T) {
	everyText("ab.c0", 6, func(s string) {
		d := impl.Decl{Kind: impl.DkData, Name: "a", Type: "sz.", Ctors: ctorsFor(s)}
		deep := impl.Decl{Kind: impl.DkData, Name: "a.b", Type: "sz.", Ctors: ctorsFor(s)}
		if got, want := impl.DeclOk(d), wantDeclOk(d); got != want {
			t.Errorf("DeclOk with the name a and the constructor %q = %v", s, got)
		}
		if got, want := impl.DeclOk(deep), wantDeclOk(deep); got != want {
			t.Errorf("DeclOk with the name a.b and the constructor %q = %v", s, got)
		}
	})
}

func TestUsesOfFigures(t *testing.T) {
	figures := []struct {
		d    impl.Decl
		uses []string
	}{
		// In the type, in the value and in both, each once and in ascending order.
		{impl.Decl{Kind: impl.DkAxiom, Name: "a", Type: "@cd;.@cc;.cb;."}, []string{"b", "c", "d"}},
		{impl.Decl{Kind: impl.DkAxiom, Name: "a", Type: "@cc;.@cb;z,.cc;.", Params: 3}, []string{"b", "c"}},
		{impl.Decl{Kind: impl.DkDef, Name: "a", Type: "cc;.", Value: "cb;."}, []string{"b", "c"}},
		{impl.Decl{Kind: impl.DkTheorem, Name: "a", Type: "cb;.", Value: "cc;."}, []string{"b", "c"}},
		{impl.Decl{Kind: impl.DkTheorem, Name: "a", Type: "@cb;.cd;.", Value: "@cc;.@cd;.ce;."}, []string{"b", "c", "d", "e"}},
		{impl.Decl{Kind: impl.DkDef, Name: "a", Type: "cb;.", Value: "cb;z,."}, []string{"b"}},
		{impl.Decl{Kind: impl.DkDef, Name: "a", Type: "sz.", Value: "lsz.v0."}, nil},
		{impl.Decl{Kind: impl.DkDef, Name: "a", Type: "sz.", Value: "lcb.c;.v0."}, []string{"b.c"}},
		{impl.Decl{Kind: impl.DkDef, Name: "a", Type: "pcb;.cc;.", Value: "sz.", Flags: 1}, []string{"b", "c"}},
		// A definition, a theorem and an axiom with their own names.
		{impl.Decl{Kind: impl.DkDef, Name: "b", Type: "ca;.", Value: "@cb;.cc;."}, []string{"a", "b", "c"}},
		{impl.Decl{Kind: impl.DkDef, Name: "b", Type: "cb;.", Value: "cb;."}, []string{"b"}},
		{impl.Decl{Kind: impl.DkTheorem, Name: "b", Type: "ca;.", Value: "cb;."}, []string{"a", "b"}},
		{impl.Decl{Kind: impl.DkAxiom, Name: "b", Type: "cb;."}, []string{"b"}},
		// Data types, which do not use themselves, but all other names, also those that they declare.
		{impl.Decl{Kind: impl.DkData, Name: "b", Type: "sz.", Ctors: []impl.Ctor{{Name: "b.x", Type: "cb;."}}}, nil},
		{impl.Decl{Kind: impl.DkData, Name: "b", Type: "sz.", Ctors: []impl.Ctor{{Name: "b.x", Type: "pca;.pcc;.cb;."}}}, []string{"a", "c"}},
		{impl.Decl{Kind: impl.DkData, Name: "b", Type: "sz.", Ctors: []impl.Ctor{{Name: "b.y", Type: "pcd;.cb;."}, {Name: "b.x", Type: "pca;.pcd;.cb;."}, {Name: "b.z", Type: "pcc;.cb;."}}}, []string{"a", "c", "d"}},
		{impl.Decl{Kind: impl.DkData, Name: "b", Type: "sz.", Ctors: []impl.Ctor{{Name: "b.x", Type: "pcb.a;.pcb.b;.pcbb;.pca.b;.cb;."}}}, []string{"a.b", "b.a", "b.b", "bb"}},
		{impl.Decl{Kind: impl.DkData, Name: "b", Type: "sz.", Ctors: []impl.Ctor{{Name: "b.x", Type: "cb;."}, {Name: "b.y", Type: "@cb.rec;.@cb.x;.@cb.y;.cb;."}}}, []string{"b.rec", "b.x", "b.y"}},
		{impl.Decl{Kind: impl.DkData, Name: "b", Type: "sz.", Params: 2, Ctors: []impl.Ctor{{Name: "b.x", Type: "@cb;z,.@cb;u0,.@cb;u0,u1,.cb;."}}}, nil},
		{impl.Decl{Kind: impl.DkData, Name: "b.a", Type: "sz.", Ctors: []impl.Ctor{{Name: "b.a.x", Type: "pcb;.pca;.cb.a;."}}}, []string{"a", "b"}},
		{impl.Decl{Kind: impl.DkData, Name: "b", Type: "sz."}, nil},
		// Declarations that are not valid.
		{impl.Decl{Kind: 0, Name: "a", Type: "cb;."}, nil}, {impl.Decl{Kind: impl.DkAxiom, Name: "a", Type: "cb;.", Value: "cb;."}, nil}, {impl.Decl{Kind: impl.DkDef, Name: "a", Type: "cb;."}, nil}, {impl.Decl{Kind: impl.DkDef, Name: "a", Type: "cb;.", Value: "v0."}, nil}, {impl.Decl{Kind: impl.DkData, Name: "b", Type: "cc;."}, nil},
		{impl.Decl{Kind: impl.DkData, Name: "b", Type: "sz.", Ctors: []impl.Ctor{{Name: "b.x", Type: "ca;."}, {Name: "b.x", Type: "cc;."}}}, nil}, {impl.Decl{Kind: impl.DkData, Name: "b", Type: "sz.", Ctors: []impl.Ctor{{Name: "b.rec", Type: "ca;."}}}, nil},
	}
	for _, f := range figures {
		ok := wantDeclOk(f.d)
		checkDecl(t, f.d, ok)
		if got := impl.UsesOf(f.d); !slices.Equal(got, f.uses) || !ok && len(f.uses) > 0 {
			t.Errorf("UsesOf(%q) = %q, want %q", stringsOf(f.d), got, f.uses)
		}
	}
}

// TestUsesOfManyNames fills each type with names, some of which are in others too.
func TestUsesOfManyNames(t *testing.T) {
	d := impl.Decl{Kind: impl.DkData, Name: "a", Type: "sz.", Ctors: ctorsFor("a.f", "a.e", "a.d", "a.c", "a.b", "a.a")}
	for at := range d.Ctors {
		text := "ca;."
		for k := range 240 {
			// 70 and 499 have no common divisor: the names of one type are all different, and in no order.
			text = "@ca" + strconv.Itoa((k*70+at*35)%499+100) + ";." + text
		}
		d.Ctors[at].Type = text
	}
	checkDecl(t, d, true)
	if got := len(impl.UsesOf(d)); got < 400 || got > 499 {
		t.Errorf("%d names are used", got)
	}
}

// closedAt replaces what makes s, which is a term, no closed term of a declaration with this number of parameters.
func closedAt(s string, params int) string {
	return closedUnder(s, 0, params)
}

// closedUnder does the same for a term that is under this many binders, whose variables it may have.
func closedUnder(s string, outer int, params int) string {
	args := append(slices.Clone(selfParams[:params]), slices.Repeat([]string{"z"}, 3-params)...)
	s, _ = wantTermLevels(s, args)
	s, _ = changedTerm(s, func(leaf tree, binders int) (string, bool) {
		known := outer + binders
		if len(leaf.free) == 0 || leaf.free[0] < known {
			return leaf.text, true
		}
		if known == 0 {
			return "sz.", true
		}
		return variableTree(leaf.free[0] % known).text, true
	})
	return s
}

// randomDecl returns a valid declaration.
func randomDecl(source *rand.Rand) impl.Decl {
	d := impl.Decl{Kind: 1 + source.Intn(4), Name: []string{"a", "b.a", "vsz", "z.z.z.z"}[source.Intn(4)]}
	d.Params = source.Intn(4)
	if d.Kind == impl.DkData {
		d.Params = source.Intn(3)
	}
	closed := func() string {
		return closedAt(treeOfSize(source, 3+source.Intn(1+source.Intn(60))).text, d.Params)
	}
	d.Type = closed()
	switch d.Kind {
	case impl.DkDef, impl.DkTheorem:
		d.Flags = source.Intn(2)
		d.Value = closed()
	case impl.DkData:
		d.Flags = 2 * source.Intn(4)
		d.Type = closedAt("s"+randomLevel(source, 1+source.Intn(12))+".", d.Params)
		for _, at := range source.Perm(8)[:source.Intn(7)] {
			d.Ctors = append(d.Ctors, impl.Ctor{Name: d.Name + "." + string(rune('a'+at)), Type: "@c" + d.Name + ";." + closed()})
		}
	}
	return d
}

// damaged returns the declaration with one of its parts replaced, which mostly makes it not valid.
func damaged(source *rand.Rand, d impl.Decl) impl.Decl {
	d.Ctors = slices.Clone(d.Ctors)
	texts := []string{"", "v0.", "sz.", "su0.", "su2.", "lsz.v0.", "lsz.v1.", "ca;.", "sz", treeOfSize(source, 3+source.Intn(30)).text}
	names := []string{"", "a", "a.b", "a.rec", "b.a.a", "b.a.rec", "vsz.c", "z.z.z.z.a", "z.z.z.z.z", "A"}
	switch part := source.Intn(8); {
	case part == 0:
		d.Kind = source.Intn(7) - 1
	case part == 1:
		d.Name = names[source.Intn(len(names))]
	case part == 2:
		d.Params = source.Intn(7) - 2
	case part == 3:
		d.Flags = source.Intn(11) - 1
	case part == 4:
		d.Type = texts[source.Intn(len(texts))]
	case part == 5:
		d.Value = texts[source.Intn(len(texts))]
	case len(d.Ctors) == 0:
		d.Ctors = ctorsFor(names[source.Intn(len(names))])
	case part == 6:
		d.Ctors[source.Intn(len(d.Ctors))].Name = names[source.Intn(len(names))]
	default:
		d.Ctors[source.Intn(len(d.Ctors))].Type = texts[source.Intn(len(texts))]
	}
	return d
}

// TestValidDeclarationsHaveTheirNamesAndUses checks promise 9 with random declarations.
func TestValidDeclarationsHaveTheirNamesAndUses(t *testing.T) {
	source := rand.New(rand.NewSource(9))
	valid, invalid := 0, 0
	for range 4000 {
		d := randomDecl(source)
		checkDecl(t, d, true)
		names := impl.NamesOf(d)
		if len(names) == 0 || names[0] != d.Name || impl.RecName(d) != "" && names[len(names)-1] != impl.RecName(d) {
			t.Errorf("NamesOf(%q) = %q", stringsOf(d), names)
		}
		for _, name := range names {
			if !impl.NameOk(name) || !impl.Under(d.Name, name) {
				t.Errorf("NamesOf(%q) contains %q", stringsOf(d), name)
			}
		}
		if !impl.NamesOk(impl.UsesOf(d)) || !impl.HasName(impl.SelfConst(d), d.Name) || impl.ParamsIn(impl.SelfConst(d)) != d.Params {
			t.Errorf("%q uses %q and is %q", stringsOf(d), impl.UsesOf(d), impl.SelfConst(d))
		}
		for range 3 {
			changed := damaged(source, d)
			if ok := wantDeclOk(changed); ok {
				valid++
			} else {
				invalid++
			}
			checkDeclWants(t, changed, wantsOf(changed))
		}
	}
	if valid < 500 || invalid < 5000 {
		t.Errorf("%d valid and %d other declarations are too few", valid, invalid)
	}
}

// TestEveryPartOfADeclaration combines values for all parts of a declaration.
func TestEveryPartOfADeclaration(t *testing.T) {
	texts := []string{"", "sz.", "su0.", "su2.", "ca;u1,.", "v0.", "lsz.v0."}
	lists := [][]impl.Ctor{nil, ctorsFor("a.b"), ctorsFor("a.b", "a.c"), ctorsFor("a.b", "a.b"), ctorsFor("a.rec"), ctorsFor("a"), {{Name: "a.b", Type: "su1."}}}
	valid := 0
	for kind := range 6 {
		for params := -1; params < 5; params++ {
			for flags := -1; flags < 9; flags++ {
				for _, text := range texts {
					for _, value := range texts {
						for _, ctors := range lists {
							d := impl.Decl{Kind: kind, Name: "a", Params: params, Flags: flags, Type: text, Value: value, Ctors: ctors}
							// What is wrong in the first parts is quick to find; the description looks at the texts only then.
							ok := kind > 0 && kind < 5 && params >= 0 && params < 4 && flags >= 0 && flags < 8 && wantDeclOk(d)
							if impl.DeclOk(d) != ok {
								t.Errorf("DeclOk(%+v) = %v", d, !ok)
							}
							if ok {
								valid++
								checkDeclWants(t, d, wantsOf(d))
							}
						}
					}
				}
			}
		}
	}
	if valid < 200 {
		t.Errorf("%d valid declarations are too few", valid)
	}
}

func TestDeclsLeaveSpareCapacity(t *testing.T) {
	backing := append(ctorsFor("nat.a", "nat.b", "nat.c"), impl.Ctor{Name: "spare", Type: "spare"})
	kept := slices.Clone(backing)
	for size := range len(backing) + 1 {
		d := impl.Decl{Kind: impl.DkData, Name: "nat", Type: "sz.", Ctors: backing[:size]}
		checkDecl(t, d, size < len(backing))
	}
	if !slices.Equal(backing, kept) {
		t.Errorf("the memory of the constructors was changed: %q", backing)
	}
}

// TestDeclResultsAreNewMemory changes results and declarations; the memory of the strings is compared by the checks above.
func TestDeclResultsAreNewMemory(t *testing.T) {
	for _, call := range []func(impl.Decl) []string{impl.NamesOf, impl.UsesOf} {
		d := impl.Decl{Kind: impl.DkData, Name: "nat", Type: "sz.", Ctors: []impl.Ctor{{Name: "nat.a", Type: "@cb;.cnat;."}, {Name: "nat.b", Type: "@cz;.ca;."}}}
		first, second := call(d), call(d)
		kept := slices.Clone(second)
		for at := range first {
			first[at] = "changed"
		}
		if !slices.Equal(second, kept) || !slices.Equal(call(d), kept) {
			t.Errorf("a changed result changed another one to %q", second)
		}
		d.Ctors[0] = impl.Ctor{Name: "nat.changed", Type: "cchanged;."}
		if !slices.Equal(second, kept) {
			t.Errorf("a changed declaration changed a result to %q", second)
		}
	}
}
