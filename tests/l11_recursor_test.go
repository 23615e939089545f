package tests

import (
	"math/rand"
	"reflect"
	"slices"
	"strconv"
	"strings"
	"testing"

	"loop.example/g00963/impl"
)

// scoped is a term as it is written under this many binders. Its variables are known by their binders, so that no number has to be shifted.
type scoped func(depth int) string

// boundIn returns what body makes of a new variable of this type, under a binder of kind l or p for it.
func boundIn(kind string, varType scoped, body func(scoped) scoped) scoped {
	return func(depth int) string {
		variable := func(deeper int) string { return variableTree(deeper - 1 - depth).text }
		return kind + varType(depth) + body(variable)(depth+1)
	}
}

func applying(head scoped, args ...scoped) scoped {
	return func(depth int) string {
		text := strings.Repeat("@", len(args)) + head(depth)
		for _, arg := range args {
			text += arg(depth)
		}
		return text
	}
}

// opened returns the term s with these terms for its first open variables; its other ones are those outside of all binders.
func opened(s string, inner []scoped) scoped {
	return func(depth int) string {
		text := ""
		for _, at := range spotsOf(s) {
			switch {
			case len(at.leaf.free) == 0 || at.leaf.free[0] < at.binders:
				text += at.leaf.text
			case at.leaf.free[0]-at.binders < len(inner):
				text += inner[at.leaf.free[0]-at.binders](depth + at.binders)
			default:
				text += variableTree(at.leaf.free[0] - len(inner) + depth).text
			}
		}
		return text
	}
}

// innermostFirst returns terms in the order of the numbers of variables.
func innermostFirst(terms []scoped) []scoped {
	terms = slices.Clone(terms)
	slices.Reverse(terms)
	return terms
}

// recursionOver puts binders for these domains in front of head, applied to argument, applied to the variables of the binders.
func recursionOver(kind string, domains []string, inner []scoped, head scoped, argument scoped) scoped {
	if len(domains) == 0 {
		return applying(head, argument)
	}
	return boundIn(kind, opened(domains[0], inner), func(variable scoped) scoped {
		return recursionOver(kind, domains[1:], append([]scoped{variable}, inner...), head, applying(argument, variable))
	})
}

// wantMinorOf describes MinorType, where args are variables for the first arguments of the constructor.
func wantMinorOf(domains []string, shapes []int, args []scoped, motive scoped, constant string) scoped {
	if at := len(args); at < len(domains) {
		return boundIn("p", opened(domains[at], innermostFirst(args)), func(variable scoped) scoped {
			return wantMinorOf(domains, shapes, append(slices.Clone(args), variable), motive, constant)
		})
	}
	minor := applying(motive, applying(opened(constant, nil), args...))
	for j, shape := range slices.Backward(shapes) {
		if shape == 1 {
			inside := minor
			inner, _ := wantDomainsAndTarget(domains[j])
			step := recursionOver("p", inner, innermostFirst(args[:j]), motive, args[j])
			minor = boundIn("p", step, func(scoped) scoped { return inside })
		}
	}
	return minor
}

// withinLimits returns the text if it is a term, and "" otherwise.
func withinLimits(text string) string {
	if len(text) > 2000 {
		return ""
	}
	if _, ok := treeOf(text); !ok {
		return ""
	}
	return text
}

// recursorWants holds what the functions return for a declaration; minors and whole are "" where there is no result.
type recursorWants struct {
	levels int
	sort   string
	minors []string
	whole  string
}

// wantRecLevels describes RecLevels for a valid data type.
func wantRecLevels(d impl.Decl) int {
	if wantAbove(d.Type[1 : len(d.Type)-1]) {
		return d.Params + 1
	}
	return d.Params
}

// wantsOfRecursor is an independent description of all functions but RecStep.
func wantsOfRecursor(d impl.Decl) recursorWants {
	if d.Kind != 4 || !wantDeclOk(d) {
		return recursorWants{}
	}
	shaped, self := wantsOfShapes(d), wantsOf(d).self
	want := recursorWants{levels: wantRecLevels(d), sort: "sz."}
	if want.levels > d.Params {
		want.sort = "s" + selfParams[d.Params] + "."
	}
	want.whole = "pp" + self + want.sort
	for k, c := range d.Ctors {
		minor := ""
		if shaped.results[k] && !slices.Contains(shaped.shapes[k], 2) {
			domains, _ := wantDomainsAndTarget(c.Type)
			motive := func(depth int) string { return variableTree(depth - 1).text }
			constant := constantTree(c.Name, selfParams[:d.Params]...).text
			minor = withinLimits(wantMinorOf(domains, shaped.shapes[k], nil, motive, constant)(k + 1))
		}
		want.minors = append(want.minors, minor)
		want.whole += "p" + minor
	}
	want.whole += "p" + self + "@" + variableTree(len(d.Ctors)+1).text + "v0."
	if want.whole = withinLimits(want.whole); slices.Contains(want.minors, "") {
		want.whole = ""
	}
	return want
}

// checkRecursorWants checks all functions but RecStep, also for indexes without a constructor, and that they leave the declaration as it is.
func checkRecursorWants(t *testing.T, d impl.Decl, want recursorWants) {
	t.Helper()
	kept := d
	kept.Ctors = slices.Clone(d.Ctors)
	if got := impl.RecLevels(d); got != want.levels {
		t.Errorf("RecLevels(%.500q) = %d, want %d", stringsOf(d), got, want.levels)
	}
	sort := impl.MotiveSort(d)
	checkResult(t, "MotiveSort", sort, sort != "", want.sort, stringsOf(d)...)
	for _, k := range indexesAround(len(d.Ctors)) {
		minor := ""
		if k >= 0 && k < len(want.minors) {
			minor = want.minors[k]
		}
		got, ok := impl.MinorType(d, k)
		checkResult(t, "MinorType with the index "+strconv.Itoa(k), got, ok, minor, stringsOf(d)...)
	}
	got, ok := impl.RecType(d)
	checkResult(t, "RecType", got, ok, want.whole, stringsOf(d)...)
	if !reflect.DeepEqual(d, kept) {
		t.Errorf("the declaration %.300q was changed to %.300q", stringsOf(kept), stringsOf(d))
	}
}

// checkRecursor checks a declaration of which the test itself finds out the results, and returns these.
func checkRecursor(t *testing.T, d impl.Decl) recursorWants {
	t.Helper()
	want := wantsOfRecursor(d)
	checkRecursorWants(t, d, want)
	return want
}

// stepCall holds the arguments of RecStep.
type stepCall struct {
	d      impl.Decl
	levels []string
	args   []string
	k      int
	given  []string
}

func (call stepCall) strings() []string {
	return slices.Concat(stringsOf(call.d), call.levels, call.args, call.given)
}

// valid is an independent description of the conditions of RecStep, apart from its limits.
func (call stepCall) valid() bool {
	shaped := wantsOfShapes(call.d)
	if !shaped.positive || call.k < 0 || call.k >= len(shaped.shapes) || len(call.given) != len(shaped.shapes[call.k]) || len(call.args) != len(shaped.shapes)+1 {
		return false
	}
	for _, text := range slices.Concat(call.args, call.given) {
		if _, ok := treeOf(text); !ok {
			return false
		}
	}
	noLevel := func(level string) bool { return !isLevel(level) }
	return len(call.levels) == wantRecLevels(call.d) && !slices.ContainsFunc(call.levels, noLevel)
}

// wantDomain puts the given terms into the domain of the argument j one by one, as the document says, because each of the terms in between has the limits of terms.
func (call stepCall) wantDomain(j int) (string, bool) {
	domains, _ := wantDomainsAndTarget(call.d.Ctors[call.k].Type)
	domain, ok := wantTermLevels(domains[j], call.levels[:call.d.Params])
	for i := j - 1; ok && i >= 0; i-- {
		lifted, liftedOk := wantLifted(call.given[i], i, 0)
		domain, ok = wantPutIn(domain, lifted)
		ok = ok && liftedOk
	}
	return domain, ok
}

// wantStep is an independent description of RecStep; it returns "" where there is no result.
func wantStep(call stepCall) string {
	if !call.valid() {
		return ""
	}
	recursor := opened(constantTree(call.d.Name+".rec", call.levels...).text, nil)
	for _, arg := range call.args {
		recursor = applying(recursor, opened(arg, nil))
	}
	given := []scoped{}
	for _, text := range call.given {
		given = append(given, opened(text, nil))
	}
	result := applying(opened(call.args[call.k+1], nil), given...)
	domains, _ := wantDomainsAndTarget(call.d.Ctors[call.k].Type)
	for j, shape := range wantsOfShapes(call.d).shapes[call.k] {
		if shape != 1 {
			continue
		}
		if _, ok := call.wantDomain(j); !ok {
			return ""
		}
		leveled, _ := wantTermLevels(domains[j], call.levels[:call.d.Params])
		inner, _ := wantDomainsAndTarget(leveled)
		result = applying(result, recursionOver("l", inner, innermostFirst(given[:j]), recursor, given[j]))
	}
	return withinLimits(result(0))
}

// checkStep checks RecStep, and that it leaves its arguments as they are.
func checkStep(t *testing.T, call stepCall, want string) {
	t.Helper()
	kept := stepCall{call.d, slices.Clone(call.levels), slices.Clone(call.args), call.k, slices.Clone(call.given)}
	kept.d.Ctors = slices.Clone(call.d.Ctors)
	got, ok := impl.RecStep(call.d, call.levels, call.args, call.k, call.given)
	checkResult(t, "RecStep with the index "+strconv.Itoa(call.k), got, ok, want, call.strings()...)
	if !slices.Equal(call.strings(), kept.strings()) {
		t.Errorf("RecStep changed its arguments %.300q to %.300q", kept.strings(), call.strings())
	}
}

// checkWantStep checks a call of which the test itself finds out the result, and returns it.
func checkWantStep(t *testing.T, call stepCall) string {
	t.Helper()
	want := wantStep(call)
	checkStep(t, call, want)
	return want
}

// wData has one constructor, whose types of arguments mention the arguments before them.
func wData() impl.Decl {
	return impl.Decl{Kind: impl.DkData, Name: "w", Type: "s+z.", Ctors: []impl.Ctor{{Name: "w.sup", Type: "psz.ppv0.cw;.cw;."}}}
}

func listData() impl.Decl {
	return impl.Decl{Kind: impl.DkData, Name: "list", Params: 1, Type: "s+u0.", Ctors: []impl.Ctor{{Name: "list.nil", Type: "clist;u0,."}, {Name: "list.cons", Type: "psu0.pclist;u0,.clist;u0,."}}}
}

func ordData() impl.Decl {
	return impl.Decl{Kind: impl.DkData, Name: "ord", Type: "s+z.", Ctors: []impl.Ctor{{Name: "ord.zero", Type: "cord;."}, {Name: "ord.succ", Type: "pcord;.cord;."}, {Name: "ord.lim", Type: "ppcnat;.cord;.cord;."}}}
}

// oneCtor returns the data type n with one constructor of this type.
func oneCtor(text string) impl.Decl {
	return impl.Decl{Kind: impl.DkData, Name: "n", Type: "s+z.", Ctors: []impl.Ctor{{Name: "n.a", Type: text}}}
}

func TestRecLevelsAndMotiveSortFigures(t *testing.T) {
	figures := []struct {
		params int
		level  string
		levels int
		sort   string
	}{
		// Always above the lowest sort.
		{0, "+z", 1, "su0."}, {0, "++z", 1, "su0."}, {0, "i+z+z", 1, "su0."}, {1, "+u0", 2, "su1."}, {1, "+z", 2, "su1."}, {1, "mu0+z", 2, "su1."}, {1, "iu0+z", 2, "su1."}, {2, "+mu0u1", 3, "su2."}, {2, "+z", 3, "su2."}, {2, "mu1+u0", 3, "su2."}, {2, "+u1", 3, "su2."},
		// The lowest sort, or possibly that.
		{0, "z", 0, "sz."}, {0, "i+zz", 0, "sz."}, {0, "mzz", 0, "sz."}, {1, "z", 1, "sz."}, {1, "u0", 1, "sz."}, {1, "i+zu0", 1, "sz."}, {1, "mzu0", 1, "sz."}, {2, "z", 2, "sz."}, {2, "mu0u1", 2, "sz."}, {2, "iu0u1", 2, "sz."}, {2, "i+u0u1", 2, "sz."},
		// Not valid: more parameters than a data type may have, or than it has.
		{3, "+z", 0, ""}, {3, "z", 0, ""}, {-1, "+z", 0, ""}, {-1, "z", 0, ""}, {4, "z", 0, ""}, {0, "+u0", 0, ""}, {0, "u0", 0, ""}, {1, "+u1", 0, ""}, {2, "+u2", 0, ""}, {0, "", 0, ""}, {0, "x", 0, ""},
	}
	for _, f := range figures {
		// Neither the constructors nor the flags matter.
		for _, ctors := range [][]impl.Ctor{nil, ctorsFor("nat.a"), {{Name: "nat.bad", Type: "ppcnat;.sz.sz."}}} {
			for _, flags := range []int{0, impl.FlNoUniv, impl.FlNoPos, impl.FlNoUniv + impl.FlNoPos} {
				d := impl.Decl{Kind: impl.DkData, Name: "nat", Params: f.params, Flags: flags, Type: "s" + f.level + ".", Ctors: ctors}
				if levels, sort := impl.RecLevels(d), impl.MotiveSort(d); levels != f.levels || sort != f.sort {
					t.Errorf("RecLevels, MotiveSort with %d parameters and the level %q = %d, %q, want %d, %q", f.params, f.level, levels, sort, f.levels, f.sort)
				}
				checkRecursor(t, d)
			}
		}
	}
}

// TestRecursorFigures gives the results for some data types in full.
func TestRecursorFigures(t *testing.T) {
	natSucc := "pcnat;.p@v2.v0.@v3.@cnat.succ;.v1."
	cons := "psu0.pclist;u0,.p@v3.v0.@v4.@@clist.cons;u0,.v2.v1."
	ordSucc := "pcord;.p@v2.v0.@v3.@cord.succ;.v1."
	lim := "ppcnat;.cord;.ppcnat;.@v4.@v1.v0.@v4.@cord.lim;.v1."
	sup := "psz.ppv0.cw;.ppv1.@v3.@v1.v0.@v3.@@cw.sup;.v2.v1."
	put := "psu0.@v1.@ca.box.put;u0,.v0."
	figures := []struct {
		d    impl.Decl
		want recursorWants
	}{
		{natData(), recursorWants{1, "su0.", []string{"@v0.cnat.zero;.", natSucc}, "ppcnat;.su0.p@v0.cnat.zero;.p" + natSucc + "pcnat;.@v3.v0."}},
		{boxData(), recursorWants{2, "su1.", []string{put}, "ppca.box;u0,.su1.p" + put + "pca.box;u0,.@v2.v0."}},
		{listData(), recursorWants{2, "su1.", []string{"@v0.clist.nil;u0,.", cons}, "ppclist;u0,.su1.p@v0.clist.nil;u0,.p" + cons + "pclist;u0,.@v3.v0."}},
		{ordData(), recursorWants{1, "su0.", []string{"@v0.cord.zero;.", ordSucc, lim}, "ppcord;.su0.p@v0.cord.zero;.p" + ordSucc + "p" + lim + "pcord;.@v4.v0."}},
		{wData(), recursorWants{1, "su0.", []string{sup}, "ppcw;.su0.p" + sup + "pcw;.@v2.v0."}},
		// No constructor.
		{impl.Decl{Kind: impl.DkData, Name: "false", Type: "sz."}, recursorWants{0, "sz.", nil, "ppcfalse;.sz.pcfalse;.@v1.v0."}},
		{impl.Decl{Kind: impl.DkData, Name: "empty", Params: 2, Type: "s+u1."}, recursorWants{3, "su2.", nil, "ppcempty;u0,u1,.su2.pcempty;u0,u1,.@v1.v0."}},
		// No data types.
		{emAxiom(), recursorWants{}}, {idDef(), recursorWants{}}, {oneTheorem(), recursorWants{}}, {impl.Decl{}, recursorWants{}},
	}
	for _, f := range figures {
		checkRecursorWants(t, f.d, f.want)
		checkRecursor(t, f.d)
	}
}

// TestMinorTypeFigures gives the type for the first of several constructors.
func TestMinorTypeFigures(t *testing.T) {
	figures := []struct{ ctor, minor string }{
		// Without arguments, and with ones that have nothing to do with the data type.
		{"cn;.", "@v0.cn.a;."}, {"psz.cn;.", "psz.@v1.@cn.a;.v0."}, {"psz.pv0.pv1.cn;.", "psz.pv0.pv1.@v3.@@@cn.a;.v2.v1.v0."}, {"ppsz.v0.cn;.", "ppsz.v0.@v1.@cn.a;.v0."}, {"pcnn;.pcn.a;.pcn.rec;z,.cn;.", "pcnn;.pcn.a;.pcn.rec;z,.@v3.@@@cn.a;.v2.v1.v0."},
		// One and several arguments in the data type.
		{"pcn;.cn;.", "pcn;.p@v1.v0.@v2.@cn.a;.v1."}, {"pcn;.pcn;.cn;.", "pcn;.pcn;.p@v2.v1.p@v3.v1.@v4.@@cn.a;.v3.v2."}, {"pcn;.pcn;.pcn;.cn;.", "pcn;.pcn;.pcn;.p@v3.v2.p@v4.v2.p@v5.v2.@v6.@@@cn.a;.v5.v4.v3."},
		// Functions of one and of several arguments into it.
		{"ppsz.cn;.cn;.", "ppsz.cn;.ppsz.@v2.@v1.v0.@v2.@cn.a;.v1."}, {"ppsz.pv0.cn;.cn;.", "ppsz.pv0.cn;.ppsz.pv0.@v3.@@v2.v1.v0.@v2.@cn.a;.v1."}, {"ppsz.psz.pv1.cn;.cn;.", "ppsz.psz.pv1.cn;.ppsz.psz.pv1.@v4.@@@v3.v2.v1.v0.@v2.@cn.a;.v1."},
		{"ppsz.cn;.ppca;.cn;.cn;.", "ppsz.cn;.ppca;.cn;.ppsz.@v3.@v2.v0.ppca;.@v4.@v2.v0.@v4.@@cn.a;.v3.v2."}, {"ppppsz.v0.sz.cn;.cn;.", "ppppsz.v0.sz.cn;.ppppsz.v0.sz.@v2.@v1.v0.@v2.@cn.a;.v1."},
		// Mixed with others: domains that mention earlier arguments.
		{"psz.ppv0.cn;.cn;.", "psz.ppv0.cn;.ppv1.@v3.@v1.v0.@v3.@@cn.a;.v2.v1."}, {"psz.pcn;.cn;.", "psz.pcn;.p@v2.v0.@v3.@@cn.a;.v2.v1."}, {"pcn;.psz.cn;.", "pcn;.psz.p@v2.v1.@v3.@@cn.a;.v2.v1."}, {"psz.pcn;.pv1.cn;.", "psz.pcn;.pv1.p@v3.v1.@v4.@@@cn.a;.v3.v2.v1."},
		{"psz.pcn;.ppv1.cn;.cn;.", "psz.pcn;.ppv1.cn;.p@v3.v1.ppv3.@v5.@v2.v0.@v5.@@@cn.a;.v4.v3.v2."}, {"psz.ppv0.cn;.pcn;.cn;.", "psz.ppv0.cn;.pcn;.ppv2.@v4.@v2.v0.p@v4.v1.@v5.@@@cn.a;.v4.v3.v2."}, {"psz.ppv0.pv1.cn;.pv1.cn;.", "psz.ppv0.pv1.cn;.pv1.ppv2.pv3.@v5.@@v3.v1.v0.@v4.@@@cn.a;.v3.v2.v1."},
		{"psz.psz.ppv1.pv1.cn;.cn;.", "psz.psz.ppv1.pv1.cn;.ppv2.pv2.@v5.@@v2.v1.v0.@v4.@@@cn.a;.v3.v2.v1."}, {"psz.pplv0.v0.cn;.cn;.", "psz.pplv0.v0.cn;.pplv1.v0.@v3.@v1.v0.@v3.@@cn.a;.v2.v1."}, {"psz.pplv0.v1.cn;.cn;.", "psz.pplv0.v1.cn;.pplv1.v2.@v3.@v1.v0.@v3.@@cn.a;.v2.v1."},
		// Targets that are not the data type, and arguments that are bad.
		{"sz.", ""}, {"psz.v0.", ""}, {"cn;z,.", ""}, {"psz.ca;.", ""}, {"cn.a;.", ""}, {"@cn;.sz.", ""}, {"pcn;.sz.", ""}, {"lsz.cn;.", ""}, {"tsz.sz.cn;.", ""},
		{"ppcn;.sz.cn;.", ""}, {"ppcn;.cn;.cn;.", ""}, {"p@cn;.sz.cn;.", ""}, {"pcn;z,.cn;.", ""}, {"pcn;.ppcn;.sz.cn;.", ""}, {"ppsz.@ca;.cn;.cn;.", ""}, {"plsz.cn;.cn;.", ""}, {"psz.pv0.ppcn;.cn;.pcn;.cn;.", ""}, {"ppcn;.sz.sz.", ""},
	}
	others := []string{"cn;.", "pcn;.cn;.", "psz.ppv0.cn;.cn;.", "psz.cn;.", "pcn;.pcn;.cn;."}
	for _, f := range figures {
		d := oneCtor(f.ctor)
		checkResultOfMinor(t, d, f.minor)
		// With up to five constructors behind it and before it.
		for at, other := range others {
			checkRecursor(t, d)
			d.Ctors = append(d.Ctors, impl.Ctor{Name: "n.x" + strconv.Itoa(at), Type: other})
		}
		for range d.Ctors {
			checkRecursor(t, d)
			d.Ctors = append(d.Ctors[1:len(d.Ctors):len(d.Ctors)], d.Ctors[0])
		}
	}
}

// TestMinorTypeEachOrderOfArguments puts up to five arguments of all kinds in each order.
func TestMinorTypeEachOrderOfArguments(t *testing.T) {
	domains := []string{"sz.", "cn;.", "psz.cn;.", "psz.pv0.cn;."}
	for count := range 6 {
		for order := range 1 << (2 * count) {
			text := ""
			for at := range count {
				// Each argument but the first is under an earlier one, which its domains mention.
				domain := domains[order>>(2*at)&3]
				if at > 0 {
					domain = strings.ReplaceAll(domain, "sz.", "v"+strconv.Itoa(order%at)+".")
				}
				text += "p" + domain
			}
			d := oneCtor(text + "cn;.")
			if want := checkRecursor(t, d); want.minors[0] == "" || want.whole == "" {
				t.Errorf("the test has no recursor for %q", text)
			}
			if count < 5 {
				args, given := []string{"v3.", "v4."}, []string{"v7.", "@v0.v8.", "lsz.v1.", "v9."}[:count]
				if checkWantStep(t, stepCall{d, []string{"z"}, args, 0, given}) == "" {
					t.Errorf("the test has no step for %q", text)
				}
			}
		}
	}
}

func TestMinorTypeWithParameters(t *testing.T) {
	for params, self := range []string{"cn;.", "cn;u0,.", "cn;u0,u1,."} {
		levels := strings.TrimSuffix(strings.TrimPrefix(self, "cn;"), ".")
		d := oneCtor("ps+z.p" + self + self)
		d.Params = params
		want := "ps+z.p" + self + "p@v2.v0.@v3.@@cn.a;" + levels + ".v2.v1."
		whole := "pp" + self + "s" + selfParams[params] + ".p" + want + "p" + self + "@v2.v0."
		checkRecursorWants(t, d, recursorWants{params + 1, "s" + selfParams[params] + ".", []string{want}, whole})
		// In the lowest sort, the results are in it too.
		d.Type = "sz."
		checkRecursorWants(t, d, recursorWants{params, "sz.", []string{want}, strings.Replace(whole, "s"+selfParams[params]+".", "sz.", 1)})
		// The levels of domains are kept as they are.
		if params > 0 {
			d.Ctors[0].Type = "pps+z.pca;z,u0,." + self + self
			want = d.Ctors[0].Type[:len(d.Ctors[0].Type)-len(self)] + "pps+z.pca;z,u0,.@v3.@@v2.v1.v0.@v2.@cn.a;" + levels + ".v1."
			checkResultOfMinor(t, d, want)
		}
	}
}

func checkResultOfMinor(t *testing.T, d impl.Decl, want string) {
	t.Helper()
	got, ok := impl.MinorType(d, 0)
	checkResult(t, "MinorType", got, ok, want, stringsOf(d)...)
	checkRecursor(t, d)
}

// sizesAround returns the sizes for which a length, which grows evenly with the size, is about the greatest one.
func sizesAround(length func(size int) int) []int {
	first := length(100)
	size := 100 + (2000-first)/(length(101)-first)
	return []int{size - 2, size - 1, size, size + 1, size + 2}
}

// TestMinorTypeTermLimits checks types with exactly the greatest number of bytes, and with one more.
func TestMinorTypeTermLimits(t *testing.T) {
	figures := []struct{ before, after, minorBefore, minorAfter string }{
		{"p", "cn;.", "p", "@v1.@cn.a;.v0."},
		{"p", "pcn;.cn;.", "p", "pcn;.p@v2.v0.@v3.@@cn.a;.v2.v1."},
		{"psz.pcn;.p", "cn;.", "psz.pcn;.p", "p@v3.v1.@v4.@@@cn.a;.v3.v2.v1."},
	}
	for _, f := range figures {
		for _, size := range []int{1990, 1998, 1999, 2000, 2001, 2002, 2010} {
			text := plainText(size - len(f.minorBefore) - len(f.minorAfter))
			want := f.minorBefore + text + f.minorAfter
			if len(want) != size {
				t.Fatalf("the test has a type with %d bytes instead of %d", len(want), size)
			}
			if size > 2000 {
				want = ""
			}
			d := oneCtor(f.before + text + f.after)
			checkResultOfMinor(t, d, want)
			if !wantDeclOk(d) {
				t.Errorf("the declaration is not valid")
			}
		}
	}
	// What occurs twice, and becomes longer where it is lifted.
	sizes := map[int]bool{}
	for _, f := range []struct{ before, after string }{{"pp", "cn;.cn;."}, {strings.Repeat("psz.", 9) + "pp@v8.", "cn;.cn;."}, {strings.Repeat("psz.", 9) + "pp@v0.@v8.", "cn;.pcn;.cn;."}} {
		data := func(size int) impl.Decl { return oneCtor(f.before + plainText(size) + f.after) }
		for _, size := range sizesAround(func(size int) int { return len(wantsOfRecursor(data(size)).minors[0]) }) {
			sizes[len(checkRecursor(t, data(size)).minors[0])] = true
		}
	}
	if !sizes[0] || !sizes[2000] || !sizes[1999] {
		t.Errorf("the test reaches only the sizes %v", sizes)
	}
}

// TestMinorTypeManyBinders has as many arguments as fit; numbers of variables stay far below MaxVar, because each binder needs four bytes.
func TestMinorTypeManyBinders(t *testing.T) {
	greatest, none := 0, 0
	for _, count := range []int{2, 3, 4, 5, 10, 60, 71, 80, 90, 91, 100, 101, 120, 128, 133, 136, 140, 150, 180, 186, 190, 195, 196, 197, 198, 199, 200, 250, 300, 390, 480, 490} {
		for _, text := range []string{strings.Repeat("psz.", count) + "cn;.", "p" + strings.Repeat("psz.", count) + "cn;.cn;.", strings.Repeat("pcn;.", count) + "cn;.", strings.Repeat("psz.", count) + "pcn;.cn;.", strings.Repeat("pcn;.", count/2) + "pp" + strings.Repeat("lsz.", count/2) + "v" + strconv.Itoa(count/2) + ".cn;.cn;."} {
			if len(text) > 2000 {
				continue
			}
			minor := checkRecursor(t, oneCtor(text)).minors[0]
			if minor == "" {
				none++
				continue
			}
			for _, at := range spotsOf(minor) {
				greatest = max(greatest, slices.Max(append(at.leaf.free, 0)))
			}
		}
	}
	if greatest < 190 || none < 20 {
		t.Errorf("the greatest variable is %d, and %d types are too long", greatest, none)
	}
}

func TestRecTypeTermLimits(t *testing.T) {
	sizes := map[int]bool{}
	for _, data := range []func(size int) impl.Decl{
		func(size int) impl.Decl { return oneCtor("p" + plainText(size) + "cn;.") },
		func(size int) impl.Decl { return oneCtor("ppsz.cn;.p" + plainText(size) + "cn;.") },
		func(size int) impl.Decl {
			return dataWith("cnat;.", "p"+plainText(500)+"cnat;.", "pcnat;.cnat;.", "p"+plainText(size)+"cnat;.")
		},
	} {
		for _, size := range sizesAround(func(size int) int { return len(wantsOfRecursor(data(size)).whole) }) {
			want := checkRecursor(t, data(size))
			sizes[len(want.whole)] = true
			if slices.Contains(want.minors, "") {
				t.Errorf("the test has a constructor without a type for %d bytes", size)
			}
		}
	}
	if !sizes[0] || !sizes[1999] || !sizes[2000] {
		t.Errorf("the test reaches only the sizes %v", sizes)
	}
	if got, ok := impl.RecType(oneCtor("p" + plainText(1962) + "cn;.")); len(got) != 2000 || !ok {
		t.Errorf("RecType returns %d bytes, %v", len(got), ok)
	}
	if got, ok := impl.RecType(oneCtor("p" + plainText(1963) + "cn;.")); got != "" || ok {
		t.Errorf("RecType returns %d bytes, %v", len(got), ok)
	}
}

// TestRecTypeNeedsEachConstructor has one constructor for which there is no MinorType among up to six.
func TestRecTypeNeedsEachConstructor(t *testing.T) {
	good := []string{"cnat;.", "psz.cnat;.", "pcnat;.cnat;.", "psz.ppv0.cnat;.cnat;.", "pcnat;.pcnat;.cnat;.", "ppsz.psz.cnat;.cnat;."}
	bad := []string{"sz.", "psz.v0.", "ppcnat;.sz.cnat;.", "cnat;z,.", "p@cnat;.sz.cnat;.", "p" + plainText(1989) + "cnat;."}
	for count := range 7 {
		want := checkRecursor(t, dataWith(good[:count]...))
		domains, target := wantDomainsAndTarget(want.whole)
		if len(domains) != count+2 || target != "@v"+strconv.Itoa(count+1)+".v0." {
			t.Errorf("the test has the recursor %q for %d constructors", want.whole, count)
		}
		for at := range count {
			for _, text := range bad {
				changed := slices.Clone(good[:count])
				changed[at] = text
				for _, flags := range []int{0, impl.FlNoPos, impl.FlNoUniv} {
					d := dataWith(changed...)
					d.Flags = flags
					if want := checkRecursor(t, d); want.whole != "" || want.minors[at] != "" {
						t.Errorf("the test has a recursor for %q", changed)
					}
				}
			}
		}
	}
}

// TestRecursorOfOtherKinds gives each declaration each kind.
func TestRecursorOfOtherKinds(t *testing.T) {
	for kind := -1; kind < 6; kind++ {
		for _, d := range append(someDecls(), listData(), ordData(), wData(), dataWith()) {
			isData := d.Kind == impl.DkData
			d.Kind = kind
			args, given := slices.Repeat([]string{"v1."}, len(d.Ctors)+1), []string{}
			if len(d.Ctors) > 0 {
				domains, _ := wantDomainsAndTarget(d.Ctors[0].Type)
				given = slices.Repeat([]string{"v2."}, len(domains))
			}
			for _, levels := range [][]string{{}, {"z"}, {"z", "z"}} {
				checkWantStep(t, stepCall{d, levels, args, 0, given})
			}
			if want := checkRecursor(t, d); (want.sort != "") != (isData && kind == impl.DkData) {
				t.Errorf("the test takes %q of kind %d for a data type", stringsOf(d), kind)
			}
			d.Type, d.Value, d.Ctors = "s+z.", "", nil
			checkRecursor(t, d)
		}
	}
}

// TestRecursorOfInvalidDeclarations changes one part of data types that have recursors.
func TestRecursorOfInvalidDeclarations(t *testing.T) {
	for _, call := range someSteps() {
		if checkRecursor(t, call.d).whole == "" || checkWantStep(t, call) == "" {
			t.Errorf("the test has no recursor for %q", stringsOf(call.d))
		}
		for _, changed := range brokenData(call.d) {
			checkRecursorWants(t, changed, recursorWants{})
			for _, args := range [][]string{call.args, slices.Repeat([]string{"v0."}, len(changed.Ctors)+1)} {
				checkStep(t, stepCall{changed, call.levels, args, call.k, call.given}, "")
			}
		}
	}
	many := dataWith()
	many.Ctors = make([]impl.Ctor, 1000000)
	minor, minorOk := impl.MinorType(many, 999999)
	whole, wholeOk := impl.RecType(many)
	step, stepOk := impl.RecStep(many, []string{"z"}, make([]string, 1000001), 999999, nil)
	if minor+whole+step != "" || minorOk || wholeOk || stepOk || impl.RecLevels(many) != 0 || impl.MotiveSort(many) != "" {
		t.Errorf("a declaration with %d constructors without names has a recursor", len(many.Ctors))
	}
}

// someSteps returns calls of RecStep that have a result.
func someSteps() []stepCall {
	three := []string{"v5.", "v6.", "v7."}
	return []stepCall{
		{natData(), []string{"z"}, three, 0, nil},
		{natData(), []string{"z"}, three, 1, []string{"v8."}},
		{listData(), []string{"+z", "u0"}, three, 1, []string{"ca;.", "v3."}},
		{ordData(), []string{"u1"}, []string{"v0.", "v1.", "v2.", "v3."}, 2, []string{"v4."}},
		{wData(), []string{"z"}, []string{"v0.", "v1."}, 0, []string{"cnat;.", "v2."}},
		{boxData(), []string{"u2", "z"}, []string{"lsz.v0.", "@v0.v1."}, 0, []string{"sz."}},
	}
}

// TestRecStepFigures gives the results of some calls in full.
func TestRecStepFigures(t *testing.T) {
	z, two := []string{"z"}, []string{"v0.", "v1."}
	wants := []string{
		"v6.", "@@v7.v8.@@@@cnat.rec;z,.v5.v6.v7.v8.", "@@@v7.ca;.v3.@@@@clist.rec;+z,u0,.v5.v6.v7.v3.",
		"@@v3.v4.lcnat;.@@@@@cord.rec;u1,.v1.v2.v3.v4.@v5.v0.", "@@@v1.cnat;.v2.lcnat;.@@@cw.rec;z,.v1.v2.@v3.v0.", "@@v0.v1.sz.",
	}
	for at, call := range someSteps() {
		checkStep(t, call, wants[at])
		checkWantStep(t, call)
	}
	figures := []struct {
		ctor  string
		args  []string
		given []string
		want  string
	}{
		// Without arguments, and with ones that have nothing to do with the data type: no recursion.
		{"cn;.", two, nil, "v1."}, {"psz.cn;.", two, []string{"v5."}, "@v1.v5."}, {"psz.pv0.cn;.", two, []string{"v5.", "v6."}, "@@v1.v5.v6."}, {"cn;.", []string{"sz.", "lsz.v0."}, nil, "lsz.v0."}, {"ppsz.v0.cn;.", two, []string{"lsz.v3."}, "@v1.lsz.v3."},
		// One and several arguments in the data type.
		{"pcn;.cn;.", two, []string{"v5."}, "@@v1.v5.@@@cn.rec;z,.v0.v1.v5."}, {"pcn;.pcn;.cn;.", two, []string{"v5.", "v6."}, "@@@@v1.v5.v6.@@@cn.rec;z,.v0.v1.v5.@@@cn.rec;z,.v0.v1.v6."}, {"psz.pcn;.pv1.cn;.", two, []string{"v5.", "v6.", "v7."}, "@@@@v1.v5.v6.v7.@@@cn.rec;z,.v0.v1.v6."}, {"pcn;.psz.pcn;.cn;.", two, []string{"v5.", "v6.", "v7."}, "@@@@@v1.v5.v6.v7.@@@cn.rec;z,.v0.v1.v5.@@@cn.rec;z,.v0.v1.v7."},
		// Functions into it: what is outside of the binders is lifted.
		{"ppsz.cn;.cn;.", two, []string{"v5."}, "@@v1.v5.lsz.@@@cn.rec;z,.v1.v2.@v6.v0."}, {"ppsz.pv0.cn;.cn;.", two, []string{"v5."}, "@@v1.v5.lsz.lv0.@@@cn.rec;z,.v2.v3.@@v7.v1.v0."}, {"ppsz.cn;.cn;.", []string{"lsz.@v0.v1.", "lv0.v0."}, []string{"lsz.@v1.v0."}, "@@lv0.v0.lsz.@v1.v0.lsz.@@@cn.rec;z,.lsz.@v0.v2.lv1.v0.@lsz.@v2.v0.v0."},
		{"pcn;.ppsz.cn;.cn;.", two, []string{"v5.", "v6."}, "@@@@v1.v5.v6.@@@cn.rec;z,.v0.v1.v5.lsz.@@@cn.rec;z,.v1.v2.@v7.v0."},
		// Later domains that mention earlier arguments, which may have open variables.
		{"psz.ppv0.cn;.cn;.", two, []string{"ca;.", "v6."}, "@@@v1.ca;.v6.lca;.@@@cn.rec;z,.v1.v2.@v7.v0."}, {"psz.ppv0.cn;.cn;.", two, []string{"v5.", "v6."}, "@@@v1.v5.v6.lv5.@@@cn.rec;z,.v1.v2.@v7.v0."}, {"psz.ppsz.pv1.cn;.cn;.", two, []string{"v5.", "v6."}, "@@@v1.v5.v6.lsz.lv6.@@@cn.rec;z,.v2.v3.@@v8.v1.v0."},
		{"psz.psz.ppv1.pv1.cn;.cn;.", two, []string{"ca;.", "v4.", "v5."}, "@@@@v1.ca;.v4.v5.lca;.lv5.@@@cn.rec;z,.v2.v3.@@v7.v1.v0."}, {"psz.psz.ppv0.pv2.cn;.cn;.", two, []string{"v3.", "v4.", "v5."}, "@@@@v1.v3.v4.v5.lv4.lv4.@@@cn.rec;z,.v2.v3.@@v7.v1.v0."}, {"psz.pcn;.ppv1.cn;.cn;.", two, []string{"v9.", "v8.", "v7."}, "@@@@@v1.v9.v8.v7.@@@cn.rec;z,.v0.v1.v8.lv9.@@@cn.rec;z,.v1.v2.@v8.v0."},
		{"psz.pplv0.@v0.v1.cn;.cn;.", two, []string{"lsz.@v0.v2.", "v6."}, "@@@v1.lsz.@v0.v2.v6.lllsz.@v0.v2.@v0.lsz.@v0.v3.@@@cn.rec;z,.v1.v2.@v7.v0."}, {"psz.pptsz.v0.@v0.v1.cn;.cn;.", two, []string{"v4.", "v6."}, "@@@v1.v4.v6.ltsz.v4.@v0.v5.@@@cn.rec;z,.v1.v2.@v7.v0."},
		// The given terms are not looked into.
		{"pcn;.cn;.", two, []string{"cn.a;."}, "@@v1.cn.a;.@@@cn.rec;z,.v0.v1.cn.a;."}, {"pcn;.cn;.", []string{"sz.", "@lsz.v0.sz."}, []string{"@lsz.v0.v1."}, "@@@lsz.v0.sz.@lsz.v0.v1.@@@cn.rec;z,.sz.@lsz.v0.sz.@lsz.v0.v1."},
		// Targets do not matter; a bad argument does.
		{"sz.", two, nil, "v1."}, {"pcn;.sz.", two, []string{"v5."}, "@@v1.v5.@@@cn.rec;z,.v0.v1.v5."}, {"pcn;.cn;z,.", two, []string{"v5."}, "@@v1.v5.@@@cn.rec;z,.v0.v1.v5."}, {"ppcn;.sz.cn;.", two, []string{"v5."}, ""}, {"p@cn;.sz.cn;.", two, []string{"v5."}, ""}, {"pcn;.ppcn;.cn;.cn;.", two, []string{"v5.", "v6."}, ""},
	}
	for _, f := range figures {
		call := stepCall{oneCtor(f.ctor), z, f.args, 0, f.given}
		checkStep(t, call, f.want)
		checkWantStep(t, call)
		call.d.Flags = impl.FlNoPos
		checkStep(t, call, f.want)
	}
}

// TestRecStepLevels has levels in the domains: the recursor's own one is not among those that are put in.
func TestRecStepLevels(t *testing.T) {
	figures := []struct {
		params  int
		level   string
		domain  string
		levels  []string
		binders string
		rec     string
		element string
	}{
		{1, "+u0", "psu0.cn;u0,.", []string{"+z", "u2"}, "ls+z.", "cn.rec;+z,u2,.", "@cc;.v0."}, {1, "+u0", "pca;u0,+u0,.cn;u0,.", []string{"mu0z", "z"}, "lca;mu0z,+mu0z,.", "cn.rec;mu0z,z,.", "@cc;.v0."}, {1, "u0", "psu0.cn;u0,.", []string{"+u1"}, "ls+u1.", "cn.rec;+u1,.", "@cc;.v0."},
		{2, "+u0", "psiu0u1.cn;u0,u1,.", []string{"z", "+z", "u0"}, "lsiz+z.", "cn.rec;z,+z,u0,.", "@cc;.v0."}, {2, "+z", "psu1.psu0.cn;u0,u1,.", []string{"u1", "u0", "z"}, "lsu0.lsu1.", "cn.rec;u1,u0,z,.", "@@cc;.v1.v0."}, {2, "z", "plsu1.su0.cn;u0,u1,.", []string{"++z", "u2"}, "llsu2.s++z.", "cn.rec;++z,u2,.", "@cc;.v0."},
		{0, "+z", "ps+z.cn;.", []string{"u0"}, "ls+z.", "cn.rec;u0,.", "@cc;.v0."}, {0, "z", "psz.cn;.", nil, "lsz.", "cn.rec;.", "@cc;.v0."}, {2, "+z", "cn;u0,u1,.", []string{"z", "u2", "+z"}, "", "cn.rec;z,u2,+z,.", "cc;."},
	}
	for _, f := range figures {
		d := impl.Decl{Kind: impl.DkData, Name: "n", Params: f.params, Type: "s" + f.level + ".", Ctors: []impl.Ctor{{Name: "n.a", Type: "p" + f.domain + "sz."}}}
		call := stepCall{d, f.levels, []string{"sz.", "cb;."}, 0, []string{"cc;."}}
		checkStep(t, call, "@@cb;.cc;."+f.binders+"@@@"+f.rec+"sz.cb;."+f.element)
		checkWantStep(t, call)
	}
	longest := strings.Repeat("+", 59) + "z"
	// A level of a domain that becomes too long matters only for an argument in the data type.
	limits := []struct {
		ctor  string
		given []string
		level string
		ok    bool
	}{
		{"ppsu0.cn;u0,.sz.", []string{"v0."}, longest, true}, {"pps+u0.cn;u0,.sz.", []string{"v0."}, longest, false}, {"pps+u0.cn;u0,.sz.", []string{"v0."}, longest[1:], true}, {"ppca;z,+u0,.cn;u0,.sz.", []string{"v0."}, longest, false},
		{"ps+u0.sz.", []string{"v0."}, longest, true}, {"pps+u0.sz.sz.", []string{"v0."}, longest, true}, {"psmu0u0.pcn;u0,.sz.", []string{"v0.", "v1."}, longest, true}, {"pcn;u0,.psmu0u0.sz.", []string{"v0.", "v1."}, longest, true}, {"pcn;u0,.s+u0.", []string{"v0."}, longest, true},
	}
	for _, f := range limits {
		d := oneCtor(f.ctor)
		d.Params = 1
		if want := checkWantStep(t, stepCall{d, []string{f.level, "z"}, []string{"v0.", "v1."}, 0, f.given}); (want != "") != f.ok {
			t.Errorf("the test has %q for %q", want, f.ctor)
		}
	}
}

// TestRecStepWrongArguments changes one argument of calls that have a result.
func TestRecStepWrongArguments(t *testing.T) {
	for _, call := range someSteps() {
		for _, k := range indexesAround(len(call.d.Ctors)) {
			changed := call
			changed.k = k
			checkWantStep(t, changed)
			if k < 0 || k >= len(call.d.Ctors) {
				checkStep(t, changed, "")
			}
		}
		for count := range 9 {
			changed := call
			if changed.levels = slices.Repeat([]string{"z"}, count); count != len(call.levels) {
				checkStep(t, changed, "")
			}
			changed = call
			if changed.args = slices.Repeat([]string{"v0."}, count); count != len(call.args) {
				checkStep(t, changed, "")
			}
			changed = call
			if changed.given = slices.Repeat([]string{"v0."}, count); count != len(call.given) {
				checkStep(t, changed, "")
			}
		}
		for at := range call.levels {
			for _, level := range []string{"", "u", "u3", "zz", "+", "Z", " z", "z,", "u0,u1", strings.Repeat("+", 60) + "z", "\xff"} {
				changed := call
				changed.levels = slices.Clone(call.levels)
				changed.levels[at] = level
				checkStep(t, changed, "")
			}
		}
		for _, text := range append(someNoTerms(), plainText(2001)) {
			for at := range call.args {
				changed := call
				changed.args = slices.Clone(call.args)
				changed.args[at] = text
				checkStep(t, changed, "")
			}
			for at := range call.given {
				changed := call
				changed.given = slices.Clone(call.given)
				changed.given[at] = text
				checkStep(t, changed, "")
			}
		}
		many := slices.Repeat([]string{"v0."}, 1000000)
		for _, changed := range []stepCall{{call.d, many, call.args, call.k, call.given}, {call.d, call.levels, many, call.k, call.given}, {call.d, call.levels, call.args, call.k, many}} {
			if got, ok := impl.RecStep(changed.d, changed.levels, changed.args, changed.k, changed.given); got != "" || ok {
				t.Errorf("RecStep with %d arguments = %q, %v", len(many), got, ok)
			}
		}
	}
	// Texts that are terms only together.
	checkStep(t, stepCall{oneCtor("psz.psz.cn;."), []string{"z"}, []string{"v0.", "v1."}, 0, []string{"@v0.", "v1."}}, "")
	checkStep(t, stepCall{dataWith("cnat;.", "cnat;."), []string{"z"}, []string{"v0.", "v1.", "lsz."}, 0, nil}, "")
}

// TestRecStepNeedsAPositiveDataType has a bad argument in the constructor itself or in another one.
func TestRecStepNeedsAPositiveDataType(t *testing.T) {
	args := []string{"v0.", "v1.", "v2."}
	for _, flags := range []int{0, impl.FlNoPos, impl.FlNoPos + impl.FlNoUniv} {
		for _, text := range []string{"ppcnat;.sz.cnat;.", "pcnat;z,.cnat;.", "p@cnat;.sz.sz."} {
			for _, d := range []impl.Decl{dataWith("cnat;.", text), dataWith(text, "cnat;.")} {
				d.Flags = flags
				for k, c := range d.Ctors {
					domains, _ := wantDomainsAndTarget(c.Type)
					checkStep(t, stepCall{d, []string{"z"}, args, k, slices.Repeat([]string{"v3."}, len(domains))}, "")
				}
			}
		}
		// What is not an argument does not matter.
		d := dataWith("@cnat;.sz.", "lcnat;.v0.")
		d.Flags = flags
		checkStep(t, stepCall{d, []string{"z"}, args, 0, nil}, "v1.")
		checkStep(t, stepCall{d, []string{"z"}, args, 1, nil}, "v2.")
	}
}

// TestRecStepGreatestVariables has variables that reach MaxVar, and ones that would exceed it.
func TestRecStepGreatestVariables(t *testing.T) {
	figures := []struct {
		ctor  string
		args  []string
		given []string
		ok    bool
	}{
		// Without binders, nothing is lifted.
		{"cn;.", []string{"v999.", "v999."}, nil, true}, {"psz.cn;.", []string{"v999.", "v999."}, []string{"v999."}, true}, {"pcn;.cn;.", []string{"v999.", "v999."}, []string{"v999."}, true}, {"psz.psz.psz.cn;.", []string{"v999.", "v999."}, []string{"v999.", "v999.", "v999."}, true},
		// The args and the argument itself are under the binders of its domains.
		{"ppsz.cn;.cn;.", []string{"v998.", "v998."}, []string{"v998."}, true}, {"ppsz.cn;.cn;.", []string{"v999.", "v1."}, []string{"v1."}, false}, {"ppsz.cn;.cn;.", []string{"v1.", "v999."}, []string{"v1."}, false}, {"ppsz.cn;.cn;.", []string{"v1.", "v1."}, []string{"v999."}, false},
		{"ppsz.pv0.cn;.cn;.", []string{"v997.", "v997."}, []string{"v997."}, true}, {"ppsz.pv0.cn;.cn;.", []string{"v998.", "v0."}, []string{"v0."}, false}, {"ppsz.pv0.cn;.cn;.", []string{"v0.", "v998."}, []string{"v0."}, false}, {"ppsz.pv0.cn;.cn;.", []string{"v0.", "v0."}, []string{"v998."}, false},
		{"ppsz.cn;.cn;.", []string{"lsz.v999.", "lsz.v0."}, []string{"v0."}, false}, {"ppsz.cn;.cn;.", []string{"lv998.v999.", "lsz.v0."}, []string{"v0."}, false}, {"ppsz.cn;.cn;.", []string{"lv998.v0.", "lsz.v998."}, []string{"v0."}, true},
		// What is put into a domain is under its binders.
		{"psz.ppv0.cn;.cn;.", []string{"v0.", "v0."}, []string{"v999.", "v0."}, true}, {"psz.ppsz.pv1.cn;.cn;.", []string{"v0.", "v0."}, []string{"v998.", "v0."}, true}, {"psz.ppsz.pv1.cn;.cn;.", []string{"v0.", "v0."}, []string{"v999.", "v0."}, false}, {"psz.pplsz.v1.cn;.cn;.", []string{"v0.", "v0."}, []string{"v999.", "v0."}, false},
		// It is lifted by its index, also if the domain does not mention it, but only if it is before an argument in the data type.
		{"psz.psz.pcn;.cn;.", []string{"v0.", "v0."}, []string{"v999.", "v998.", "v999."}, true}, {"psz.psz.pcn;.cn;.", []string{"v0.", "v0."}, []string{"v0.", "v999.", "v0."}, false}, {"psz.psz.psz.pcn;.cn;.", []string{"v0.", "v0."}, []string{"v999.", "v998.", "v997.", "v999."}, true}, {"psz.psz.psz.pcn;.cn;.", []string{"v0.", "v0."}, []string{"v0.", "v0.", "v998.", "v0."}, false},
		{"psz.psz.pcn;.psz.cn;.", []string{"v0.", "v0."}, []string{"v0.", "v0.", "v999.", "v999."}, true}, {"pcn;.psz.psz.cn;.", []string{"v0.", "v0."}, []string{"v999.", "v999.", "v999."}, true}, {"pcn;.pcn;.psz.cn;.", []string{"v0.", "v0."}, []string{"v999.", "v999.", "v999."}, true}, {"pcn;.pcn;.pcn;.cn;.", []string{"v0.", "v0."}, []string{"v999.", "v999.", "v999."}, false},
		// A term in between has a greater variable than the result.
		{"psz.psz.ppsz.pv1.cn;.cn;.", []string{"v0.", "v0."}, []string{"v0.", "v997.", "v0."}, true}, {"psz.psz.ppsz.pv1.cn;.cn;.", []string{"v0.", "v0."}, []string{"v0.", "v998.", "v0."}, false}, {"psz.psz.pplsz.v1.cn;.cn;.", []string{"v0.", "v0."}, []string{"v0.", "v997.", "v0."}, true}, {"psz.psz.pplsz.v1.cn;.cn;.", []string{"v0.", "v0."}, []string{"v0.", "v998.", "v0."}, false},
	}
	for _, f := range figures {
		if want := checkWantStep(t, stepCall{oneCtor(f.ctor), []string{"z"}, f.args, 0, f.given}); (want != "") != f.ok {
			t.Errorf("the test has %q for %q with %q and %q", want, f.ctor, f.args, f.given)
		}
	}
}

// TestRecStepTermLimits checks results with exactly the greatest number of bytes, and with one more.
func TestRecStepTermLimits(t *testing.T) {
	z, long := []string{"z"}, plainText(2000)
	// The recursor is not in the result for a constructor without arguments in the data type.
	checkStep(t, stepCall{natData(), z, []string{"sz.", long, "sz."}, 0, nil}, long)
	checkStep(t, stepCall{natData(), z, []string{long, "v0.", long}, 0, nil}, "v0.")
	checkStep(t, stepCall{natData(), z, []string{long, "v0.", "v0."}, 1, []string{"v0."}}, "")
	checkStep(t, stepCall{oneCtor("psz.cn;."), z, []string{long, "v0."}, 0, []string{plainText(1996)}}, "@v0."+plainText(1996))
	checkStep(t, stepCall{oneCtor("psz.cn;."), z, []string{long, "v0."}, 0, []string{plainText(1997)}}, "")
	checkStep(t, stepCall{oneCtor("psz.cn;."), z, []string{"v0.", long}, 0, []string{"v0."}}, "")
	checkStep(t, stepCall{oneCtor("psz.psz.cn;."), z, []string{long, "v0."}, 0, []string{long, long}}, "")
	sizes := map[int]int{}
	for _, callWith := range []func(text string) (string, []string, []string){
		func(text string) (string, []string, []string) {
			return "pcn;.cn;.", []string{text, "v1."}, []string{"v0."}
		},
		func(text string) (string, []string, []string) {
			return "pcn;.cn;.", []string{"v0.", text}, []string{"v9."}
		},
		func(text string) (string, []string, []string) {
			return "pcn;.cn;.", []string{"v0.", "v1."}, []string{text}
		},
		func(text string) (string, []string, []string) {
			return "psz.pcn;.cn;.", []string{"v0.", "v1."}, []string{text, "v0."}
		},
		// What is longer where it is lifted, in an arg, in the argument itself and in its domain.
		func(text string) (string, []string, []string) {
			return "ppsz.cn;.cn;.", []string{"@v9." + text, "v1."}, []string{"v0."}
		},
		func(text string) (string, []string, []string) {
			return "ppsz.cn;.cn;.", []string{"v0.", "v1."}, []string{"@v9." + text}
		},
		func(text string) (string, []string, []string) {
			return "pp" + text + "cn;.cn;.", []string{"v0.", "v1."}, []string{"v0."}
		},
		func(text string) (string, []string, []string) {
			return "psz.pplsz.v1.cn;.cn;.", []string{"v0.", "v1."}, []string{"@v9." + text, "v0."}
		},
	} {
		call := func(size int) stepCall {
			ctor, args, given := callWith(plainText(size))
			return stepCall{oneCtor(ctor), z, args, 0, given}
		}
		for _, size := range sizesAround(func(size int) int { return len(wantStep(call(size))) }) {
			sizes[len(checkWantStep(t, call(size)))]++
		}
	}
	if sizes[0] < 10 || sizes[1999] < 2 || sizes[2000] < 2 {
		t.Errorf("the test reaches the sizes %v", sizes)
	}
}

// TestRecStepTermLimitsInBetween has domains that are shorter once everything is put in, but are too long before.
func TestRecStepTermLimitsInBetween(t *testing.T) {
	seen := map[bool]int{}
	for _, size := range []int{1, 30, 56, 57, 58, 59, 60} {
		d := oneCtor(strings.Repeat("psz.", 11) + "pp" + strings.Repeat("@v10.", 375) + "su0.cn;u0,.cn;u0,.")
		d.Params = 1
		call := stepCall{d, []string{strings.Repeat("+", size-1) + "z", "z"}, []string{"v0.", "v0."}, 0, slices.Repeat([]string{"v0."}, 12)}
		ok := len("p")+375*len("@v10.")+len("s.")+size+len("cn;,.")+size <= 2000
		if want := checkWantStep(t, call); (want != "") != ok {
			t.Errorf("the test has %q for a level of %d bytes", want, size)
		}
		seen[ok]++
	}
	if seen[true] == 0 || seen[false] == 0 {
		t.Errorf("the test finds the results %v", seen)
	}
}

// TestRecStepManyArguments has as many arguments as there can be, for which there is no result, and some fewer.
func TestRecStepManyArguments(t *testing.T) {
	z, args := []string{"z"}, []string{"v0.", "v1."}
	for _, count := range []int{1, 2, 10, 40, 80, 81, 82, 83, 84, 85, 86, 87, 88, 89, 90, 200, 398} {
		checkWantStep(t, stepCall{oneCtor(strings.Repeat("pcn;.", count) + "cn;."), z, args, 0, slices.Repeat([]string{"v2."}, count)})
	}
	for _, count := range []int{1, 100, 300, 400, 450, 460, 480, 488} {
		text := strings.Repeat("psz.", count) + "ppv" + strconv.Itoa(count-1) + ".cn;.cn;."
		checkWantStep(t, stepCall{oneCtor(text), z, args, 0, slices.Repeat([]string{"v2."}, count+1)})
	}
	given := slices.Repeat([]string{plainText(2000)}, 398)
	checkStep(t, stepCall{oneCtor(strings.Repeat("pcn;.", 398) + "cn;."), z, args, 0, given}, "")
}

// recursiveDecl returns a valid data type whose constructors have arguments that mention earlier ones.
func recursiveDecl(source *rand.Rand) impl.Decl {
	d := impl.Decl{Kind: impl.DkData, Name: []string{"n", "a.nat", "c.c.c"}[source.Intn(3)], Params: source.Intn(3), Flags: 2 * source.Intn(4)}
	d.Type = closedAt("s"+randomLevel(source, 1+source.Intn(8))+".", d.Params)
	self := wantsOf(d).self
	for at := range source.Intn(5) {
		text := ""
		for j := range source.Intn(5) {
			text += "p" + recursiveDomain(source, j, d.Params, self)
		}
		d.Ctors = append(d.Ctors, impl.Ctor{Name: d.Name + "." + string(rune('a'+at)), Type: text + self})
	}
	return d
}

// recursiveDomain returns a domain under this many arguments, which is often the data type or a function into it.
func recursiveDomain(source *rand.Rand, outer int, params int, self string) string {
	some := func(binders int) string {
		return closedUnder(treeOfSize(source, 3+source.Intn(14)).text, outer+binders, params)
	}
	if source.Intn(3) == 0 {
		return some(0)
	}
	text := ""
	for binders := range source.Intn(4) {
		text += "p" + some(binders)
	}
	return text + self
}

// randomStep returns a call for each constructor, which has a result if nothing becomes too long or too great.
func randomStep(source *rand.Rand, d impl.Decl, k int) stepCall {
	call := stepCall{d: d, k: k}
	some := func() string {
		switch source.Intn(60) {
		case 0:
			return []string{"v997.", "v998.", "v999."}[source.Intn(3)]
		case 1:
			return plainText(300 + source.Intn(1400))
		}
		return closedUnder(treeOfSize(source, 3+source.Intn(12)).text, 7, 3)
	}
	for range wantRecLevels(d) {
		call.levels = append(call.levels, randomLevel(source, 1+source.Intn(6)))
	}
	for range len(d.Ctors) + 1 {
		call.args = append(call.args, some())
	}
	domains, _ := wantDomainsAndTarget(d.Ctors[k].Type)
	for range domains {
		call.given = append(call.given, some())
	}
	return call
}

// damagedStep returns the call with one of its lists or elements replaced.
func damagedStep(source *rand.Rand, call stepCall) stepCall {
	change := func(list []string, texts ...string) []string {
		list = slices.Clone(list)
		switch at := source.Intn(len(list) + 1); {
		case at == len(list):
			return append(list, texts[source.Intn(len(texts))])
		case source.Intn(2) == 0:
			return slices.Delete(list, at, at+1)
		default:
			list[at] = texts[source.Intn(len(texts))]
			return list
		}
	}
	switch source.Intn(5) {
	case 0:
		call.levels = change(call.levels, "z", "u0", "", "u3", "zz")
	case 1:
		call.args = change(call.args, "v0.", "sz.", "", "v1000.", "psz.")
	case 2:
		call.given = change(call.given, "v0.", "sz.", "", "v1000.", "psz.")
	case 3:
		call.k = source.Intn(8) - 1
	default:
		call.d = damaged(source, call.d)
	}
	return call
}

// TestRecursorTakesMotiveArgumentsAndElement checks promise 11 with random declarations.
func TestRecursorTakesMotiveArgumentsAndElement(t *testing.T) {
	source := rand.New(rand.NewSource(11))
	wholes, steps, none := 0, 0, 0
	for range 1200 {
		d := recursiveDecl(source)
		want := checkRecursor(t, d)
		if want.whole != "" {
			wholes++
			checkPromisedType(t, d)
		}
		for k, c := range d.Ctors {
			call := randomStep(source, d, k)
			if checkWantStep(t, call) == "" {
				none++
			} else if steps++; c.Type == impl.SelfConst(d) {
				checkStep(t, call, call.args[k+1])
			}
			checkWantStep(t, damagedStep(source, call))
		}
		checkRecursor(t, damaged(source, d))
	}
	if wholes < 500 || steps < 1000 || none < 100 {
		t.Errorf("%d recursors, %d steps, and %d calls without one", wholes, steps, none)
	}
}

// checkPromisedType checks what the document promises of the type of a recursor that there is.
func checkPromisedType(t *testing.T, d impl.Decl) {
	t.Helper()
	whole, _ := impl.RecType(d)
	self := impl.SelfConst(d)
	domains := impl.Domains(whole)
	if len(domains) != len(d.Ctors)+2 || domains[0] != "p"+self+impl.MotiveSort(d) || domains[len(domains)-1] != self {
		t.Errorf("the recursor of %q takes %q", stringsOf(d), domains)
	}
	if impl.Target(whole) != "@"+impl.VarText(len(d.Ctors)+1)+"v0." || impl.TermOpen(whole) != 0 || impl.ParamsIn(whole) > impl.RecLevels(d) {
		t.Errorf("the recursor of %q has the type %q", stringsOf(d), whole)
	}
	for k := range d.Ctors {
		minor, _ := impl.MinorType(d, k)
		if domains[k+1] != minor || impl.TermOpen(minor) != k+1 {
			t.Errorf("the recursor of %q takes %q for the constructor %d, whose argument has the type %q", stringsOf(d), domains[k+1], k, minor)
		}
	}
}

// TestRecursorOfRandomDeclarations checks declarations of all kinds, and some that are not valid.
func TestRecursorOfRandomDeclarations(t *testing.T) {
	source := rand.New(rand.NewSource(110))
	for range 1000 {
		for _, d := range []impl.Decl{randomDecl(source), shapedDecl(source)} {
			checkRecursor(t, d)
			checkRecursor(t, damaged(source, d))
			if d.Kind == impl.DkData {
				for k := range d.Ctors {
					checkWantStep(t, randomStep(source, d, k))
				}
			}
		}
	}
}

func TestRecursorLeavesSpareCapacity(t *testing.T) {
	ctors := []impl.Ctor{{Name: "nat.a", Type: "cnat;."}, {Name: "nat.b", Type: "ppsz.cnat;.pcnat;.cnat;."}, {Name: "nat.c", Type: "psz.cnat;."}, {Name: "spare", Type: "spare"}}
	levels, args, given := []string{"z", "spare"}, []string{"v0.", "v1.", "v2.", "v3.", "spare", "spare"}, []string{"v5.", "v6.", "spare", "spare"}
	keptCtors, kept := slices.Clone(ctors), slices.Concat(levels, args, given)
	for size := range 4 {
		d := dataWith()
		d.Ctors = ctors[:size]
		checkRecursor(t, d)
		for k := range size {
			for count := range len(given) {
				checkWantStep(t, stepCall{d, levels[:1], args[:size+1], k, given[:count]})
			}
		}
	}
	if !slices.Equal(ctors, keptCtors) || !slices.Equal(slices.Concat(levels, args, given), kept) {
		t.Errorf("the memory of the arguments was changed: %q, %q, %q, %q", ctors, levels, args, given)
	}
}

// TestRecursorResultsAreNewMemory changes arguments; the memory of the strings is compared by the checks above.
func TestRecursorResultsAreNewMemory(t *testing.T) {
	d, levels, args, given := natData(), []string{"z"}, []string{"v5.", "v6.", "v7."}, []string{"v8."}
	minor, _ := impl.MinorType(d, 1)
	whole, _ := impl.RecType(d)
	step, _ := impl.RecStep(d, levels, args, 1, given)
	d.Ctors[1], levels[0], args[2], given[0] = impl.Ctor{}, "u0", "sz.", "sz."
	if minor != "pcnat;.p@v2.v0.@v3.@cnat.succ;.v1." || whole != "ppcnat;.su0.p@v0.cnat.zero;.p"+minor+"pcnat;.@v3.v0." || step != "@@v7.v8.@@@@cnat.rec;z,.v5.v6.v7.v8." {
		t.Errorf("changed arguments changed the results to %q, %q and %q", minor, whole, step)
	}
}
