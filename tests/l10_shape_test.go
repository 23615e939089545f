package tests

import (
	"math"
	"math/rand"
	"reflect"
	"slices"
	"strings"
	"testing"

	"loop.example/g00963/impl"
)

// wantShape is an independent description of shapes.
func wantShape(self string, name string, domain string) int {
	if _, ok := treeOf(domain); !ok {
		return 2
	}
	if !slices.Contains(wantUses(domain), name) {
		return 0
	}
	domains, target := wantDomainsAndTarget(domain)
	for _, inner := range domains {
		if slices.Contains(wantUses(inner), name) {
			return 2
		}
	}
	if target != self {
		return 2
	}
	return 1
}

func checkShape(t *testing.T, self string, name string, domain string, want int) {
	t.Helper()
	if got := impl.ArgShape(self, name, domain); got != want {
		t.Errorf("ArgShape(%.100q, %.100q, %.200q) = %d, want %d", self, name, domain, got, want)
	}
}

// checkWantShape checks a shape that the test itself finds out, and returns it.
func checkWantShape(t *testing.T, self string, name string, domain string) int {
	t.Helper()
	want := wantShape(self, name, domain)
	checkShape(t, self, name, domain, want)
	return want
}

// shapeWants holds what the functions return for a declaration and each of its constructors.
type shapeWants struct {
	shapes   [][]int
	results  []bool
	positive bool
	large    bool
}

// wantsOfShapes is an independent description of all functions that take a declaration.
func wantsOfShapes(d impl.Decl) shapeWants {
	if d.Kind != 4 || !wantDeclOk(d) {
		return shapeWants{}
	}
	self := wantsOf(d).self
	want := shapeWants{positive: true, large: wantAbove(d.Type[1 : len(d.Type)-1])}
	for _, c := range d.Ctors {
		domains, target := wantDomainsAndTarget(c.Type)
		shapes := []int{}
		for _, domain := range domains {
			shapes = append(shapes, wantShape(self, d.Name, domain))
		}
		want.shapes = append(want.shapes, shapes)
		want.results = append(want.results, target == self)
		want.positive = want.positive && !slices.Contains(shapes, 2)
	}
	return want
}

// wantAbove looks at the least value of a level only, which it has where all parameters are 0.
func wantAbove(level string) bool {
	return valueIn(level, []int{0, 0, 0}) > 0
}

// indexesAround returns the indexes of this many elements, and some that refer to none.
func indexesAround(count int) []int {
	indexes := []int{math.MinInt, -1 << 32, -7, -2, -1, count + 1, 7, 100, 1 << 32, 1<<32 + 1, math.MaxInt}
	for k := range count + 1 {
		indexes = append(indexes, k)
	}
	return indexes
}

// checkShapeWants checks all functions that take a declaration, also for indexes without a constructor, and that they leave the declaration as it is.
func checkShapeWants(t *testing.T, d impl.Decl, want shapeWants) {
	t.Helper()
	kept := d
	kept.Ctors = slices.Clone(d.Ctors)
	if positive, large := impl.Positive(d), impl.LargeOk(d); positive != want.positive || large != want.large {
		t.Errorf("Positive, LargeOk(%.500q) = %v, %v, want %v, %v", stringsOf(d), positive, large, want.positive, want.large)
	}
	for _, k := range indexesAround(len(d.Ctors)) {
		shapes, result := []int{}, false
		if k >= 0 && k < len(want.shapes) {
			shapes, result = want.shapes[k], want.results[k]
		}
		if got := impl.ShapesOf(d, k); !slices.Equal(got, shapes) {
			t.Errorf("ShapesOf(%.500q, %d) = %v, want %v", stringsOf(d), k, got, shapes)
		}
		if got := impl.ResultOk(d, k); got != result {
			t.Errorf("ResultOk(%.500q, %d) = %v", stringsOf(d), k, got)
		}
	}
	if !reflect.DeepEqual(d, kept) {
		t.Errorf("the declaration %.300q was changed to %.300q", stringsOf(kept), stringsOf(d))
	}
}

// checkDataShapes checks a declaration that is a valid data type if ok is true; the test itself finds out the rest.
func checkDataShapes(t *testing.T, d impl.Decl, ok bool) {
	t.Helper()
	want := wantsOfShapes(d)
	if got := d.Kind == 4 && wantDeclOk(d); got != ok {
		t.Errorf("the test takes %.300q for %v", stringsOf(d), got)
	}
	checkShapeWants(t, d, want)
}

// dataWith returns the data type nat with constructors of these types.
func dataWith(types ...string) impl.Decl {
	d := natData()
	d.Ctors = nil
	for at, text := range types {
		d.Ctors = append(d.Ctors, impl.Ctor{Name: "nat." + string(rune('a'+at)), Type: text})
	}
	return d
}

func TestShapeConstants(t *testing.T) {
	if shapes := []int{impl.ArNone, impl.ArSelf, impl.ArBad}; !slices.Equal(shapes, []int{0, 1, 2}) {
		t.Errorf("the shapes are %v", shapes)
	}
}

// TestArgShapeFigures gives domains of each shape, for the constant cnat;. with the name nat.
func TestArgShapeFigures(t *testing.T) {
	figures := []struct {
		shape   int
		domains []string
	}{
		// Without the name.
		{impl.ArNone, []string{"sz.", "su2.", "v0.", "v999.", "ca;.", "ca;z,u0,u1,.", "@v0.v1.", "@ca;.cb;.", "lsz.v0.", "tsz.v0.v1.", "psz.v0.", "psz.pv0.v1.", "pca;.cb;.", "ppsz.v0.ca;."}},
		// Other names that only begin like it, continue it or contain it.
		{impl.ArNone, []string{"cnat.zero;.", "cnat.rec;z,.", "cnats;.", "cna;.", "cat;.", "ca.nat;.", "ccnat;.", "cnat0;.", "pcnat.zero;.cnats;.", "@cnat.succ;.cnat.zero;."}},
		// The data type itself, and function types with one and several domains that end in it.
		{impl.ArSelf, []string{"cnat;.", "psz.cnat;.", "pv0.cnat;.", "pca;.cnat;.", "psz.pv0.cnat;.", "pca;.pcb;z,.cnat;.", "psz.psz.psz.psz.cnat;.", "ppsz.v0.cnat;.", "ppca;.cb;.ppcb;.ca;.cnat;.", "p@ca;.v0.pv1.cnat;.", "plsz.v0.ptsz.v0.v1.cnat;.", "pcnat.zero;.pcnats;.cnat;.", strings.Repeat("pv998.", 300) + "cnat;."}},
		// The name in a domain of the argument, first, last, alone and repeated.
		{impl.ArBad, []string{"pcnat;.cnat;.", "pcnat;.sz.", "pcnat;.ca;.", "psz.pcnat;.cnat;.", "pcnat;.psz.cnat;.", "psz.pcnat;.v0.", "pcnat;.pcnat;.cnat;.", "pca;.pcb;.pcnat;.pcc;.cnat;.", "pcnat;z,.cnat;.", "p@ca;.cnat;.cnat;.", "p@cnat;.ca;.sz.", "plcnat;.v0.cnat;.", "plsz.cnat;.cnat;.", "ptsz.cnat;.v0.cnat;.", "ptcnat;.v0.v0.cnat;.", "ptsz.v0.cnat;.cnat;.", strings.Repeat("pv998.", 300) + "pcnat;.cnat;."}},
		// In a domain of such a domain, and as the target of such a domain.
		{impl.ArBad, []string{"ppcnat;.sz.cnat;.", "ppcnat;.cnat;.cnat;.", "ppcnat;.sz.sz.", "ppsz.cnat;.cnat;.", "ppsz.cnat;.sz.", "psz.ppcnat;.v0.cnat;.", "pppcnat;.sz.sz.cnat;.", "pppsz.cnat;.sz.cnat;.", "pppsz.cnat;.sz.sz.", "ppsz.ppcnat;.v0.v1.cnat;."}},
		// In the target, but not as the target: applied, as an argument, with other levels, and in all other forms.
		{impl.ArBad, []string{"@cnat;.sz.", "@@cnat;.sz.v0.", "psz.@cnat;.v0.", "@ca;.cnat;.", "@v0.cnat;.", "psz.@v0.cnat;.", "@cnat;.cnat;.", "@@ca;.cnat;.v0.", "cnat;z,.", "cnat;u0,.", "psz.cnat;z,.", "psz.psz.cnat;z,z,z,.", "lsz.cnat;.", "lcnat;.v0.", "psz.lsz.cnat;.", "tsz.sz.cnat;.", "tcnat;.v0.v1.", "tsz.cnat;.v0.", "psz.tsz.sz.cnat;.", "@psz.cnat;.sz.", "@sz.psz.cnat;.", "lsz.psz.cnat;.", "tsz.sz.psz.cnat;."}},
		// Domains that are not terms, with and without the name, and an empty one.
		{impl.ArBad, []string{"", "nat", "cnat;", "cnat", "cnat;.cnat;.", "psz.", "pcnat;.", "psz.cnat;.sz.", "p", "v1000.", "v01.", "pv1000.cnat;.", "pszz.cnat;.", "psu3.cnat;.", " cnat;.", "cnat;. ", "cNAT;.", "psz.cnat;", "\x00", "\xff"}},
		{impl.ArBad, someNoTerms()},
	}
	for _, f := range figures {
		for _, domain := range f.domains {
			checkShape(t, "cnat;.", "nat", domain, f.shape)
			checkWantShape(t, "cnat;.", "nat", domain)
		}
	}
}

// TestArgShapeSelf checks a self that is not the constant with the name; only its text matters.
func TestArgShapeSelf(t *testing.T) {
	figures := []struct {
		self   string
		name   string
		domain string
		shape  int
	}{
		// With levels, which have to be the same.
		{"cbox;u0,.", "box", "cbox;u0,.", impl.ArSelf}, {"cbox;u0,.", "box", "psz.cbox;u0,.", impl.ArSelf}, {"cbox;u0,u1,.", "box", "pca;u1,.cbox;u0,u1,.", impl.ArSelf}, {"cbox;z,.", "box", "cbox;z,.", impl.ArSelf},
		{"cbox;u0,.", "box", "cbox;u1,.", impl.ArBad}, {"cbox;u0,.", "box", "cbox;z,.", impl.ArBad}, {"cbox;u0,.", "box", "cbox;.", impl.ArBad}, {"cbox;u0,.", "box", "cbox;u0,u1,.", impl.ArBad}, {"cbox;u0,u1,.", "box", "cbox;u1,u0,.", impl.ArBad}, {"cbox;u0,.", "box", "psz.cbox;+u0,.", impl.ArBad}, {"cbox;u0,.", "box", "cbox;mu0z,.", impl.ArBad}, {"cbox;u0,.", "box", "pcbox;z,.cbox;u0,.", impl.ArBad}, {"cbox;u0,.", "box", "pcbox;u0,.cbox;u0,.", impl.ArBad},
		// Another constant, with and without the name in the domain.
		{"cint;.", "nat", "cnat;.", impl.ArBad}, {"cint;.", "nat", "cint;.", impl.ArNone}, {"cint;.", "nat", "psz.cnat;.", impl.ArBad}, {"cint;.", "nat", "pcnat;.cint;.", impl.ArBad}, {"cint;.", "nat", "psz.cint;.", impl.ArNone}, {"cnat;.", "int", "cnat;.", impl.ArNone}, {"cnat;.", "int", "pcint;.cnat;.", impl.ArBad}, {"cnat.zero;.", "nat", "cnat;.", impl.ArBad}, {"cnat.zero;.", "nat", "cnat.zero;.", impl.ArNone},
		// Other terms.
		{"v0.", "nat", "v0.", impl.ArNone}, {"v0.", "nat", "cnat;.", impl.ArBad}, {"v0.", "nat", "pcnat;.v0.", impl.ArBad}, {"sz.", "nat", "psz.sz.", impl.ArNone}, {"@cnat;.sz.", "nat", "@cnat;.sz.", impl.ArSelf}, {"@cnat;.sz.", "nat", "psz.@cnat;.sz.", impl.ArSelf}, {"@cnat;.sz.", "nat", "pcnat;.@cnat;.sz.", impl.ArBad}, {"@cnat;.sz.", "nat", "@cnat;.v0.", impl.ArBad}, {"@cnat;.cnat;.", "nat", "psz.@cnat;.cnat;.", impl.ArSelf}, {"lsz.cnat;.", "nat", "lsz.cnat;.", impl.ArSelf}, {"lcnat;.v0.", "nat", "psz.lcnat;.v0.", impl.ArSelf}, {"tsz.sz.cnat;.", "nat", "tsz.sz.cnat;.", impl.ArSelf},
		// A function type is never the target.
		{"psz.cnat;.", "nat", "psz.cnat;.", impl.ArBad}, {"psz.cnat;.", "nat", "cnat;.", impl.ArBad}, {"psz.cnat;.", "nat", "psz.psz.cnat;.", impl.ArBad}, {"psz.v0.", "nat", "psz.v0.", impl.ArNone},
		// No term.
		{"", "nat", "", impl.ArBad}, {"", "nat", "cnat;.", impl.ArBad}, {"", "nat", "sz.", impl.ArNone}, {"nat", "nat", "nat", impl.ArBad}, {"nat", "nat", "cnat;.", impl.ArBad}, {"cnat;", "nat", "cnat;", impl.ArBad}, {"cnat;", "nat", "cnat;.", impl.ArBad}, {"cnat;.x", "nat", "cnat;.", impl.ArBad}, {"cnat;.x", "nat", "cnat;.x", impl.ArBad}, {" cnat;.", "nat", "cnat;.", impl.ArBad}, {"v1000.", "nat", "v1000.", impl.ArBad}, {"\xff", "nat", "sz.", impl.ArNone},
		// A name that is no name occurs nowhere.
		{"cnat;.", "", "cnat;.", impl.ArNone}, {"cnat;.", "", "", impl.ArBad}, {"", "", "", impl.ArBad}, {"", "", "sz.", impl.ArNone}, {"cnat;.", "cnat;.", "cnat;.", impl.ArNone}, {"cnat;.", "nat;", "pcnat;.cnat;.", impl.ArNone}, {"cnat;.", " nat", "cnat;.", impl.ArNone}, {"cnat;.", "na", "pcnat;.cnat;.", impl.ArNone}, {"cnat;.", "NAT", "cnat;.", impl.ArNone}, {"su0.", "u0", "su0.", impl.ArNone}, {"cnat;.", "nat.", "cnat;.", impl.ArNone}, {"cnat;.", "\xff", "cnat;.", impl.ArNone},
	}
	for _, f := range figures {
		checkShape(t, f.self, f.name, f.domain, f.shape)
		checkWantShape(t, f.self, f.name, f.domain)
	}
}

// TestArgShapeEachPlace puts the name into each part of each form: only at the end of function types it is allowed.
func TestArgShapeEachPlace(t *testing.T) {
	everyPlace(4, func(before string, after string, _ int) {
		want := impl.ArBad
		if strings.Trim(before, "psz.") == "" && after == "" {
			want = impl.ArSelf
		}
		checkShape(t, "cnat;.", "nat", before+"cnat;."+after, want)
		checkShape(t, "cnat;.", "nat", before+"cnat;z,."+after, impl.ArBad)
		checkShape(t, "cnat;.", "nat", before+"@cnat;.sz."+after, impl.ArBad)
		checkShape(t, "cnat;.", "nat", before+"cint;."+after, impl.ArNone)
		checkShape(t, "cnat;.", "nat", "p"+before+"cint;."+after+"cnat;.", impl.ArSelf)
		checkShape(t, "cnat;.", "nat", "p"+before+"cnat;."+after+"cnat;.", impl.ArBad)
		checkShape(t, "cnat;.", "nat", "p"+before+"cnat;."+after+"cint;.", impl.ArBad)
		checkShape(t, "cnat;.", "nat", "@"+before+"cint;."+after+"cnat;.", impl.ArBad)
		checkShape(t, "cnat;.", "nat", before+"cnat;"+after, impl.ArBad)
	})
}

// termsWith returns the terms of all forms with exactly size terms in them and these leaves.
func termsWith(size int, leaves []string) []string {
	if size == 1 {
		return leaves
	}
	texts := []string{}
	for first := 1; first < size-1; first++ {
		for _, a := range termsWith(first, leaves) {
			for _, b := range termsWith(size-1-first, leaves) {
				texts = append(texts, "@"+a+b, "l"+a+b, "p"+a+b)
			}
			for second := 1; second < size-1-first; second++ {
				for _, b := range termsWith(second, leaves) {
					for _, c := range termsWith(size-1-first-second, leaves) {
						texts = append(texts, "t"+a+b+c)
					}
				}
			}
		}
	}
	return texts
}

func TestArgShapeSmallTerms(t *testing.T) {
	counts := map[int]int{}
	for size := 1; size <= 6; size++ {
		for _, domain := range termsWith(size, []string{"cn;.", "cm;.", "cn;z,."}) {
			counts[checkWantShape(t, "cn;.", "n", domain)]++
			checkWantShape(t, "cn;z,.", "n", domain)
			checkWantShape(t, "cn;.", "m", domain)
			checkWantShape(t, "@cn;.cm;.", "n", domain)
		}
	}
	if counts[0] < 20 || counts[1] < 5 || counts[2] < 1000 {
		t.Errorf("the shapes occur %v times", counts)
	}
}

func TestArgShapeEveryShortText(t *testing.T) {
	everyText("cn;.psz", 6, func(domain string) {
		if got, want := impl.ArgShape("cn;.", "n", domain), wantShape("cn;.", "n", domain); got != want {
			t.Errorf("ArgShape of %q = %d, want %d", domain, got, want)
		}
	})
}

// TestArgShapeTermLimits checks domains of each shape with exactly the greatest number of bytes, and with one more.
func TestArgShapeTermLimits(t *testing.T) {
	for _, size := range []int{1990, 1998, 1999, 2000, 2001, 2002, 5000} {
		shapes := []int{0, 1, 1, 2, 2, 2}
		domains := []string{
			plainText(size), "p" + plainText(size-7) + "cnat;.", "psz.p" + plainText(size-11) + "cnat;.",
			filledUp("cnat;.", size), "pcnat;." + plainText(size-7), "p" + plainText(size-11) + "pcnat;.v0.",
		}
		for at, domain := range domains {
			if size > 2000 {
				shapes[at] = 2
			}
			if len(domain) != size {
				t.Fatalf("a domain has %d bytes instead of %d", len(domain), size)
			}
			checkShape(t, "cnat;.", "nat", domain, shapes[at])
			checkWantShape(t, "cnat;.", "nat", domain)
		}
	}
	// As many domains and as deep ones as there can be.
	checkShape(t, "cn;.", "n", strings.Repeat("psz.", 499)+"cn;.", impl.ArSelf)
	checkShape(t, "cn;.", "n", strings.Repeat("psz.", 498)+"pcn;.sz.", impl.ArBad)
	checkShape(t, "cn;.", "n", strings.Repeat("psz.", 500)+"cn;.", impl.ArBad)
	checkShape(t, "cn;.", "n", strings.Repeat("p", 497)+strings.Repeat("sz.", 497)+"cn;.", impl.ArSelf)
	checkShape(t, "cn;.", "n", strings.Repeat("p", 497)+"cn;."+strings.Repeat("sz.", 497), impl.ArBad)
	checkShape(t, "cn;.", "n", strings.Repeat("p", 497)+"cn;."+strings.Repeat("sz.", 496)+"cn;.", impl.ArBad)
	checkShape(t, "cn;.", "n", strings.Repeat("p", 1000000), impl.ArBad)
	checkShape(t, strings.Repeat("cn;.", 100000), strings.Repeat("n", 100000), "cn;.", impl.ArNone)
	checkShape(t, strings.Repeat("cn;.", 100000), "n", "cn;.", impl.ArBad)
}

// TestShapesFigures gives the results of some data types in full.
func TestShapesFigures(t *testing.T) {
	list := impl.Decl{Kind: impl.DkData, Name: "list", Params: 1, Type: "s+u0.", Ctors: []impl.Ctor{{Name: "list.nil", Type: "clist;u0,."}, {Name: "list.cons", Type: "psu0.pclist;u0,.clist;u0,."}}}
	ord := impl.Decl{Kind: impl.DkData, Name: "ord", Type: "s+z.", Ctors: []impl.Ctor{{Name: "ord.zero", Type: "cord;."}, {Name: "ord.lim", Type: "ppcnat;.cord;.cord;."}}}
	bad := impl.Decl{Kind: impl.DkData, Name: "bad", Type: "sz.", Flags: impl.FlNoPos, Ctors: []impl.Ctor{{Name: "bad.mk", Type: "ppcbad;.sz.cbad;."}}}
	figures := []struct {
		d    impl.Decl
		want shapeWants
	}{
		{natData(), shapeWants{[][]int{{}, {1}}, []bool{true, true}, true, true}},
		{boxData(), shapeWants{[][]int{{0}}, []bool{true}, true, true}},
		{list, shapeWants{[][]int{{}, {0, 1}}, []bool{true, true}, true, true}},
		{ord, shapeWants{[][]int{{}, {1}}, []bool{true, true}, true, true}},
		{bad, shapeWants{[][]int{{2}}, []bool{true}, false, false}},
		// The data type in the domain of an argument, in the argument and in the target of an argument.
		{dataWith("ppcnat;.cnat;.cnat;."), shapeWants{[][]int{{2}}, []bool{true}, false, true}},
		{dataWith("pcnat;.pcnat;.cnat;."), shapeWants{[][]int{{1, 1}}, []bool{true}, true, true}},
		{dataWith("ppsz.cnat;.cnat;."), shapeWants{[][]int{{1}}, []bool{true}, true, true}},
		// Several arguments, in order.
		{dataWith("psz.pcnat;.pv1.ppcnat;.v2.ppv3.cnat;.cnat;."), shapeWants{[][]int{{0, 1, 0, 2, 1}}, []bool{true}, false, true}},
		{dataWith("ppcnat;.sz.pcnat;.pca;.sz."), shapeWants{[][]int{{2, 1, 0}}, []bool{false}, false, true}},
		// One constructor among several.
		{dataWith("cnat;.", "pcnat;.cnat;.", "psz.p@cnat;.v0.cnat;.", "sz."), shapeWants{[][]int{{}, {1}, {0, 2}, {}}, []bool{true, true, true, false}, false, true}},
		// Without constructors.
		{impl.Decl{Kind: impl.DkData, Name: "false", Type: "sz."}, shapeWants{nil, nil, true, false}},
		{impl.Decl{Kind: impl.DkData, Name: "empty", Type: "s+z."}, shapeWants{nil, nil, true, true}},
		// No data types.
		{emAxiom(), shapeWants{}}, {idDef(), shapeWants{}}, {oneTheorem(), shapeWants{}}, {impl.Decl{}, shapeWants{}},
		{impl.Decl{Kind: impl.DkAxiom, Name: "a", Type: "s+z."}, shapeWants{}}, {impl.Decl{Kind: impl.DkDef, Name: "a", Type: "s+z.", Value: "s+z."}, shapeWants{}}, {impl.Decl{Kind: impl.DkTheorem, Name: "a", Type: "s+z.", Value: "s+z."}, shapeWants{}},
	}
	for _, f := range figures {
		checkShapeWants(t, f.d, f.want)
		checkDataShapes(t, f.d, len(f.want.shapes) > 0 || f.want.positive)
	}
}

// TestShapesOfOtherKinds gives each declaration each kind.
func TestShapesOfOtherKinds(t *testing.T) {
	decls := append(someDecls(), dataWith(), dataWith("pcnat;.cnat;."), dataWith("ppcnat;.sz.cnat;."))
	for _, kind := range []int{math.MinInt, -1 << 32, -4, -1, 0, 1, 2, 3, 4, 5, 8, 256 + 4, 1<<32 + 4, math.MaxInt} {
		for _, d := range decls {
			isData := d.Kind == impl.DkData && kind == impl.DkData
			d.Kind = kind
			checkDataShapes(t, d, isData)
			d.Type, d.Value = "s+z.", ""
			checkDataShapes(t, d, kind == impl.DkData)
		}
	}
}

// brokenData returns declarations that are no valid data types, each of which differs in one part from d, which is one.
func brokenData(d impl.Decl) []impl.Decl {
	broken := []impl.Decl{}
	for _, change := range []func(*impl.Decl){
		func(d *impl.Decl) { d.Kind = 0 },
		func(d *impl.Decl) { d.Name = "" },
		func(d *impl.Decl) { d.Name = "A" },
		func(d *impl.Decl) { d.Name += "." },
		func(d *impl.Decl) { d.Name = strings.Repeat("a", 37) },
		func(d *impl.Decl) { d.Params = -1 },
		func(d *impl.Decl) { d.Params = 3 },
		func(d *impl.Decl) { d.Params = math.MaxInt },
		func(d *impl.Decl) { d.Flags = -1 },
		func(d *impl.Decl) { d.Flags = impl.FlUnsafe },
		func(d *impl.Decl) { d.Flags = 8 },
		func(d *impl.Decl) { d.Type = "" },
		func(d *impl.Decl) { d.Type = "s+z" },
		func(d *impl.Decl) { d.Type = "su1." },
		func(d *impl.Decl) { d.Type = "s+u2." },
		func(d *impl.Decl) { d.Type = "cnat;." },
		func(d *impl.Decl) { d.Type = "psz.s+z." },
		func(d *impl.Decl) { d.Type = "lsz.s+z." },
		func(d *impl.Decl) { d.Type = "s" + strings.Repeat("+", 60) + "z." },
		func(d *impl.Decl) { d.Value = "sz." },
		func(d *impl.Decl) { d.Ctors = append(d.Ctors, impl.Ctor{}) },
		func(d *impl.Decl) { d.Ctors = append(d.Ctors, impl.Ctor{Name: d.Name + ".rec", Type: "sz."}) },
		func(d *impl.Decl) { d.Ctors = append(d.Ctors, impl.Ctor{Name: d.Name + ".x", Type: "v0."}) },
		func(d *impl.Decl) { d.Ctors = append(d.Ctors, impl.Ctor{Name: d.Name + ".x", Type: "su2."}) },
		func(d *impl.Decl) { d.Ctors = append(d.Ctors, impl.Ctor{Name: d.Name + ".x"}) },
		func(d *impl.Decl) { d.Ctors = append(d.Ctors, ctorsFor(d.Name+".x", d.Name+".x")...) },
		func(d *impl.Decl) { d.Ctors = append(d.Ctors, ctorsFor("other.x")...) },
		func(d *impl.Decl) { d.Ctors = slices.Repeat(ctorsFor(d.Name+".x"), 7) },
		func(d *impl.Decl) { d.Ctors = make([]impl.Ctor, 50) },
	} {
		changed := d
		changed.Ctors = slices.Clone(d.Ctors)
		change(&changed)
		broken = append(broken, changed)
	}
	return broken
}

// TestShapesOfInvalidDeclarations changes one part of data types that are positive and large.
func TestShapesOfInvalidDeclarations(t *testing.T) {
	for _, d := range []impl.Decl{natData(), boxData(), dataWith()} {
		checkDataShapes(t, d, true)
		for _, changed := range brokenData(d) {
			checkDataShapes(t, changed, false)
		}
	}
	many := dataWith()
	many.Ctors = make([]impl.Ctor, 1000000)
	if len(impl.ShapesOf(many, 999999)) > 0 || impl.ResultOk(many, 999999) || impl.Positive(many) || impl.LargeOk(many) {
		t.Errorf("a declaration with %d constructors without names is valid", len(many.Ctors))
	}
}

// TestShapesOfEachNumberOfArguments puts an argument of each shape at each place among arguments of each shape.
func TestShapesOfEachNumberOfArguments(t *testing.T) {
	domains := []string{"ca;.", "psz.cnat;.", "pcnat;.sz."}
	for count := range 6 {
		for other, rest := range domains {
			for at := range count {
				for shape, domain := range domains {
					texts, shapes := slices.Repeat([]string{rest}, count), slices.Repeat([]int{other}, count)
					texts[at], shapes[at] = domain, shape
					positive := !slices.Contains(shapes, 2)
					d := dataWith("cnat;.", "p"+strings.Join(texts, "p")+"cnat;.")
					checkShapeWants(t, d, shapeWants{[][]int{{}, shapes}, []bool{true, true}, positive, true})
				}
			}
		}
	}
	many := dataWith(strings.Repeat("psz.", 200) + strings.Repeat("pcnat;.", 100) + strings.Repeat("ppsz.cnat;.", 40) + "cnat;.")
	checkShapeWants(t, many, shapeWants{[][]int{slices.Concat(make([]int, 200), slices.Repeat([]int{1}, 140))}, []bool{true}, true, true})
}

// TestPositiveEachConstructor has one constructor with a bad argument, or none, among up to six.
func TestPositiveEachConstructor(t *testing.T) {
	good := []string{"cnat;.", "psz.cnat;.", "pcnat;.cnat;.", "psz.ppv0.cnat;.cnat;.", "sz.", "pcnat;.ca;."}
	bad := []string{"ppcnat;.cnat;.cnat;.", "p@cnat;.sz.cnat;.", "pcnat;z,.cnat;.", "pcnat;.pcnat;.ppppcnat;.sz.sz.v2.cnat;."}
	for count := range 7 {
		types := slices.Clone(good[:count])
		checkDataShapes(t, dataWith(types...), true)
		if !impl.Positive(dataWith(types...)) {
			t.Errorf("Positive with the constructors %q = false", types)
		}
		for at := range count {
			for _, text := range bad {
				changed := slices.Clone(types)
				changed[at] = text
				for _, flags := range []int{0, impl.FlNoUniv, impl.FlNoPos, impl.FlNoUniv + impl.FlNoPos} {
					// What is allowed by a flag is not positive.
					d := dataWith(changed...)
					d.Flags = flags
					checkDataShapes(t, d, true)
					if impl.Positive(d) {
						t.Errorf("Positive with the constructors %q = true", changed)
					}
				}
			}
		}
	}
}

// TestPositiveLooksAtArgumentsOnly checks types of constructors that have the name beside their arguments.
func TestPositiveLooksAtArgumentsOnly(t *testing.T) {
	for _, text := range []string{"cnat;.", "@cnat;.sz.", "@ca;.cnat;.", "cnat;z,.", "lcnat;.v0.", "lsz.cnat;.", "tcnat;.cnat;.v0.", "psz.@cnat;.v0.", "psz.lcnat;.v0.", "lpcnat;.sz.pcnat;.sz.", "@ppcnat;.sz.cnat;.sz.", "tsz.sz.ppcnat;.sz.cnat;."} {
		d := dataWith(text)
		checkDataShapes(t, d, true)
		if !impl.Positive(d) {
			t.Errorf("Positive with the constructor %q = false", text)
		}
	}
}

func TestResultOkFigures(t *testing.T) {
	figures := []struct {
		params int
		ok     []string
		other  []string
	}{
		// Another constant, an application, other levels and other forms.
		{0, []string{"cbox;.", "psz.cbox;.", "pcbox;.cbox;.", "ppcbox;.sz.cbox;.", "psz.pv0.pv1.cbox;."}, []string{"ca;.", "cbox.x;.", "cboxes;.", "@cbox;.sz.", "@cbox;.cbox;.", "@ca;.cbox;.", "psz.@cbox;.v0.", "cbox;z,.", "psz.cbox;z,.", "sz.", "s+z.", "psz.v0.", "pcbox;.sz.", "psz.psz.ca;.", "lsz.cbox;.", "tsz.sz.cbox;.", "psz.lsz.cbox;.", "lsz.psz.cbox;.", "@psz.cbox;.sz."}},
		{1, []string{"cbox;u0,.", "psz.cbox;u0,.", "pcbox;z,.cbox;u0,."}, []string{"cbox;.", "cbox;z,.", "cbox;+u0,.", "cbox;mzu0,.", "cbox;mu0u0,.", "cbox;u0,u0,.", "cbox;z,u0,.", "psz.cbox;z,.", "pcbox;u0,.cbox;z,.", "@cbox;u0,.su0.", "ca;u0,.", "cbox.x;u0,."}},
		{2, []string{"cbox;u0,u1,.", "psu1.psu0.cbox;u0,u1,."}, []string{"cbox;.", "cbox;u0,.", "cbox;u1,.", "cbox;u1,u0,.", "cbox;u0,u0,.", "cbox;u0,u1,z,.", "cbox;u0,u1,u1,.", "cbox;z,u1,.", "cbox;u0,z,."}},
	}
	for _, f := range figures {
		for at, text := range append(slices.Clone(f.ok), f.other...) {
			d := impl.Decl{Kind: impl.DkData, Name: "box", Params: f.params, Type: "sz.", Ctors: []impl.Ctor{{Name: "box.x", Type: text}, {Name: "box.y", Type: "sz."}}}
			checkDataShapes(t, d, true)
			if got := impl.ResultOk(d, 0); got != (at < len(f.ok)) {
				t.Errorf("ResultOk with %d parameters for %q = %v", f.params, text, got)
			}
			d.Ctors[0], d.Ctors[1] = d.Ctors[1], d.Ctors[0]
			if got := impl.ResultOk(d, 1); got != (at < len(f.ok)) || impl.ResultOk(d, 0) {
				t.Errorf("ResultOk with %d parameters for %q as the last constructor = %v", f.params, text, got)
			}
		}
	}
}

func TestLargeOkFigures(t *testing.T) {
	figures := []struct {
		params int
		above  []string
		other  []string
	}{
		{0, []string{"+z", "++z", "m+zz", "mz+z", "i+z+z", "iz+z", "+mzz", "+izz", "+i+zz", strings.Repeat("+", 59) + "z"}, []string{"z", "mzz", "izz", "i+zz", "i++zz", "mzi+zz", "imz+zz", "m" + strings.Repeat("iz", 28) + "zz"}},
		{1, []string{"+u0", "m+zu0", "mu0+z", "iu0+z", "iz+u0", "+iu0u0", "+i+u0u0", "mu0+u0"}, []string{"u0", "mu0z", "mu0u0", "iu0z", "i+u0u0", "i+zu0", "i+zi+zu0", "imu0+zu0", "mu0i+zu0"}},
		{2, []string{"+mu0u1", "+iu0u1", "m+u0u1", "mu0+u1", "iu0+u1", "m+u1u0", "iu1m+zu0"}, []string{"u1", "mu0u1", "iu0u1", "i+u0u1", "i++u0u1", "mu0i+zu1", "i+zmu0u1", "mi+zu0i+zu1"}},
	}
	for _, f := range figures {
		for at, level := range append(slices.Clone(f.above), f.other...) {
			for _, ctors := range [][]impl.Ctor{nil, ctorsFor("nat.a"), {{Name: "nat.bad", Type: "ppcnat;.sz.sz."}}} {
				d := impl.Decl{Kind: impl.DkData, Name: "nat", Params: f.params, Type: "s" + level + ".", Ctors: ctors}
				checkDataShapes(t, d, true)
				if got := impl.LargeOk(d); got != (at < len(f.above)) {
					t.Errorf("LargeOk with the level %q = %v", level, got)
				}
				d.Kind, d.Ctors = impl.DkAxiom, nil
				checkDataShapes(t, d, false)
			}
		}
	}
}

// TestLargeOkEveryShortLevel compares with the least value of each level; levels beyond the parameters are not valid.
func TestLargeOkEveryShortLevel(t *testing.T) {
	for _, level := range levelsUpTo(6) {
		for params := range 4 {
			d := impl.Decl{Kind: impl.DkData, Name: "a", Params: params, Type: "s" + level + "."}
			valid := params < 3 && wantParams(d.Type) <= params
			if got := impl.LargeOk(d); got != (valid && wantAbove(level)) {
				t.Errorf("LargeOk with %d parameters and the level %q = %v", params, level, got)
			}
			if got := impl.Positive(d); got != valid {
				t.Errorf("Positive with %d parameters and the level %q = %v", params, level, got)
			}
		}
	}
}

// shapedDomain returns a domain with this name in some of its parts, under up to most function types.
func shapedDomain(source *rand.Rand, name string, params int, most int) string {
	self := constantTree(name, selfParams[:params]...).text
	switch choice := source.Intn(12); {
	case most > 0 && choice < 3:
		return "p" + shapedDomain(source, name, params, 0) + shapedDomain(source, name, params, most-1)
	case most > 0 && choice < 6:
		return "pca;." + shapedDomain(source, name, params, most-1)
	case choice < 8:
		return self
	case choice == 8:
		return []string{"@" + self + "sz.", "@ca;." + self, "c" + name + ";z,z,z,.", "lsz." + self, "p" + self + "sz."}[source.Intn(5)]
	}
	return []string{"sz.", "ca;.", "c" + name + "0;.", "@ca;.cb;.", "psz.v0."}[source.Intn(5)]
}

// shapedDecl returns a valid data type that mostly contains its own name.
func shapedDecl(source *rand.Rand) impl.Decl {
	d := impl.Decl{Kind: 4, Name: []string{"n", "a.nat", "c.c.c"}[source.Intn(3)], Params: source.Intn(3), Flags: 2 * source.Intn(4)}
	d.Type = closedAt("s"+randomLevel(source, 1+source.Intn(8))+".", d.Params)
	for at := range source.Intn(5) {
		text := ""
		for range source.Intn(4) {
			text += "p" + shapedDomain(source, d.Name, d.Params, 3)
		}
		text += shapedDomain(source, d.Name, d.Params, 0)
		d.Ctors = append(d.Ctors, impl.Ctor{Name: d.Name + "." + string(rune('a'+at)), Type: text})
	}
	return d
}

// occurrences returns how often a constant with this name is in one of the terms.
func occurrences(texts []string, name string) int {
	count := 0
	for _, text := range texts {
		for _, at := range spotsOf(text) {
			if at.leaf.name == name {
				count++
			}
		}
	}
	return count
}

// TestConstructorsOfPositiveDataUseItOnlyWhereTheyMay checks promise 10 with random declarations.
func TestConstructorsOfPositiveDataUseItOnlyWhereTheyMay(t *testing.T) {
	source := rand.New(rand.NewSource(10))
	positive, used := 0, 0
	for range 6000 {
		d := shapedDecl(source)
		checkDataShapes(t, d, true)
		if impl.Positive(d) {
			positive++
			for k, c := range d.Ctors {
				// In the arguments of a positive data type, the name is at the end of those that are ArSelf, and nowhere else.
				self := 0
				for _, shape := range impl.ShapesOf(d, k) {
					self += shape
				}
				domains, _ := wantDomainsAndTarget(c.Type)
				if got := occurrences(domains, d.Name); got != self {
					t.Errorf("the name is %d times in the domains of %q, of which %d may have it", got, c.Type, self)
				}
				used += self
			}
		}
		changed := damaged(source, d)
		checkShapeWants(t, changed, wantsOfShapes(changed))
	}
	if positive < 1000 || positive > 5000 || used < 500 {
		t.Errorf("%d positive data types, which use themselves %d times", positive, used)
	}
}

// TestShapesOfRandomDeclarations checks declarations of all kinds, and some that are not valid.
func TestShapesOfRandomDeclarations(t *testing.T) {
	source := rand.New(rand.NewSource(100))
	for range 1500 {
		d := randomDecl(source)
		checkDataShapes(t, d, d.Kind == impl.DkData)
		changed := damaged(source, d)
		checkShapeWants(t, changed, wantsOfShapes(changed))
	}
}

func TestShapesLeaveSpareCapacity(t *testing.T) {
	backing := []impl.Ctor{{Name: "nat.a", Type: "cnat;."}, {Name: "nat.b", Type: "pcnat;.cnat;."}, {Name: "nat.c", Type: "ppcnat;.sz.cnat;."}, {Name: "spare", Type: "spare"}}
	kept := slices.Clone(backing)
	for size := range len(backing) + 1 {
		d := dataWith()
		d.Ctors = backing[:size]
		// A constructor in the spare capacity is none.
		checkDataShapes(t, d, size < len(backing))
	}
	if !slices.Equal(backing, kept) {
		t.Errorf("the memory of the constructors was changed: %q", backing)
	}
}

func TestShapeResultsAreNewMemory(t *testing.T) {
	d := dataWith("cnat;.", "psz.pcnat;.ppcnat;.sz.cnat;.")
	first, second := impl.ShapesOf(d, 1), impl.ShapesOf(d, 1)
	for at := range first {
		first[at] = 9
	}
	first = append(first[:0], 8, 8, 8)
	if want := []int{0, 1, 2}; !slices.Equal(second, want) || !slices.Equal(impl.ShapesOf(d, 1), want) {
		t.Errorf("a result that was changed to %v changed another one to %v", first, second)
	}
	d.Ctors[1].Type = "cnat;."
	if !slices.Equal(second, []int{0, 1, 2}) {
		t.Errorf("a changed declaration changed a result to %v", second)
	}
}
