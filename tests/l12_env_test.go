package tests

import (
	"math/rand"
	"reflect"
	"slices"
	"strconv"
	"strings"
	"testing"

	"loop.example/g00963/impl"
)

// found holds what FoundIn returns.
type found struct {
	kind, entry, ctor int
}

// wantFound is an independent description of FoundIn.
func wantFound(env []impl.Entry, name string) found {
	for index, entry := range env {
		d := entry.Decl
		if !wantDeclOk(d) {
			continue
		}
		if name == d.Name {
			return found{d.Kind, index, 0}
		}
		if d.Kind == 4 && name == d.Name+".rec" {
			return found{6, index, 0}
		}
		for k, c := range d.Ctors {
			if name == c.Name {
				return found{5, index, k}
			}
		}
	}
	return found{0, -1, 0}
}

// nameWants holds what the other functions return for a name; the texts are "" where there is no result.
type nameWants struct {
	found    found
	levels   int
	typeText string
	value    string
}

// wantsOfName is an independent description of all functions but Known.
func wantsOfName(env []impl.Entry, name string, levels []string) nameWants {
	want := nameWants{found: wantFound(env, name), levels: -1}
	if want.found.kind == 0 {
		return want
	}
	d := env[want.found.entry].Decl
	want.levels, want.typeText = d.Params, d.Type
	switch want.found.kind {
	case 2:
		want.value = d.Value
	case 5:
		want.typeText = d.Ctors[want.found.ctor].Type
	case 6:
		rec := wantsOfRecursor(d)
		want.levels, want.typeText = rec.levels, rec.whole
	}
	if len(levels) != want.levels {
		want.typeText, want.value = "", ""
	}
	want.typeText, _ = wantTermLevels(want.typeText, levels)
	want.value, _ = wantTermLevels(want.value, levels)
	return want
}

// wantKnown is an independent description of Known.
func wantKnown(env []impl.Entry) []string {
	known := []string{}
	for _, entry := range env {
		for _, name := range wantsOf(entry.Decl).names {
			if !slices.Contains(known, name) {
				known = append(known, name)
			}
		}
	}
	slices.Sort(known)
	return known
}

func entriesOf(decls ...impl.Decl) []impl.Entry {
	env := []impl.Entry{}
	for _, d := range decls {
		env = append(env, impl.Entry{Decl: d})
	}
	return env
}

// copyOf returns entries that share no list with env.
func copyOf(env []impl.Entry) []impl.Entry {
	env = slices.Clone(env)
	for at, entry := range env {
		env[at].Decl.Ctors = slices.Clone(entry.Decl.Ctors)
		env[at].Labels = slices.Clone(entry.Labels)
	}
	return env
}

// stringsIn returns all strings of the entries.
func stringsIn(env []impl.Entry) []string {
	list := []string{}
	for _, entry := range env {
		list = append(list, stringsOf(entry.Decl)...)
		for _, l := range entry.Labels {
			list = append(list, l.Name)
		}
	}
	return list
}

// checkNameWants checks all functions but Known, and that they neither change their arguments nor return their memory.
func checkNameWants(t *testing.T, env []impl.Entry, name string, levels []string, want nameWants) {
	t.Helper()
	kept, keptLevels := copyOf(env), slices.Clone(levels)
	kind, entry, ctor := impl.FoundIn(env, name)
	if got := (found{kind, entry, ctor}); got != want.found {
		t.Errorf("FoundIn(%.300q, %.60q) = %v, want %v", stringsIn(env), name, got, want.found)
	}
	if got := impl.LevelsFor(env, name); got != want.levels {
		t.Errorf("LevelsFor(%.300q, %.60q) = %d, want %d", stringsIn(env), name, got, want.levels)
	}
	arguments := slices.Concat([]string{name}, levels, stringsIn(env))
	got, ok := impl.TypeFor(env, name, levels)
	checkResult(t, "TypeFor", got, ok, want.typeText, arguments...)
	got, ok = impl.ValueFor(env, name, levels)
	checkResult(t, "ValueFor", got, ok, want.value, arguments...)
	if !reflect.DeepEqual(env, kept) || !slices.Equal(levels, keptLevels) {
		t.Errorf("the entries %.300q or the levels %.100q were changed", stringsIn(kept), keptLevels)
	}
}

// checkName checks a name of which the test itself finds out the results, and returns these.
func checkName(t *testing.T, env []impl.Entry, name string, levels ...string) nameWants {
	t.Helper()
	want := wantsOfName(env, name, levels)
	checkNameWants(t, env, name, levels, want)
	return want
}

func checkKnown(t *testing.T, env []impl.Entry, want []string) {
	t.Helper()
	kept := copyOf(env)
	got := impl.Known(env)
	if !slices.Equal(got, want) {
		t.Errorf("Known(%.300q) = %.300q, want %.300q", stringsIn(env), got, want)
	}
	for _, argument := range stringsIn(env) {
		for _, result := range got {
			checkNewString(t, result, argument)
		}
	}
	if !reflect.DeepEqual(env, kept) {
		t.Errorf("the entries %.300q were changed to %.300q", stringsIn(kept), stringsIn(env))
	}
}

// possibleNames returns the names that the entries have or would have if they were valid, and some that none of them has.
func possibleNames(env []impl.Entry) []string {
	names := []string{"", "rec", ".rec", "nobody", "no.body"}
	for _, entry := range env {
		names = append(names, entry.Decl.Name, entry.Decl.Name+".rec", entry.Decl.Name+".no")
		for _, c := range entry.Decl.Ctors {
			names = append(names, c.Name, c.Name+".rec")
		}
	}
	slices.Sort(names)
	return slices.Compact(names)
}

// checkEntries checks Known, and the other functions for all possible names with lists of each length.
func checkEntries(t *testing.T, env []impl.Entry) {
	t.Helper()
	checkKnown(t, env, wantKnown(env))
	for _, name := range possibleNames(env) {
		for _, levels := range [][]string{nil, {"+u2"}, {"u1", "z"}, {"u1", "mu2z", "u0"}, {"z", "z", "z", "z"}} {
			checkName(t, env, name, levels...)
		}
	}
}

func threeAxiom() impl.Decl {
	return impl.Decl{Kind: impl.DkAxiom, Name: "three", Params: 3, Type: "psu2.psu1.ca;u0,."}
}

func eitherData() impl.Decl {
	self := "ceither;u0,u1,."
	return impl.Decl{Kind: impl.DkData, Name: "either", Params: 2, Type: "s+mu0u1.", Ctors: []impl.Ctor{{Name: "either.left", Type: "psu0." + self}, {Name: "either.right", Type: "psu1." + self}}}
}

func falseData() impl.Decl {
	return impl.Decl{Kind: impl.DkData, Name: "false", Type: "sz."}
}

// badData is not positive, so that there is no type of its recursor.
func badData() impl.Decl {
	return impl.Decl{Kind: impl.DkData, Name: "bad", Flags: impl.FlNoPos, Type: "s+z.", Ctors: []impl.Ctor{{Name: "bad.mk", Type: "ppcbad;.sz.cbad;."}}}
}

// libraryEnv has entries of all kinds, with each number of levels.
func libraryEnv() []impl.Entry {
	return entriesOf(natData(), emAxiom(), idDef(), oneTheorem(), listData(), eitherData(), falseData(), threeAxiom(), badData())
}

func TestEnvConstants(t *testing.T) {
	kinds := []int{impl.EnNone, impl.EnAxiom, impl.EnDef, impl.EnTheorem, impl.EnData, impl.EnCtor, impl.EnRec}
	if !slices.Equal(kinds, []int{0, 1, 2, 3, 4, 5, 6}) {
		t.Errorf("the kinds are %v", kinds)
	}
}

// TestEnvFigures gives the results for the names of a library in full.
func TestEnvFigures(t *testing.T) {
	figures := []struct {
		name   string
		levels []string
		want   nameWants
	}{
		{"nat", nil, nameWants{found{impl.EnData, 0, 0}, 0, "s+z.", ""}},
		{"nat.zero", nil, nameWants{found{impl.EnCtor, 0, 0}, 0, "cnat;.", ""}},
		{"nat.succ", nil, nameWants{found{impl.EnCtor, 0, 1}, 0, "pcnat;.cnat;.", ""}},
		{"nat.rec", []string{"+z"}, nameWants{found{impl.EnRec, 0, 0}, 1, "ppcnat;.s+z.p@v0.cnat.zero;.ppcnat;.p@v2.v0.@v3.@cnat.succ;.v1.pcnat;.@v3.v0.", ""}},
		{"em", []string{"u2"}, nameWants{found{impl.EnAxiom, 1, 0}, 1, "psu2.cor;.", ""}},
		{"id", []string{"+u1"}, nameWants{found{impl.EnDef, 2, 0}, 1, "ps+u1.pv0.v1.", "ls+u1.lv0.v0."}},
		{"one.eq", nil, nameWants{found{impl.EnTheorem, 3, 0}, 0, "@@ceq;.cone;.cone;.", ""}},
		{"list", []string{"z"}, nameWants{found{impl.EnData, 4, 0}, 1, "s+z.", ""}},
		{"list.nil", []string{"z"}, nameWants{found{impl.EnCtor, 4, 0}, 1, "clist;z,.", ""}},
		{"list.cons", []string{"u1"}, nameWants{found{impl.EnCtor, 4, 1}, 1, "psu1.pclist;u1,.clist;u1,.", ""}},
		{"list.rec", []string{"u2", "u0"}, nameWants{found{impl.EnRec, 4, 0}, 2, "ppclist;u2,.su0.p@v0.clist.nil;u2,.ppsu2.pclist;u2,.p@v3.v0.@v4.@@clist.cons;u2,.v2.v1.pclist;u2,.@v3.v0.", ""}},
		{"either", []string{"u1", "u0"}, nameWants{found{impl.EnData, 5, 0}, 2, "s+mu1u0.", ""}},
		{"either.left", []string{"u1", "z"}, nameWants{found{impl.EnCtor, 5, 0}, 2, "psu1.ceither;u1,z,.", ""}},
		{"either.right", []string{"z", "+u0"}, nameWants{found{impl.EnCtor, 5, 1}, 2, "ps+u0.ceither;z,+u0,.", ""}},
		{"either.rec", []string{"z", "+z", "u0"}, nameWants{found{impl.EnRec, 5, 0}, 3, "ppceither;z,+z,.su0.ppsz.@v1.@ceither.left;z,+z,.v0.pps+z.@v2.@ceither.right;z,+z,.v0.pceither;z,+z,.@v3.v0.", ""}},
		{"false", nil, nameWants{found{impl.EnData, 6, 0}, 0, "sz.", ""}},
		{"false.rec", nil, nameWants{found{impl.EnRec, 6, 0}, 0, "ppcfalse;.sz.pcfalse;.@v1.v0.", ""}},
		{"three", []string{"z", "u0", "iu1u2"}, nameWants{found{impl.EnAxiom, 7, 0}, 3, "psiu1u2.psu0.ca;z,.", ""}},
		{"bad", nil, nameWants{found{impl.EnData, 8, 0}, 0, "s+z.", ""}},
		{"bad.mk", nil, nameWants{found{impl.EnCtor, 8, 0}, 0, "ppcbad;.sz.cbad;.", ""}},
		{"bad.rec", []string{"z"}, nameWants{found{impl.EnRec, 8, 0}, 1, "", ""}},
	}
	env := libraryEnv()
	for _, f := range figures {
		checkNameWants(t, env, f.name, f.levels, f.want)
		checkName(t, env, f.name, f.levels...)
		// Entries that have other names only move the index.
		f.want.found.entry++
		checkNameWants(t, append(entriesOf(boxData()), env...), f.name, f.levels, f.want)
	}
	if known := impl.Known(env); len(known) != len(figures) {
		t.Errorf("there are figures for %d of %d names", len(figures), len(known))
	}
	checkEntries(t, env)
}

// TestFoundInNoEntry looks for names that no entry has, some of which are close to one.
func TestFoundInNoEntry(t *testing.T) {
	none := nameWants{found: found{impl.EnNone, -1, 0}, levels: -1}
	near := []string{
		"nat.", ".nat", "na", "nats", "nat.zer", "nat.zeros", "nat.zero.rec", "nat.rec.rec", "nat.re", "nat.recs", "zero", "rec", "succ", "Nat", "nat ", " nat", "nat.succ ", "nat\x00", "cnat;.", "cor;.", "or", "eq", "a",
		"em.rec", "id.rec", "one.eq.rec", "one", "one.rec", "list.zero", "nat.nil", "nat.cons", "false.mk", "either.rec.", "three.rec",
	}
	for _, name := range slices.Concat(near, invalidNames()) {
		for _, env := range [][]impl.Entry{nil, {}, {{}}, entriesOf(threeAxiom()), libraryEnv()} {
			for _, levels := range [][]string{nil, {"z"}, {"z", "z", "z"}} {
				checkNameWants(t, env, name, levels, none)
			}
		}
	}
	for _, name := range append(impl.Known(libraryEnv()), validNames()...) {
		for _, env := range [][]impl.Entry{nil, {}, {{}}, make([]impl.Entry, 50)} {
			checkNameWants(t, env, name, nil, none)
			checkNameWants(t, env, name, []string{"z"}, none)
		}
	}
}

// TestFoundInEachConstructor has data types with each number of constructors.
func TestFoundInEachConstructor(t *testing.T) {
	for count := range impl.MaxCtors + 1 {
		d := dataWith(slices.Repeat([]string{"cnat;."}, count)...)
		// The order of the names does not matter for the index.
		for range count + 1 {
			env := entriesOf(emAxiom(), d, falseData())
			for k, c := range d.Ctors {
				checkNameWants(t, env, c.Name, nil, nameWants{found{impl.EnCtor, 1, k}, 0, "cnat;.", ""})
			}
			checkNameWants(t, env, "nat."+string(rune('a'+count)), nil, nameWants{found: found{impl.EnNone, -1, 0}, levels: -1})
			checkEntries(t, env)
			if count > 0 {
				d.Ctors = append(slices.Clone(d.Ctors[1:]), d.Ctors[0])
			}
		}
	}
}

// declsNamed returns declarations for all that the name, which has two parts, can denote; each of them has another type.
func declsNamed(name string) []impl.Decl {
	above, part, _ := strings.Cut(name, ".")
	decls := []impl.Decl{
		{Kind: impl.DkAxiom, Name: name, Params: 3, Type: "su2."},
		{Kind: impl.DkDef, Name: name, Params: 1, Type: "s+u0.", Value: "su0."},
		{Kind: impl.DkDef, Name: name, Flags: impl.FlUnsafe, Type: "s+z.", Value: "sz."},
		{Kind: impl.DkTheorem, Name: name, Type: "s++z.", Value: "s+z."},
		{Kind: impl.DkData, Name: name, Params: 2, Type: "s+mu0u1.", Ctors: []impl.Ctor{{Name: name + ".c", Type: "c" + name + ";u0,u1,."}}},
	}
	if part == "rec" {
		return append(decls,
			impl.Decl{Kind: impl.DkData, Name: above, Type: "s+z.", Ctors: []impl.Ctor{{Name: above + ".x", Type: "c" + above + ";."}}},
			impl.Decl{Kind: impl.DkData, Name: above, Params: 1, Type: "su0."})
	}
	return append(decls,
		impl.Decl{Kind: impl.DkData, Name: above, Type: "s+z.", Ctors: ctorsFor(name, above+".y", above+".x")},
		impl.Decl{Kind: impl.DkData, Name: above, Params: 1, Type: "s+u0.", Ctors: append(ctorsFor(above+".y"), impl.Ctor{Name: name, Type: "psu0.sz."})})
}

// TestNameThatTwoEntriesHave has each pair of declarations with one name: the first one counts, also where it has fewer results.
func TestNameThatTwoEntriesHave(t *testing.T) {
	kinds := map[int]bool{}
	for _, name := range []string{"a.b", "a.rec"} {
		for _, first := range declsNamed(name) {
			alone := entriesOf(first)
			for _, second := range declsNamed(name) {
				both := entriesOf(first, second)
				for _, levels := range [][]string{nil, {"+u1"}, {"z", "u0"}, {"u2", "u1", "u0"}} {
					want := wantsOfName(alone, name, levels)
					checkNameWants(t, both, name, levels, want)
					kinds[want.found.kind] = true
					// Other entries ahead only move the index.
					want.found.entry = 2
					checkNameWants(t, entriesOf(falseData(), natData(), first, second, first), name, levels, want)
				}
				// The second one still has the names that the first one does not have.
				checkEntries(t, both)
			}
		}
	}
	if len(kinds) != 6 {
		t.Errorf("the test has names of the kinds %v", kinds)
	}
}

// brokenDecls returns declarations that are not valid, and have the names of d if only these are looked at.
func brokenDecls(d impl.Decl) []impl.Decl {
	broken := []impl.Decl{}
	for _, change := range []func(*impl.Decl){
		func(d *impl.Decl) { d.Kind = 0 },
		func(d *impl.Decl) { d.Kind = 5 },
		func(d *impl.Decl) { d.Params = -1 },
		func(d *impl.Decl) { d.Params = 4 },
		func(d *impl.Decl) { d.Flags = 8 },
		func(d *impl.Decl) { d.Type = "" },
		func(d *impl.Decl) { d.Type = "v0." },
		func(d *impl.Decl) { d.Type = "s+z" },
		func(d *impl.Decl) { d.Value += "v0." },
		func(d *impl.Decl) { d.Ctors = append(d.Ctors, impl.Ctor{Name: d.Name + ".rec", Type: "sz."}) },
		func(d *impl.Decl) { d.Ctors = append(d.Ctors, impl.Ctor{Name: d.Name + ".z", Type: "v0."}) },
		func(d *impl.Decl) { d.Ctors = append(d.Ctors, ctorsFor(d.Name+".z", d.Name+".z")...) },
	} {
		changed := d
		changed.Ctors = slices.Clone(d.Ctors)
		change(&changed)
		broken = append(broken, changed)
	}
	return broken
}

// TestEntriesThatAreNotValid puts a declaration that is not valid ahead of a valid one with the same names, behind it, and alone.
func TestEntriesThatAreNotValid(t *testing.T) {
	for _, entry := range libraryEnv() {
		d := entry.Decl
		names := wantsOf(d).names
		for _, changed := range brokenDecls(d) {
			if wantDeclOk(changed) {
				t.Errorf("the test takes %q for valid", stringsOf(changed))
			}
			for _, name := range names {
				for _, levels := range [][]string{nil, {"z"}, {"u1", "u0"}, {"u2", "z", "z"}} {
					want := wantsOfName(entriesOf(d), name, levels)
					checkNameWants(t, entriesOf(d, changed), name, levels, want)
					want.found.entry = 1
					checkNameWants(t, entriesOf(changed, d), name, levels, want)
					checkNameWants(t, entriesOf(changed), name, levels, nameWants{found: found{impl.EnNone, -1, 0}, levels: -1})
				}
			}
			slices.Sort(names)
			checkKnown(t, entriesOf(changed, d), names)
			checkKnown(t, entriesOf(d, changed), names)
			checkKnown(t, entriesOf(changed), nil)
			checkKnown(t, entriesOf(changed, changed, impl.Decl{}), nil)
		}
	}
}

// TestLevelsForEachNumber has each number of parameters of each kind, and recursors with and without a level of their own.
func TestLevelsForEachNumber(t *testing.T) {
	for params := range impl.MaxParams + 1 {
		for _, name := range []string{"a", "a.b", "z.z.z.z.z"} {
			env := entriesOf(impl.Decl{Kind: impl.DkAxiom, Name: name, Params: params, Type: "sz."})
			for _, kind := range []int{impl.DkDef, impl.DkTheorem} {
				env = append(env, impl.Entry{Decl: impl.Decl{Kind: kind, Name: "x" + strconv.Itoa(kind), Params: params, Type: "sz.", Value: "sz."}})
			}
			for _, known := range []string{name, "x2", "x3"} {
				if got := impl.LevelsFor(env, known); got != params {
					t.Errorf("LevelsFor a declaration with %d parameters = %d", params, got)
				}
				checkName(t, env, known, selfParams[:params]...)
			}
		}
	}
	figures := []struct {
		params int
		level  string
		rec    int
	}{
		// Always above the lowest sort.
		{0, "+z", 1}, {0, "i+z+z", 1}, {1, "+z", 2}, {1, "+u0", 2}, {1, "mu0+z", 2}, {1, "iu0+z", 2}, {2, "+mu0u1", 3}, {2, "+z", 3},
		// The lowest sort, or possibly that.
		{0, "z", 0}, {0, "mzz", 0}, {0, "i+zz", 0}, {1, "z", 1}, {1, "u0", 1}, {1, "i+zu0", 1}, {2, "z", 2}, {2, "mu0u1", 2}, {2, "i+u0u1", 2},
		// Not valid.
		{0, "u0", -1}, {1, "u1", -1}, {3, "+z", -1}, {-1, "+z", -1}, {0, "x", -1},
	}
	for _, f := range figures {
		env := entriesOf(impl.Decl{Kind: impl.DkData, Name: "n", Params: f.params, Type: "s" + f.level + ".", Ctors: ctorsFor("n.a", "n.b")})
		params := f.params
		if f.rec < 0 {
			params = -1
		}
		got := []int{impl.LevelsFor(env, "n"), impl.LevelsFor(env, "n.a"), impl.LevelsFor(env, "n.b"), impl.LevelsFor(env, "n.rec")}
		if !slices.Equal(got, []int{params, params, params, f.rec}) {
			t.Errorf("LevelsFor a data type with %d parameters and the level %q = %v", f.params, f.level, got)
		}
		checkEntries(t, env)
	}
}

// TestEachWrongNumberOfLevels gives the names of a library each number of levels; only one of them is right.
func TestEachWrongNumberOfLevels(t *testing.T) {
	env := libraryEnv()
	for _, name := range impl.Known(env) {
		right, values := 0, 0
		for _, level := range []string{"z", "u2", "x", ""} {
			for _, count := range []int{0, 1, 2, 3, 4, 5, 10, 1000} {
				want := checkName(t, env, name, slices.Repeat([]string{level}, count)...)
				if want.typeText == "" {
					continue
				}
				right++
				if want.value != "" {
					values++
				}
				if count != impl.LevelsFor(env, name) {
					t.Errorf("the test has a type of %q with %d levels", name, count)
				}
			}
		}
		if (right > 0) != (name != "bad.rec") || (values > 0) != (name == "id") {
			t.Errorf("the test finds %d types and %d values for %q", right, values, name)
		}
	}
}

// TestLevelThatIsNone puts strings that are no levels in the place of each level.
func TestLevelThatIsNone(t *testing.T) {
	env := libraryEnv()
	bad := append(invalidLevels()[:60], strings.Repeat("+", 60)+"z", strings.Repeat("z", 100000))
	for _, name := range impl.Known(env) {
		count := impl.LevelsFor(env, name)
		for at := range count {
			levels := slices.Repeat([]string{"z"}, count)
			for _, level := range bad {
				levels[at] = level
				checkNameWants(t, env, name, levels, nameWants{found: wantFound(env, name), levels: count})
			}
			for _, level := range []string{"z", "u0", "u2", "+u1", strings.Repeat("+", 56) + "z"} {
				levels[at] = level
				if want := checkName(t, env, name, levels...); (want.typeText == "") != (name == "bad.rec") {
					t.Errorf("the test has the type %q for %q with %q", want.typeText, name, levels)
				}
			}
		}
	}
}

// TestLevelThatIsNotPutIn has types and values without levels: TermLevels does not look at what is given then.
func TestLevelThatIsNotPutIn(t *testing.T) {
	for _, level := range []string{"z", "u2", "", "x", "u3", "zz", strings.Repeat("+", 60) + "z"} {
		env := entriesOf(
			impl.Decl{Kind: impl.DkAxiom, Name: "a", Params: 1, Type: "ca;."},
			impl.Decl{Kind: impl.DkDef, Name: "b", Params: 1, Type: "ca;.", Value: "sz."},
			impl.Decl{Kind: impl.DkDef, Name: "c", Params: 1, Type: "sz.", Value: "ca;."},
			impl.Decl{Kind: impl.DkData, Name: "d", Params: 1, Type: "sz.", Ctors: []impl.Ctor{{Name: "d.e", Type: "pca;.ca;."}}})
		wants := map[string]nameWants{
			"a":   {found{impl.EnAxiom, 0, 0}, 1, "ca;.", ""},
			"b":   {found{impl.EnDef, 1, 0}, 1, "ca;.", "sz."},
			"c":   {found{impl.EnDef, 2, 0}, 1, "sz.", "ca;."},
			"d":   {found{impl.EnData, 3, 0}, 1, "sz.", ""},
			"d.e": {found{impl.EnCtor, 3, 0}, 1, "pca;.ca;.", ""},
		}
		for name, want := range wants {
			if !isLevel(level) && strings.HasPrefix(want.typeText, "s") {
				want.typeText = ""
			}
			if !isLevel(level) && strings.HasPrefix(want.value, "s") {
				want.value = ""
			}
			checkNameWants(t, env, name, []string{level}, want)
			checkName(t, env, name, level)
		}
	}
}

// TestLevelsArePutIn has each of the parameters in each place of a type and of a value, next to the others.
func TestLevelsArePutIn(t *testing.T) {
	lists := [][]string{{"z", "z", "z"}, {"u0", "u1", "u2"}, {"u2", "u0", "u1"}, {"u1", "u1", "u0"}, {"+u1", "mu0z", "iu2+z"}}
	for param := range impl.MaxParams {
		for _, text := range parameterTexts(param)[:60] {
			for params := param + 1; params <= impl.MaxParams; params++ {
				env := entriesOf(
					impl.Decl{Kind: impl.DkAxiom, Name: "a", Params: params, Type: text},
					impl.Decl{Kind: impl.DkDef, Name: "b", Params: params, Type: "s+z.", Value: text},
					impl.Decl{Kind: impl.DkTheorem, Name: "c", Params: params, Type: text, Value: "su0."},
					impl.Decl{Kind: impl.DkData, Name: "d", Params: params, Type: "sz.", Ctors: []impl.Ctor{{Name: "d.e", Type: text}}})
				for _, levels := range lists {
					for _, name := range []string{"a", "b", "c", "d.e"} {
						checkName(t, env, name, levels[:params]...)
					}
				}
			}
		}
	}
}

// TestRecursorWithoutType has data types for which RecType is false: the number of levels and the other names remain.
func TestRecursorWithoutType(t *testing.T) {
	for _, texts := range [][]string{
		{"ppcnat;.sz.cnat;."}, {"cnat;.", "pcnat;.ppcnat;.cnat;.cnat;."}, {"p@cnat;.sz.cnat;."}, {"pcnat;z,.cnat;."},
		{"sz."}, {"cnat;z,."}, {"cnat;.", "psz.v0."}, {"@cnat;.sz."},
		{"p" + plainText(1980) + "cnat;."}, {"p" + plainText(990) + "cnat;.", "p" + plainText(990) + "cnat;."},
	} {
		for _, flags := range []int{0, impl.FlNoPos, impl.FlNoUniv, impl.FlNoPos + impl.FlNoUniv} {
			d := dataWith(texts...)
			d.Flags = flags
			env := entriesOf(d)
			checkNameWants(t, env, "nat.rec", []string{"z"}, nameWants{found{impl.EnRec, 0, 0}, 1, "", ""})
			checkNameWants(t, env, "nat", nil, nameWants{found{impl.EnData, 0, 0}, 0, "s+z.", ""})
			for k, text := range texts {
				checkNameWants(t, env, d.Ctors[k].Name, nil, nameWants{found{impl.EnCtor, 0, k}, 0, text, ""})
			}
			if !slices.Contains(impl.Known(env), "nat.rec") {
				t.Errorf("the recursor of %.300q is not known", texts)
			}
			checkEntries(t, env)
			// A recursor with the same name behind it does not count.
			checkNameWants(t, entriesOf(d, natData()), "nat.rec", []string{"z"}, nameWants{found{impl.EnRec, 0, 0}, 1, "", ""})
		}
	}
}

// TestTypeAndValueLimits checks texts with exactly the greatest number of bytes once the levels are put in, and with one more.
func TestTypeAndValueLimits(t *testing.T) {
	figures := []struct {
		name string
		data func(text string) impl.Decl
	}{
		{"a", func(text string) impl.Decl { return impl.Decl{Kind: impl.DkAxiom, Name: "a", Params: 1, Type: text} }},
		{"b", func(text string) impl.Decl {
			return impl.Decl{Kind: impl.DkDef, Name: "b", Params: 1, Type: text, Value: "sz."}
		}},
		{"c", func(text string) impl.Decl {
			return impl.Decl{Kind: impl.DkDef, Name: "c", Params: 1, Type: "sz.", Value: text}
		}},
		{"d", func(text string) impl.Decl {
			return impl.Decl{Kind: impl.DkTheorem, Name: "d", Params: 1, Type: text, Value: "sz."}
		}},
		{"n.a", func(text string) impl.Decl {
			return impl.Decl{Kind: impl.DkData, Name: "n", Params: 1, Type: "sz.", Ctors: []impl.Ctor{{Name: "n.a", Type: text}}}
		}},
		{"m.rec", func(text string) impl.Decl {
			return impl.Decl{Kind: impl.DkData, Name: "m", Params: 1, Type: "sz.", Ctors: []impl.Ctor{{Name: "m.a", Type: "p" + text + "cm;u0,."}}}
		}},
	}
	for _, f := range figures {
		for _, level := range []string{"u0", strings.Repeat("+", 9) + "z", strings.Repeat("+", 59) + "z"} {
			// The type or the value, whichever is longer: one of them is always short.
			length := func(want nameWants) int { return max(len(want.typeText), len(want.value)) }
			env := func(size int) []impl.Entry { return entriesOf(f.data("psu0." + plainText(size))) }
			fits, tooLong := false, false
			for _, size := range sizesAround(func(size int) int { return length(wantsOfName(env(size), f.name, []string{level})) }) {
				got := length(checkName(t, env(size), f.name, level))
				fits, tooLong = fits || got == 2000, tooLong || got <= 3
			}
			if !fits || !tooLong {
				t.Errorf("the test does not reach the limit for %q with the level %q", f.name, level)
			}
		}
	}
}

// TestLevelLimitsOfTypesAndValues checks levels with exactly the greatest number of bytes once levels are put in, and with one more.
func TestLevelLimitsOfTypesAndValues(t *testing.T) {
	for ups := 50; ups < 59; ups++ {
		level := strings.Repeat("+", ups) + "u0"
		env := entriesOf(
			impl.Decl{Kind: impl.DkAxiom, Name: "a", Params: 1, Type: "s" + level + "."},
			impl.Decl{Kind: impl.DkDef, Name: "b", Params: 1, Type: "sz.", Value: "ca;" + level + ",."},
			impl.Decl{Kind: impl.DkData, Name: "c", Params: 1, Type: "s" + level + "."})
		for size := 1; size < 12; size++ {
			put := strings.Repeat("+", size-1) + "z"
			fits := ups+size <= 60
			if want := checkName(t, env, "a", put); (want.typeText != "") != fits {
				t.Errorf("the test has the type %q for a level of %d bytes", want.typeText, ups+size)
			}
			if want := checkName(t, env, "b", put); (want.value != "") != fits || want.typeText != "sz." {
				t.Errorf("the test has the value %q for a level of %d bytes", want.value, ups+size)
			}
			if want := checkName(t, env, "c", put); (want.typeText != "") != fits {
				t.Errorf("the test has the data type %q for a level of %d bytes", want.typeText, ups+size)
			}
			// The level of the data type does not occur in the type of its recursor.
			if want := checkName(t, env, "c.rec", put, "z"); want.typeText != "ppcc;"+put+",.sz.pcc;"+put+",.@v1.v0." {
				t.Errorf("the test has the recursor %q", want.typeText)
			}
		}
	}
}

// TestValueForOnlyDefinitions gives a declaration with a type and a value each kind.
func TestValueForOnlyDefinitions(t *testing.T) {
	for kind := -1; kind < 8; kind++ {
		for flags := range 8 {
			d := impl.Decl{Kind: kind, Name: "a", Flags: flags, Type: "s++z.", Value: "s+z."}
			value, ok := impl.ValueFor(entriesOf(d), "a", nil)
			if ok != (kind == impl.DkDef && flags <= impl.FlUnsafe) || ok && value != "s+z." || !ok && value != "" {
				t.Errorf("ValueFor a declaration of kind %d with the flags %d = %q, %v", kind, flags, value, ok)
			}
			checkEntries(t, entriesOf(d))
		}
	}
	// A theorem hides the definition behind it, and a definition does not hide its value from anybody.
	def := impl.Decl{Kind: impl.DkDef, Name: "a", Type: "s++z.", Value: "s+z."}
	theorem := impl.Decl{Kind: impl.DkTheorem, Name: "a", Type: "s++z.", Value: "s+z."}
	checkNameWants(t, entriesOf(theorem, def), "a", nil, nameWants{found{impl.EnTheorem, 0, 0}, 0, "s++z.", ""})
	checkNameWants(t, entriesOf(def, theorem), "a", nil, nameWants{found{impl.EnDef, 0, 0}, 0, "s++z.", "s+z."})
}

func TestKnownFigures(t *testing.T) {
	library := []string{"bad", "bad.mk", "bad.rec", "either", "either.left", "either.rec", "either.right", "em", "false", "false.rec", "id", "list", "list.cons", "list.nil", "list.rec", "nat", "nat.rec", "nat.succ", "nat.zero", "one.eq", "three"}
	axioms := []impl.Decl{}
	for _, name := range []string{"b", "a0", "a.b", "ab", "a", "a.b.c", "z", "a.a", "b", "a"} {
		axioms = append(axioms, impl.Decl{Kind: impl.DkAxiom, Name: name, Type: "sz."})
	}
	invalid := natData()
	invalid.Type = "s+z"
	figures := []struct {
		env  []impl.Entry
		want []string
	}{
		{nil, nil}, {[]impl.Entry{}, nil}, {make([]impl.Entry, 3), nil}, {entriesOf(invalid), nil},
		{entriesOf(emAxiom()), []string{"em"}}, {entriesOf(falseData()), []string{"false", "false.rec"}}, {entriesOf(natData()), []string{"nat", "nat.rec", "nat.succ", "nat.zero"}},
		{entriesOf(invalid, emAxiom(), invalid), []string{"em"}}, {entriesOf(natData(), emAxiom(), idDef()), []string{"em", "id", "nat", "nat.rec", "nat.succ", "nat.zero"}},
		// Bytewise: a dot is smaller than a digit, which is smaller than a letter.
		{entriesOf(axioms...), []string{"a", "a.a", "a.b", "a.b.c", "a0", "ab", "b", "z"}},
		// Names that two entries have, with the same kind and with another one.
		{entriesOf(natData(), natData(), natData()), []string{"nat", "nat.rec", "nat.succ", "nat.zero"}},
		{entriesOf(dataWith("cnat;.", "cnat;."), natData()), []string{"nat", "nat.a", "nat.b", "nat.rec", "nat.succ", "nat.zero"}},
		{entriesOf(impl.Decl{Kind: impl.DkAxiom, Name: "nat.succ", Type: "sz."}, natData()), []string{"nat", "nat.rec", "nat.succ", "nat.zero"}},
		{libraryEnv(), library}, {append(libraryEnv(), libraryEnv()...), library},
	}
	for _, f := range figures {
		checkKnown(t, f.env, f.want)
		backwards := slices.Clone(f.env)
		slices.Reverse(backwards)
		checkKnown(t, backwards, f.want)
		if !slices.Equal(wantKnown(f.env), f.want) {
			t.Errorf("the test itself finds the names %q", wantKnown(f.env))
		}
	}
}

// TestKnownAlwaysInTheSameOrder has many names, whose order in a map differs from call to call.
func TestKnownAlwaysInTheSameOrder(t *testing.T) {
	env, want := []impl.Entry{}, []string{}
	for at := range 300 {
		name := "n" + strconv.Itoa(at*7919%300)
		env = append(env, entriesOf(impl.Decl{Kind: impl.DkData, Name: name, Type: "sz.", Ctors: ctorsFor(name+".b", name+".a")})...)
		want = append(want, name, name+".a", name+".b", name+".rec")
	}
	slices.Sort(want)
	for range 20 {
		if got := impl.Known(env); !slices.Equal(got, want) || !impl.NamesOk(got) {
			t.Fatalf("Known returns %q", got)
		}
	}
	for at, entry := range env {
		kind, index, _ := impl.FoundIn(env, entry.Decl.Name+".rec")
		if kind != impl.EnRec || index != at {
			t.Errorf("FoundIn(%q) = %d, %d", entry.Decl.Name+".rec", kind, index)
		}
	}
}

// TestFoundInBehindManyEntries has names behind entries that are not valid, and behind ones that have the same name.
func TestFoundInBehindManyEntries(t *testing.T) {
	env := append(make([]impl.Entry, 20000), entriesOf(natData())...)
	kind, index, ctor := impl.FoundIn(env, "nat.succ")
	if kind != impl.EnCtor || index != 20000 || ctor != 1 || impl.LevelsFor(env, "nat.rec") != 1 || len(impl.Known(env)) != 4 {
		t.Errorf("FoundIn = %d, %d, %d", kind, index, ctor)
	}
	env = append(slices.Repeat(entriesOf(natData()), 3000), entriesOf(emAxiom(), natData())...)
	kind, index, ctor = impl.FoundIn(env, "nat.succ")
	if kind != impl.EnCtor || index != 0 || ctor != 1 || len(impl.Known(env)) != 5 {
		t.Errorf("FoundIn = %d, %d, %d", kind, index, ctor)
	}
	if kind, index, _ := impl.FoundIn(env, "em"); kind != impl.EnAxiom || index != 3000 {
		t.Errorf("FoundIn = %d, %d", kind, index)
	}
}

// TestEntriesWithLabels has labels, which do not matter, and long names and lists that are none.
func TestEntriesWithLabels(t *testing.T) {
	env := libraryEnv()
	for at := range env {
		env[at].Labels = []impl.Label{{Kind: impl.LbAxiom, Name: "em"}, {Kind: 9, Name: "no name"}, {}}[:at%4]
	}
	checkEntries(t, env)
	many := slices.Repeat([]string{"z"}, 100000)
	for _, name := range append(impl.Known(env), strings.Repeat("a", 100000), strings.Repeat("a.", 100000)) {
		if text, ok := impl.TypeFor(env, name, many); text != "" || ok {
			t.Errorf("TypeFor(%.60q) with %d levels = %q, %v", name, len(many), text, ok)
		}
		if text, ok := impl.ValueFor(env, name, many); text != "" || ok {
			t.Errorf("ValueFor(%.60q) with %d levels = %q, %v", name, len(many), text, ok)
		}
	}
}

// randomEnv returns up to six entries, which often have the same names, and some of which are not valid.
func randomEnv(source *rand.Rand) []impl.Entry {
	env := []impl.Entry{}
	for range source.Intn(7) {
		d := randomDecl(source)
		switch source.Intn(6) {
		case 0:
			d = shapedDecl(source)
		case 1:
			d = recursiveDecl(source)
		case 2:
			d = libraryEnv()[source.Intn(9)].Decl
		case 3:
			d.Name = []string{"nat", "nat.zero", "nat.rec", "list", "n.rec", "a.nat.a", "b"}[source.Intn(7)]
		}
		if source.Intn(5) == 0 {
			d = damaged(source, d)
		}
		env = append(env, impl.Entry{Decl: d, Labels: []impl.Label{{Kind: impl.LbOpaque, Name: "b"}}[:source.Intn(2)]})
	}
	return env
}

// checkPromise12 checks what the document promises of a known name, and returns whether it has a type.
func checkPromise12(t *testing.T, env []impl.Entry, name string) bool {
	t.Helper()
	kind, index, _ := impl.FoundIn(env, name)
	count := impl.LevelsFor(env, name)
	if kind == impl.EnNone || count < 0 || count > impl.MaxParams {
		t.Errorf("the known name %q denotes %d with %d levels", name, kind, count)
		return false
	}
	d := env[index].Decl
	own, ok := impl.TypeFor(env, name, selfParams[:count])
	if _, recOk := impl.RecType(d); ok != (kind != impl.EnRec || recOk) {
		t.Errorf("TypeFor(%q, %q) = %q, %v", stringsIn(env), name, own, ok)
	}
	if ok && (!impl.TermOk(own) || impl.TermOpen(own) != 0 || impl.ParamsIn(own) > count) {
		t.Errorf("the type of %q is %q with %d levels", name, own, count)
	}
	if lowest, lowestOk := impl.TypeFor(env, name, slices.Repeat([]string{"z"}, count)); ok && (!lowestOk || impl.TermOpen(lowest) != 0 || impl.ParamsIn(lowest) != 0) {
		t.Errorf("with the lowest levels, the type of %q is %q, %v", name, lowest, lowestOk)
	}
	if value, valueOk := impl.ValueFor(env, name, selfParams[:count]); valueOk != (kind == impl.EnDef) || valueOk && value != d.Value {
		t.Errorf("ValueFor(%q, %q) = %q, %v", stringsIn(env), name, value, valueOk)
	}
	return ok
}

// TestKnownNamesHaveClosedTypes checks promise 12 with random entries, whose names also have no types if they are not known.
func TestKnownNamesHaveClosedTypes(t *testing.T) {
	source := rand.New(rand.NewSource(12))
	kinds, typed, recursors := map[int]int{}, 0, 0
	for range 800 {
		env := randomEnv(source)
		known := impl.Known(env)
		checkKnown(t, env, wantKnown(env))
		for _, name := range known {
			if !checkPromise12(t, env, name) {
				continue
			}
			if typed++; wantFound(env, name).kind == 6 {
				recursors++
			}
		}
		for _, name := range possibleNames(env) {
			levels := []string{}
			for range max(0, impl.LevelsFor(env, name)+source.Intn(2)*source.Intn(2)) {
				levels = append(levels, randomLevel(source, 1+source.Intn(6)))
			}
			want := checkName(t, env, name, levels...)
			kinds[want.found.kind]++
			if slices.Contains(known, name) != (want.found.kind != 0) {
				t.Errorf("%q denotes %v, and the names %q are known", name, want.found, known)
			}
		}
	}
	for kind := range 7 {
		if kinds[kind] < 100 {
			t.Errorf("the test finds the kinds %v", kinds)
		}
	}
	if typed < 4000 || recursors < 200 {
		t.Errorf("%d names and %d recursors have types", typed, recursors)
	}
}

// TestEntriesOfPositiveDataAllHaveTypes has only positive data types, so that each known name has a type.
func TestEntriesOfPositiveDataAllHaveTypes(t *testing.T) {
	env := entriesOf(natData(), listData(), ordData(), wData(), boxData(), eitherData(), falseData(), emAxiom(), idDef(), oneTheorem(), threeAxiom())
	for _, name := range impl.Known(env) {
		if !checkPromise12(t, env, name) {
			t.Errorf("%q has no type", name)
		}
	}
	checkEntries(t, env)
}

func TestEnvironmentsLeaveSpareCapacity(t *testing.T) {
	ctors := append(ctorsFor("x.a", "x.b", "x.c"), impl.Ctor{Name: "spare", Type: "spare"})
	spare := impl.Entry{Decl: impl.Decl{Kind: impl.DkAxiom, Name: "spare", Type: "sz."}, Labels: []impl.Label{{Kind: 1, Name: "spare"}}}
	backing := append(libraryEnv(), spare, spare)
	levels := []string{"z", "u0", "u1", "spare", "spare"}
	for size := range 4 {
		backing[0].Decl = impl.Decl{Kind: impl.DkData, Name: "x", Type: "s+z.", Ctors: ctors[:size]}
		kept, keptCtors, keptLevels := copyOf(backing), slices.Clone(ctors), slices.Clone(levels)
		for count := range len(backing) - 1 {
			env := backing[:count]
			checkKnown(t, env, wantKnown(env))
			for _, name := range append(possibleNames(env), "spare") {
				for used := range 4 {
					checkName(t, env, name, levels[:used]...)
				}
			}
		}
		if !reflect.DeepEqual(backing, kept) || !slices.Equal(ctors, keptCtors) || !slices.Equal(levels, keptLevels) {
			t.Errorf("the memory of the arguments was changed: %q, %q, %q", stringsIn(backing), ctors, levels)
		}
	}
}

// TestEnvironmentResultsAreNewMemory changes results and arguments; the memory of the strings is compared by the checks above.
func TestEnvironmentResultsAreNewMemory(t *testing.T) {
	env, levels := libraryEnv(), []string{"+z"}
	first, second := impl.Known(env), impl.Known(env)
	kept := slices.Clone(second)
	for at := range first {
		first[at] = "changed"
	}
	if !slices.Equal(second, kept) || !slices.Equal(impl.Known(env), kept) {
		t.Errorf("a changed result changed another one to %q", second)
	}
	typeText, _ := impl.TypeFor(env, "id", levels)
	value, _ := impl.ValueFor(env, "id", levels)
	ctor, _ := impl.TypeFor(env, "nat.succ", nil)
	env[0].Decl.Ctors[1] = impl.Ctor{Name: "nat.changed", Type: "sz."}
	env[2].Decl, levels[0] = emAxiom(), "u0"
	if !slices.Equal(second, kept) || typeText != "ps+z.pv0.v1." || value != "ls+z.lv0.v0." || ctor != "pcnat;.cnat;." {
		t.Errorf("changed arguments changed the results to %q, %q, %q and %q", second, typeText, value, ctor)
	}
	// Nothing is kept from the calls before: the changed entries have their own results.
	if kind, _, _ := impl.FoundIn(env, "nat.succ"); kind != impl.EnNone {
		t.Errorf("FoundIn finds the kind %d of a constructor that is gone", kind)
	}
	if kind, _, k := impl.FoundIn(env, "nat.changed"); kind != impl.EnCtor || k != 1 {
		t.Errorf("FoundIn finds the kind %d of a constructor that is new", kind)
	}
	checkEntries(t, env)
}
