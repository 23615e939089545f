package tests

import (
	"math"
	"math/rand"
	"regexp"
	"slices"
	"strconv"
	"strings"
	"testing"

	"loop.example/g00963/impl"
)

// tree is a term with what the document says of it, found from its parts.
type tree struct {
	text  string
	parts []string
	size  int
	// free holds, for each variable, its number minus the number of binders above it.
	free   []int
	name   string
	levels []string
}

func variableTree(n int) tree {
	return tree{text: "v" + strconv.Itoa(n) + ".", size: 1, free: []int{n}}
}

func sortTree(level string) tree {
	return tree{text: "s" + level + ".", size: 1}
}

func constantTree(name string, levels ...string) tree {
	text := "c" + name + ";"
	for _, level := range levels {
		text += level + ","
	}
	return tree{text: text + ".", size: 1, name: name, levels: levels}
}

// treeWith returns the term of kind @, l, p or t with these parts.
func treeWith(kind string, parts ...tree) tree {
	whole := tree{text: kind, size: 1}
	for at, part := range parts {
		whole.text += part.text
		whole.parts = append(whole.parts, part.text)
		whole.size += part.size
		under := 0
		if kind != "@" && at == len(parts)-1 {
			under = 1
		}
		for _, number := range part.free {
			whole.free = append(whole.free, number-under)
		}
	}
	return whole
}

func (whole tree) open() int {
	return slices.Max(append(slices.Clone(whole.free), -1)) + 1
}

// shorterLevels replaces parts of levels by the shortest level.
var shorterLevels = strings.NewReplacer("u0", "z", "u1", "z", "u2", "z", "+z", "z", "mzz", "z", "izz", "z")

// isLevel shortens s until only the shortest level is left.
func isLevel(s string) bool {
	if len(s) > 60 {
		return false
	}
	for before := ""; before != s; {
		before = s
		s = shorterLevels.Replace(s)
	}
	return s == "z"
}

// leafShape is a text that begins with a term without parts.
var leafShape = regexp.MustCompile(`^(?:v(0|[1-9][0-9]{0,2})\.|s([^.]*)\.|c([^;]*);((?:[^.,]*,){0,3})\.)`)

// leafOf returns the term without parts at the beginning of s.
func leafOf(s string) (tree, bool) {
	found := leafShape.FindStringSubmatch(s)
	if found == nil {
		return tree{}, false
	}
	switch s[0] {
	case 'v':
		n, _ := strconv.Atoi(found[1])
		return variableTree(n), true
	case 's':
		return sortTree(found[2]), isLevel(found[2])
	}
	levels := []string{}
	for level := range strings.SplitAfterSeq(found[4], ",") {
		if level != "" {
			levels = append(levels, level[:len(level)-1])
		}
	}
	noLevel := func(level string) bool { return !isLevel(level) }
	return constantTree(found[3], levels...), isName(found[3]) && !slices.ContainsFunc(levels, noLevel)
}

// treeOf is an independent description of terms. It joins the pieces of s from the last one on: the parts of a term are then the last trees found.
func treeOf(s string) (tree, bool) {
	pieces := []tree{}
	for at := 0; at < len(s) && len(s) <= 2000; at += len(pieces[len(pieces)-1].text) {
		piece, ok := leafOf(s[at:])
		if strings.Contains("@lpt", s[at:at+1]) {
			piece, ok = tree{text: s[at : at+1]}, true
		}
		if !ok {
			return tree{}, false
		}
		pieces = append(pieces, piece)
	}
	found := []tree{}
	for _, piece := range slices.Backward(pieces) {
		if piece.size == 0 {
			count := 2 + strings.Count(piece.text, "t")
			if len(found) < count {
				return tree{}, false
			}
			parts := slices.Clone(found[len(found)-count:])
			slices.Reverse(parts)
			found = found[:len(found)-count]
			piece = treeWith(piece.text, parts...)
		}
		found = append(found, piece)
	}
	if len(found) != 1 {
		return tree{}, false
	}
	return found[0], true
}

// checkTree checks all functions for a term with at most 2000 bytes.
func checkTree(t *testing.T, want tree) {
	t.Helper()
	s := want.text
	if !impl.TermOk(s) {
		t.Errorf("TermOk(%q) = false", s)
	}
	kind, parts := impl.TermKind(s), impl.TermParts(s)
	if kind != s[:1] {
		t.Errorf("TermKind(%q) = %q", s, kind)
	}
	checkNewString(t, kind, s)
	if !slices.Equal(parts, want.parts) {
		t.Errorf("TermParts(%q) = %q, want %q", s, parts, want.parts)
	}
	if len(parts) > 0 && kind+strings.Join(parts, "") != s {
		t.Errorf("the kind %q and the parts %q do not make the term %q", kind, parts, s)
	}
	for _, part := range parts {
		checkNewString(t, part, s)
	}
	if size, open := impl.TermSize(s), impl.TermOpen(s); size != want.size || open != want.open() {
		t.Errorf("TermSize, TermOpen(%q) = %d, %d, want %d, %d", s, size, open, want.size, want.open())
	}
	name, levels, ok := impl.ConstIn(s)
	if name != want.name || !slices.Equal(levels, want.levels) || ok != (want.name != "") {
		t.Errorf("ConstIn(%q) = %q, %q, %v, want %q, %q", s, name, levels, ok, want.name, want.levels)
	}
	for _, result := range append(levels, name) {
		checkNewString(t, result, s)
	}
}

// checkNoTerm checks all functions for a text that is not a term, or too long for one.
func checkNoTerm(t *testing.T, s string) {
	t.Helper()
	if impl.TermOk(s) {
		t.Errorf("TermOk(%.80q) = true", s)
	}
	if kind, parts := impl.TermKind(s), impl.TermParts(s); kind != "" || len(parts) > 0 {
		t.Errorf("TermKind, TermParts(%.80q) = %q, %.80q", s, kind, parts)
	}
	if size, open := impl.TermSize(s), impl.TermOpen(s); size != 0 || open != 0 {
		t.Errorf("TermSize, TermOpen(%.80q) = %d, %d, want 0, 0", s, size, open)
	}
	if name, levels, ok := impl.ConstIn(s); name != "" || len(levels) > 0 || ok {
		t.Errorf("ConstIn(%.80q) = %q, %q, %v", s, name, levels, ok)
	}
}

// checkText checks all functions for a text of which the test itself finds out whether it is a term.
func checkText(t *testing.T, s string) {
	t.Helper()
	want, ok := treeOf(s)
	if !ok {
		checkNoTerm(t, s)
		return
	}
	if want.text != s {
		t.Fatalf("the test reads %q as %q", s, want.text)
	}
	checkTree(t, want)
}

// someTrees holds terms of each form, open and closed ones.
func someTrees() []tree {
	v0, v1, v9, z, c := variableTree(0), variableTree(1), variableTree(9), sortTree("z"), constantTree("a.b", "u0", "+z")
	return []tree{
		v0, v1, variableTree(999), z, sortTree("mu0+u1"), constantTree("nat"), c,
		treeWith("@", v9, z), treeWith("l", v0, v1), treeWith("p", v1, v0), treeWith("t", v0, v1, v9),
	}
}

func TestTermLimits(t *testing.T) {
	if impl.MaxTerm != 2000 || impl.MaxVar != 999 {
		t.Errorf("limits %d, %d, want 2000, 999", impl.MaxTerm, impl.MaxVar)
	}
}

func TestTermFigures(t *testing.T) {
	figures := []struct {
		text       string
		parts      []string
		size, open int
	}{
		{"v0.", nil, 1, 1}, {"v1.", nil, 1, 2}, {"v10.", nil, 1, 11}, {"v100.", nil, 1, 101}, {"v998.", nil, 1, 999}, {"v999.", nil, 1, 1000},
		{"sz.", nil, 1, 0}, {"s+z.", nil, 1, 0}, {"su2.", nil, 1, 0}, {"smu0+u1.", nil, 1, 0}, {"si+zz.", nil, 1, 0},
		{"ca;.", nil, 1, 0}, {"cnat;.", nil, 1, 0}, {"cnat.rec;+z,.", nil, 1, 0}, {"ca.b.c.d.e;z,u0,mzz,.", nil, 1, 0}, {"cc;.", nil, 1, 0}, {"cv0.s1;.", nil, 1, 0},
		{"@v0.v1.", []string{"v0.", "v1."}, 3, 2}, {"lsz.v0.", []string{"sz.", "v0."}, 3, 0}, {"psz.v1.", []string{"sz.", "v1."}, 3, 1}, {"tsz.v0.@v0.v1.", []string{"sz.", "v0.", "@v0.v1."}, 6, 1},
		{"@@v0.v1.v2.", []string{"@v0.v1.", "v2."}, 5, 3}, {"@v0.@v1.v2.", []string{"v0.", "@v1.v2."}, 5, 3}, {"lsz.lv0.v1.", []string{"sz.", "lv0.v1."}, 5, 0}, {"plsz.v2.v2.", []string{"lsz.v2.", "v2."}, 5, 2},
		{"tv2.v1.v0.", []string{"v2.", "v1.", "v0."}, 4, 3}, {"tv0.v1.v5.", []string{"v0.", "v1.", "v5."}, 4, 5}, {"tv0.v7.v5.", []string{"v0.", "v7.", "v5."}, 4, 8}, {"tsz.tv0.v0.v0.tv0.v0.v1.", []string{"sz.", "tv0.v0.v0.", "tv0.v0.v1."}, 10, 1},
		{"@ca.cb;.v0.", []string{"ca.cb;.", "v0."}, 3, 1}, {"@ca;z,.cb;z,.", []string{"ca;z,.", "cb;z,."}, 3, 0}, {"@ct.l;.@cp;.cl;.", []string{"ct.l;.", "@cp;.cl;."}, 5, 0},
		{"psu0.pv0.psz.@v2.v1.", []string{"su0.", "pv0.psz.@v2.v1."}, 9, 0}, {"lsz.lsz.lsz.v3.", []string{"sz.", "lsz.lsz.v3."}, 7, 1}, {"@lsz.v0.v0.", []string{"lsz.v0.", "v0."}, 5, 1},
	}
	for _, f := range figures {
		kind, parts := impl.TermKind(f.text), impl.TermParts(f.text)
		size, open := impl.TermSize(f.text), impl.TermOpen(f.text)
		if !impl.TermOk(f.text) || kind != f.text[:1] || !slices.Equal(parts, f.parts) || size != f.size || open != f.open {
			t.Errorf("%q: kind %q, parts %q, size %d, open %d, want %q, %d, %d", f.text, kind, parts, size, open, f.parts, f.size, f.open)
		}
		checkText(t, f.text)
	}
}

func TestTermsOfEachFormInEachOther(t *testing.T) {
	forms := someTrees()
	for _, a := range forms {
		checkTree(t, a)
		for _, b := range forms {
			for _, kind := range []string{"@", "l", "p"} {
				pair := treeWith(kind, a, b)
				checkTree(t, pair)
				checkTree(t, treeWith("@", a, pair))
				checkTree(t, treeWith("l", pair, b))
				checkTree(t, treeWith("t", pair, b, pair))
			}
			for _, c := range forms {
				whole := treeWith("t", a, b, c)
				checkTree(t, whole)
				checkTree(t, treeWith("p", c, whole))
				checkTree(t, treeWith("t", whole, whole, a))
			}
		}
	}
}

func TestVariables(t *testing.T) {
	for n := -20; n <= 2000; n++ {
		text := "v" + strconv.Itoa(n) + "."
		if n >= 0 && n <= 999 {
			checkTree(t, variableTree(n))
			checkText(t, text)
		} else {
			checkNoTerm(t, text)
		}
	}
	for _, digits := range []string{
		"", "00", "01", "007", "010", "0999", "000", "0000000000", "1000", "1001", "1999", "9990", "9999", "10000", "65536", "4294967296", "4294967297", "1000000000", "1000000001", "9223372036854775807", "9223372036854775808", "18446744073709551616", "18446744073709551617", strings.Repeat("9", 100), strings.Repeat("0", 100), strings.Repeat("1", 1998), strings.Repeat("1", 1999), "00000000000000000000001",
		"+1", "-0", "-1", "+0", " 1", "1 ", "1 2", "1,", "1;", "1_0", "0x1", "0b1", "0o7", "1e2", "1.5", "a", "1a", "a1", "u0", "z", "v0", "v", "\x00", "1\x00", "١", "¹", "１", "/", ":", "0/", "1:", "\xff", "\n", "1\n",
	} {
		checkNoTerm(t, "v"+digits+".")
		checkNoTerm(t, "v"+digits)
		checkNoTerm(t, "@v0.v"+digits+".")
		checkNoTerm(t, "lv"+digits+".v0.")
		checkNoTerm(t, "tv0.v"+digits+".v0.")
	}
	for _, n := range []string{"0", "1", "10", "999"} {
		for _, text := range []string{"v" + n, "v" + n + ",", "v" + n + ";", "v" + n + "v0.", "V" + n + ".", "v" + n + "..", n + ".", n, "v." + n, "@v" + n + "v0.", "@v0.v" + n} {
			checkNoTerm(t, text)
		}
	}
}

func TestSorts(t *testing.T) {
	for _, level := range levelsUpTo(6) {
		checkTree(t, sortTree(level))
	}
	for _, level := range longLevels(60) {
		checkTree(t, sortTree(level))
		checkTree(t, treeWith("p", sortTree(level), sortTree(level)))
		for _, text := range []string{"s+" + level + ".", "s" + level + "z.", "s" + level[:59] + ".", "s" + level, "@s+" + level + ".v0.", "lsz.s+" + level + "."} {
			checkNoTerm(t, text)
		}
	}
	for _, size := range []int{62, 100, 256, 1000, 1998} {
		for _, level := range longLevels(size) {
			checkNoTerm(t, "s"+level+".")
		}
	}
	for _, level := range invalidLevels() {
		checkNoTerm(t, "s"+level+".")
		checkNoTerm(t, "@v0.s"+level+".")
		checkNoTerm(t, "tsz.s"+level+".sz.")
	}
	for _, text := range []string{"s", "s.", "sz", "su0", "sz,", "sz;", "sz,.", "sz;.", "ssz.", "sz..", "Sz.", "s z.", "sz .", "s.z", "sv0.", "s0.", "s1.", "@sz", "@szv0.", "@sz.sz", "lszsz.", "psz.su0"} {
		checkNoTerm(t, text)
	}
}

func TestConstants(t *testing.T) {
	long := strings.Repeat("+", 59) + "z"
	lists := [][]string{nil, {"z"}, {"u0"}, {"u0", "u1"}, {"+z", "mzu2"}, {"u0", "u1", "u2"}, {"z", "z", "z"}, {long}, {long, "u1", long}, {long, long, long}}
	for _, name := range validNames() {
		for _, levels := range lists {
			c := constantTree(name, levels...)
			checkTree(t, c)
			checkText(t, c.text)
			checkTree(t, treeWith("@", c, c))
			checkTree(t, treeWith("t", c, c, c))
			if got := impl.ConstText(name, levels); got != c.text {
				t.Errorf("ConstText(%q, %q) = %q, want %q", name, levels, got, c.text)
			}
		}
	}
	for _, name := range invalidNames() {
		for _, levels := range lists {
			checkNoTerm(t, constantTree(name, levels...).text)
		}
		checkNoTerm(t, "@c"+name+";.v0.")
		checkNoTerm(t, "pv0.c"+name+";z,.")
	}
	for _, levels := range [][]string{{"z", "z", "z", "z"}, {"u0", "u1", "u2", "z"}, {"u0", "u1", "u2", "u0", "u1"}, slices.Repeat([]string{"z"}, 100), {long, long, long, long}} {
		checkNoTerm(t, constantTree("a", levels...).text)
		checkNoTerm(t, treeWith("@", constantTree("a", levels...), variableTree(0)).text)
	}
	for _, level := range append(invalidLevels(), "+"+long, long+"z") {
		for _, levels := range [][]string{{level}, {level, "z"}, {"z", level}, {"z", "z", level}, {"u0", level, "u1"}, {level, level, level}} {
			checkText(t, constantTree("a", levels...).text)
			if !strings.ContainsAny(level, ".,") {
				checkNoTerm(t, constantTree("a", levels...).text)
			}
		}
	}
	for _, text := range []string{
		"c", "c;", "c.", "c;.", "ca", "ca.", "ca;", "ca,.", "caz,.", "ca.;.", "c.a;.", "ca..b;.", "ca;;.", "ca:.", "ca; .", "c a;.", "ca ;.", "ca;. ", " ca;.", "Ca;.", "cA;.",
		"ca;z", "ca;z,", "ca;z.", "ca;zz,.", "ca;z,z.", "ca;z,z", "ca;,.", "ca;,", "ca;,z,.", "ca;z,,.", "ca;z,,z,.", "ca;,,.", "ca;z;.", "ca;z,;.", "ca;z, z,.", "ca; z,.", "ca;z ,.", "ca;m,z,.", "ca;mz,z,.", "ca;+,z,.", "ca;u,0,.", "ca;z,.,", "ca;z,z,z,z", "ca;z,z,z,z.", "ca;z,z,z,,.", "ca;z.z,.",
		"@ca;v0.", "@ca.v0.", "@cav0.", "@ca;z,v0.", "@v0.ca;", "@v0.ca;z,", "@v0.ca.", "@ca.cb;.", "lca;zv0.", "lca;z.v0.", "ca;v0.", "ca;z,v0,.",
	} {
		checkNoTerm(t, text)
	}
}

func TestTermsWithWrongNumberOfParts(t *testing.T) {
	counts := map[string]int{"@": 2, "l": 2, "p": 2, "t": 3}
	forms := someTrees()
	for kind, count := range counts {
		for at, a := range forms {
			for size := range 6 {
				text, parts := kind, []tree{}
				for number := range size {
					parts = append(parts, forms[(at+number*3)%len(forms)])
					text += parts[number].text
				}
				if size == count {
					checkTree(t, treeWith(kind, parts...))
					checkNoTerm(t, "@"+text)
					checkNoTerm(t, text+text)
				} else {
					checkNoTerm(t, text)
				}
				checkText(t, "l"+a.text+text)
				checkText(t, "t"+text+a.text)
			}
		}
	}
	for _, text := range []string{"@", "l", "p", "t", "@@", "ll", "tt", "@v0.", "lsz.", "pca;.", "tsz.", "tsz.v0.", "@v0.v1.v2.", "lsz.v0.v0.", "psz.v0.v0.", "tsz.v0.v0.v0.", "@@v0.v1.", "@lsz.v0.", "lpsz.v0.", "ttsz.v0.v0.", "tsz.tsz.v0.v0.", "tsz.v0.@v0.", "@v0.@v1.", "@v0.@", "v0.@", "v0.v0.", "sz.sz.", "ca;.ca;."} {
		checkNoTerm(t, text)
	}
}

func TestTermsAndOtherBytes(t *testing.T) {
	checkNoTerm(t, "")
	for b := range 256 {
		s := string([]byte{byte(b)})
		checkNoTerm(t, s)
		for _, whole := range someTrees() {
			checkNoTerm(t, whole.text+s)
			checkText(t, s+whole.text)
			checkText(t, s+whole.text+whole.text)
			checkText(t, s+whole.text+whole.text+whole.text)
			checkNoTerm(t, "@"+whole.text+s+whole.text+s)
		}
		if !strings.Contains("vsc@lpt", s) {
			for _, rest := range []string{"", "0.", "z.", "a;.", "v0.", "v0.v0.", "v0.v0.v0.", "sz.v0.", "ca;.ca;z,."} {
				checkNoTerm(t, s+rest)
				checkNoTerm(t, "@v0."+s+rest)
				checkNoTerm(t, "t"+s+rest+"v0.v0.")
			}
		}
	}
	for _, text := range []string{"\ufeffv0.", "v0.\n", "\nv0.", "v0.\x00", "@ v0.v1.", "@v0. v1.", "λsz.v0.", "(v0.v1.)", "[sz.]v0.", "@(v0.)v1.", "#0", "*z", "Lsz.v0.", "Psz.v0.", "Tsz.v0.v0.", "ｖ0."} {
		checkNoTerm(t, text)
	}
}

// nestedTexts are terms with exactly size bytes, nested as deep as possible in each part of each form; size is at least 3.
func nestedTexts(size int) []string {
	texts := []string{}
	nest := func(before string, after string) {
		count := (size - 3) / len(before+after)
		ups := size - 3 - count*len(before+after)
		texts = append(texts, strings.Repeat(before, count)+"s"+strings.Repeat("+", ups)+"z."+strings.Repeat(after, count))
	}
	for _, part := range []string{"v0.", "v999.", "sz.", "ca;.", "cnat.rec;u0,+z,mu1u2,."} {
		for _, kind := range []string{"@", "l", "p"} {
			nest(kind, part)
			nest(kind+part, "")
		}
		nest("t", part+part)
		nest("t"+part, part)
		nest("t"+part+part, "")
	}
	return texts
}

// constantWith returns a constant with exactly size bytes, which is from 4 to 70.
func constantWith(source *rand.Rand, size int) tree {
	left, levels := size-3, []string{}
	for left > 40 || left > 2 && source.Intn(2) == 0 && len(levels) < 3 {
		level := randomLevel(source, 1+source.Intn(min(60, left-2)))
		levels = append(levels, level)
		left -= len(level) + 1
		if len(levels) == 3 && left > 40 {
			left, levels = size-3, nil
		}
	}
	name := []byte{}
	for len(name) < left {
		name = append(name, "abcvslptz"[source.Intn(9)])
	}
	// A dot is neither the first nor the last byte of a name, nor next to another one.
	for at := 2; at < left-1 && at < 9; at += 2 {
		name[at-1] = "a0.9."[source.Intn(5)]
	}
	return constantTree(string(name), levels...)
}

// treeOfSize returns a term with exactly size bytes, which is at least 3.
func treeOfSize(source *rand.Rand, size int) tree {
	switch choice := source.Intn(12); {
	case size <= 5 && choice < 6:
		least := []int{0, 10, 100, 1000}[size-3]
		return variableTree(least + source.Intn([]int{10, 90, 900}[size-3]))
	case size == 3 || size <= 62 && choice < 8 && (size < 7 || choice < 2):
		return sortTree(randomLevel(source, size-2))
	case size < 7 || size <= 62 && choice < 4:
		return constantWith(source, size)
	case size >= 10 && choice < 7:
		first := 3 + source.Intn(size-9)
		second := 3 + source.Intn(size-6-first)
		return treeWith("t", treeOfSize(source, first), treeOfSize(source, second), treeOfSize(source, size-1-first-second))
	}
	first := 3 + source.Intn(size-6)
	return treeWith([]string{"@", "l", "p"}[source.Intn(3)], treeOfSize(source, first), treeOfSize(source, size-1-first))
}

func TestTermsOfEverySize(t *testing.T) {
	source := rand.New(rand.NewSource(6))
	for size := 3; size <= 2000; size++ {
		for count := range 1 + 4000/(size*size) {
			whole := treeOfSize(source, size)
			if len(whole.text) != size {
				t.Fatalf("%q has %d bytes, want %d", whole.text, len(whole.text), size)
			}
			checkTree(t, whole)
			if count == 0 && size%20 == 0 {
				checkText(t, whole.text)
			}
		}
	}
}

func TestTermSizeLimit(t *testing.T) {
	source := rand.New(rand.NewSource(66))
	for _, size := range []int{100, 1000, 1990, 1996, 1997, 1998, 1999, 2000} {
		for _, text := range nestedTexts(size) {
			if _, ok := treeOf(text); !ok || len(text) != size {
				t.Fatalf("%q with %d bytes is not a term with %d bytes", text, len(text), size)
			}
			checkText(t, text)
			checkNoTerm(t, text[:size-1])
			checkNoTerm(t, text+".")
		}
	}
	for _, size := range []int{2001, 2002, 2003, 2004, 2010, 3000, 4000, 10000, 10001, 65536 + 100, 100000} {
		for _, text := range nestedTexts(size) {
			checkNoTerm(t, text)
		}
	}
	for range 200 {
		checkTree(t, treeOfSize(source, 2000))
		checkNoTerm(t, treeOfSize(source, 2001).text)
	}
	for _, piece := range []string{"@", "l", "p", "t", "@v0.", "v0.", "ca;.", "v", "s", "c", "c;", ".", "tsz.", "ca;z,", "s+", "v1"} {
		checkNoTerm(t, strings.Repeat(piece, 2000/len(piece)))
		checkNoTerm(t, strings.Repeat(piece, 1000000/len(piece)))
	}
}

func TestTermSizeIsThatOfThePartsPlusOne(t *testing.T) {
	source := rand.New(rand.NewSource(666))
	for range 2000 {
		whole := treeOfSize(source, 3+source.Intn(300)).text
		size := 1
		for _, part := range impl.TermParts(whole) {
			if !impl.TermOk(part) {
				t.Errorf("the part %q of %q is not a term", part, whole)
			}
			size += impl.TermSize(part)
		}
		if got := impl.TermSize(whole); got != size {
			t.Errorf("TermSize(%q) = %d, want %d", whole, got, size)
		}
	}
}

// everyPlace calls use with the text before and after each place in up to most terms around it, and the number of binders above it.
func everyPlace(most int, use func(before string, after string, binders int)) {
	use("", "", 0)
	if most == 0 {
		return
	}
	forms := []struct {
		before, after string
		binders       int
	}{
		{"lsz.", "", 1}, {"psz.", "", 1}, {"tsz.sz.", "", 1},
		{"l", "sz.", 0}, {"p", "sz.", 0}, {"t", "sz.sz.", 0}, {"tsz.", "sz.", 0}, {"@", "sz.", 0}, {"@sz.", "", 0},
	}
	for _, form := range forms {
		everyPlace(most-1, func(before string, after string, binders int) {
			use(form.before+before, after+form.after, form.binders+binders)
		})
	}
}

func TestTermOpenUnderBinders(t *testing.T) {
	everyPlace(4, func(before string, after string, binders int) {
		for _, n := range []int{0, 1, 2, 3, 4, 5, 998, 999} {
			text := before + variableTree(n).text + after
			if got, want := impl.TermOpen(text), max(n+1-binders, 0); got != want {
				t.Errorf("TermOpen(%q) = %d, want %d", text, got, want)
			}
		}
	})
}

func TestTermOpenManyBinders(t *testing.T) {
	for _, form := range []string{"lsz.", "psz.", "tsz.sz."} {
		for binders := range 280 {
			for _, n := range []int{0, binders - 1, binders, binders + 1, 2 * binders, 999} {
				if n < 0 {
					continue
				}
				text := strings.Repeat(form, binders) + "v" + strconv.Itoa(n) + "."
				if got, want := impl.TermOpen(text), max(n+1-binders, 0); got != want {
					t.Errorf("TermOpen of variable %d under %d binders %q = %d, want %d", n, binders, form, got, want)
				}
			}
		}
	}
}

func TestTermOpenFigures(t *testing.T) {
	figures := []struct {
		text string
		open int
	}{
		// A variable whose binder is within the term adds nothing.
		{"lsz.v0.", 0}, {"lsz.v1.", 1}, {"lsz.v2.", 2}, {"lv0.v0.", 1}, {"lv0.sz.", 1}, {"lv0.v1.", 1}, {"lv0.v2.", 2}, {"psz.v0.", 0}, {"psz.v1.", 1}, {"pv3.v1.", 4}, {"lsz.lsz.v1.", 0}, {"lsz.lsz.v2.", 1}, {"lsz.lv0.v0.", 0}, {"lsz.lv1.v0.", 1},
		{"tsz.sz.v0.", 0}, {"tsz.sz.v1.", 1}, {"tsz.v0.v0.", 1}, {"tv0.sz.v0.", 1}, {"tsz.v1.v0.", 2}, {"tv1.sz.v0.", 2}, {"tv0.v0.v1.", 1}, {"tv0.v0.v2.", 2}, {"lsz.tv0.v0.v1.", 0}, {"lsz.tv1.v0.v0.", 1}, {"lsz.tv0.v1.v0.", 1}, {"lsz.tv0.v0.v2.", 1},
		// The greatest one counts, wherever it is.
		{"@v0.v3.", 4}, {"@v3.v0.", 4}, {"@lsz.v0.v0.", 1}, {"@lsz.v4.lsz.v2.", 4}, {"@lsz.v2.v3.", 4}, {"lv4.v4.", 5}, {"pv4.v5.", 5}, {"pv4.v6.", 6}, {"tv8.v1.v1.", 9}, {"tv1.v8.v1.", 9}, {"tv1.v1.v8.", 8}, {"lsz.@v0.v5.", 5}, {"lsz.@v5.v0.", 5}, {"lsz.@v0.lsz.v1.", 0},
		{"sz.", 0}, {"ca;.", 0}, {"@sz.ca;.", 0}, {"su2.", 0}, {"ca;u2,.", 0}, {"v999.", 1000}, {"lsz.v999.", 999}, {"lv999.v999.", 1000}, {"@v0.v999.", 1000},
		{"", 0}, {"v", 0}, {"v5", 0}, {"v05.", 0}, {"v1000.", 0}, {"@v5.", 0}, {"lsz.v5", 0}, {"v5.v5.", 0}, {"tv5.v5.", 0}, {"lv5.v5.v5.", 0},
	}
	for _, f := range figures {
		if got := impl.TermOpen(f.text); got != f.open {
			t.Errorf("TermOpen(%q) = %d, want %d", f.text, got, f.open)
		}
		checkText(t, f.text)
	}
}

func TestVarText(t *testing.T) {
	for n := -10; n <= 1100; n++ {
		want := ""
		if n >= 0 && n <= 999 {
			want = "v" + strconv.Itoa(n) + "."
		}
		if got := impl.VarText(n); got != want {
			t.Errorf("VarText(%d) = %q, want %q", n, got, want)
		}
	}
	for _, n := range []int{math.MinInt, math.MinInt + 1, math.MaxInt - 1, math.MaxInt, math.MinInt32, math.MaxInt32, -999, -1000, 1 << 32, 1<<32 + 5, -1 << 32, 1000000000, 9999} {
		if got := impl.VarText(n); got != "" {
			t.Errorf("VarText(%d) = %q, want none", n, got)
		}
	}
}

// checkConstText checks that the text has the name and the levels, or is empty if there is none.
func checkConstText(t *testing.T, name string, levels []string, ok bool) {
	t.Helper()
	kept := slices.Clone(levels)
	got := impl.ConstText(name, levels)
	if !slices.Equal(levels, kept) {
		t.Errorf("ConstText changed its levels %.200q to %.200q", kept, levels)
	}
	if !ok {
		if got != "" {
			t.Errorf("ConstText(%.80q, %.200q) = %.200q, want none", name, levels, got)
		}
		return
	}
	if want := constantTree(name, levels...).text; got != want {
		t.Errorf("ConstText(%q, %q) = %q, want %q", name, levels, got, want)
	}
	for _, argument := range append(kept, name) {
		checkNewString(t, got, argument)
	}
	gotName, gotLevels, found := impl.ConstIn(got)
	if !found || gotName != name || !slices.Equal(gotLevels, levels) {
		t.Errorf("ConstIn(%q) = %q, %q, %v, want %q, %q", got, gotName, gotLevels, found, name, levels)
	}
}

func TestConstText(t *testing.T) {
	long := strings.Repeat("+", 59) + "z"
	for _, name := range validNames() {
		for _, levels := range [][]string{nil, {}, {"z"}, {"u2"}, {"u1", "u0"}, {"+z", "izz", "mu0u1"}, {long, long, long}} {
			checkConstText(t, name, levels, true)
		}
		for _, levels := range [][]string{{"z", "z", "z", "z"}, {"u0", "u1", "u2", "z", "z"}, slices.Repeat([]string{"z"}, 100000), {"", "", "", ""}} {
			checkConstText(t, name, levels, false)
		}
	}
	for _, name := range invalidNames() {
		for _, levels := range [][]string{nil, {}, {"z"}, {"u0", "u1", "u2"}, {"z", "z", "z", "z"}, {""}} {
			checkConstText(t, name, levels, false)
		}
	}
	for _, level := range append(invalidLevels(), "+"+long, long+"z", strings.Repeat("+", 100000)+"z", "z,z", "z,", "z,.", ",") {
		for _, levels := range [][]string{{level}, {level, "z"}, {"z", level}, {level, "z", "z"}, {"z", level, "z"}, {"z", "z", level}, {level, level, level}} {
			checkConstText(t, "a.b", levels, false)
		}
	}
}

func TestConstInFigures(t *testing.T) {
	figures := []struct {
		text   string
		name   string
		levels []string
	}{
		{"ca;.", "a", nil}, {"cnat.zero;.", "nat.zero", nil}, {"ca;z,.", "a", []string{"z"}}, {"cnat.rec;+z,.", "nat.rec", []string{"+z"}}, {"ca.b.c.d.e;u0,u1,u2,.", "a.b.c.d.e", []string{"u0", "u1", "u2"}}, {"cc;mzz,i+zu1,.", "c", []string{"mzz", "i+zu1"}}, {"ca;u1,u0,.", "a", []string{"u1", "u0"}}, {"ca;z,z,z,.", "a", []string{"z", "z", "z"}},
		{"v0.", "", nil}, {"v999.", "", nil}, {"sz.", "", nil}, {"su0.", "", nil}, {"@ca;.cb;.", "", nil}, {"@ca;z,.v0.", "", nil}, {"lca;.cb;.", "", nil}, {"pca;.ca;.", "", nil}, {"tca;.cb;.cc;.", "", nil},
		{"", "", nil}, {"c", "", nil}, {"ca", "", nil}, {"ca;", "", nil}, {"a;.", "", nil}, {"ca.", "", nil}, {"ca;z.", "", nil}, {"ca;z,", "", nil}, {"ca;.ca;.", "", nil}, {"ca;..", "", nil}, {"ca;. ", "", nil}, {" ca;.", "", nil}, {"ca;z,z,z,z,.", "", nil}, {"cA;.", "", nil}, {"c;.", "", nil}, {"ca;u3,.", "", nil}, {"ca;,.", "", nil}, {"@ca;.", "", nil},
	}
	for _, f := range figures {
		name, levels, ok := impl.ConstIn(f.text)
		if name != f.name || !slices.Equal(levels, f.levels) || ok != (f.name != "") {
			t.Errorf("ConstIn(%q) = %q, %q, %v, want %q, %q", f.text, name, levels, ok, f.name, f.levels)
		}
		checkText(t, f.text)
	}
}

func TestEveryShortText(t *testing.T) {
	check := func(s string) { checkText(t, s) }
	everyText("v019.", 6, check)
	everyText("@v0.", 8, check)
	everyText("lpsz.", 7, check)
	everyText("ca;z,.", 6, check)
	everyText("vsc@lpt0za;,.+u", 4, check)
	everyText("z,.", 8, func(s string) { checkText(t, "ca;"+s) })
	everyText("ab.;", 6, func(s string) { checkText(t, "c"+s+";.") })
	everyText("TV", 7, func(s string) {
		pieces := strings.NewReplacer("T", "t", "V", "v1.")
		checkText(t, pieces.Replace(s))
		checkText(t, pieces.Replace("T"+s+"V"))
		checkText(t, pieces.Replace("TTVV"+s))
	})
}

// TestChangedTerms changes one or more bytes of terms; some of the texts are terms again.
func TestChangedTerms(t *testing.T) {
	source := rand.New(rand.NewSource(6666))
	pieces := []string{"", "v", "s", "c", "@", "l", "p", "t", ".", ";", ",", "0", "1", "z", "u", "+", "a", "v0.", "sz.", "ca;.", "@v0.", "tsz.", "\x00", "\xff", " "}
	terms, others := 0, 0
	for range 60000 {
		s := treeOfSize(source, 3+source.Intn(40)).text
		for range 1 + source.Intn(2) {
			begin := source.Intn(len(s) + 1)
			end := min(begin+source.Intn(3), len(s))
			s = s[:begin] + pieces[source.Intn(len(pieces))] + s[end:]
		}
		checkText(t, s)
		if _, ok := treeOf(s); ok {
			terms++
		} else {
			others++
		}
	}
	if terms < 1000 || others < 1000 {
		t.Errorf("%d terms and %d other texts are too few", terms, others)
	}
}

func TestConstTextLeavesSpareCapacity(t *testing.T) {
	backing := []string{"+z", "u0", "mzz", "spare1", "spare2"}
	kept := slices.Clone(backing)
	for size := range len(backing) + 1 {
		for _, name := range []string{"a", "nat.rec", "", "A", "a.b.c.d.e.f"} {
			impl.ConstText(name, backing[:size])
		}
	}
	if !slices.Equal(backing, kept) {
		t.Errorf("the memory of the levels was changed: %q", backing)
	}
}

func TestTermResultsAreNewMemory(t *testing.T) {
	for _, whole := range someTrees() {
		parts := impl.TermParts(whole.text)
		_, levels, _ := impl.ConstIn(whole.text)
		for at := range parts {
			parts[at] = "changed"
		}
		for at := range levels {
			levels[at] = "changed"
		}
		_, _ = append(parts[:0:cap(parts)], "appended"), append(levels[:0:cap(levels)], "appended")
		checkTree(t, whole)
	}
	arguments := []string{"u0", "+u1"}
	text := impl.ConstText("a", arguments)
	arguments[0] = "z"
	_, levels, _ := impl.ConstIn(text)
	if text != "ca;u0,+u1,." || !slices.Equal(levels, []string{"u0", "+u1"}) {
		t.Errorf("a changed argument changed the result to %q, %q", text, levels)
	}
}
