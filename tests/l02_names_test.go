package tests

import (
	"math/rand"
	"regexp"
	"slices"
	"sort"
	"strings"
	"testing"
	"unsafe"

	"loop.example/g00963/impl"
)

// nameShape is the document's definition of a name without the limit on its bytes.
var nameShape = regexp.MustCompile(`^[a-z][a-z0-9]*(\.[a-z][a-z0-9]*){0,4}\z`)

func isName(s string) bool {
	return len(s) <= 40 && nameShape.MatchString(s)
}

func validNames() []string {
	return []string{
		"a", "z", "m", "a0", "z9", "a1b2", "abc", "nat", "nat.zero", "a.b", "a.bc", "ab.c", "a.b.c", "a.b.c.d", "a.b.c.d.e",
		"a0.b1.c2.d3.e4", "a.a", "a.a.a.a.a", "x.y", "a.b.c1",
		strings.Repeat("a", 40), "a" + strings.Repeat("0", 39), strings.Repeat("abcdefg.", 4) + "abcdefgh", strings.Repeat("a", 38) + ".b",
	}
}

func invalidNames() []string {
	return []string{
		"", " ", ".", "..", "...", "....", ".....",
		".a", "..a", "a.", "a..", "a..b", "a.b..c", ".a.b", "a.b.", "a.b.c.d.e.", ".a.b.c.d.e",
		"1", "0a", "9", "a.1", "a.1b", "1.a", "a.b.c.d.5", "a.0.b",
		"A", "Z", "aB", "Ab", "a.B", "a.bC", "NAT",
		"a b", " a", "a ", "a-b", "a_b", "_a", "a,b", "a;b", "a:b", "a/b", "a\n", "\na", "a\x00", "\x00", "a\tb", "`", "{", "a`", "a{", "@", "[",
		"\x80", "a\x80", "\xff", "a.\xff", "é", "aé", "a\xc3", "ａ", "a．b", "a\u0661", "a.\u0430", "\ufffd", "a\ufffd",
		"a.b.c.d.e.f", "a.b.c.d.e.f.g", "a0.b1.c2.d3.e4.f5", strings.Repeat("a.", 19) + "a",
		strings.Repeat("a", 41), "a" + strings.Repeat("0", 40), strings.Repeat("abcdefg.", 4) + "abcdefghi", strings.Repeat("a", 39) + ".b",
		strings.Repeat("a", 100000), strings.Repeat("a.", 100000) + "a",
	}
}

// checkNewString reports a result that lies in the memory of an argument.
func checkNewString(t *testing.T, result string, argument string) {
	t.Helper()
	if len(result) == 0 || len(argument) == 0 {
		return
	}
	first, begin := uintptr(unsafe.Pointer(unsafe.StringData(result))), uintptr(unsafe.Pointer(unsafe.StringData(argument)))
	if first < begin+uintptr(len(argument)) && begin < first+uintptr(len(result)) {
		t.Errorf("the result %q shares memory with the argument %q", result, argument)
	}
}

func TestNameLimits(t *testing.T) {
	if impl.MaxName != 40 || impl.MaxDepth != 5 {
		t.Errorf("limits %d, %d, want 40, 5", impl.MaxName, impl.MaxDepth)
	}
}

func TestNameOkFigures(t *testing.T) {
	for _, s := range validNames() {
		if !impl.NameOk(s) {
			t.Errorf("NameOk(%q) = false", s)
		}
	}
	for _, s := range invalidNames() {
		if impl.NameOk(s) {
			t.Errorf("NameOk(%.60q) = true", s)
		}
	}
}

func TestNameOkBytes(t *testing.T) {
	for b := range 256 {
		one := string([]byte{byte(b)})
		for _, s := range []string{one, one + "a", "a" + one, "a" + one + "b", "a." + one, one + ".a", "a." + one + "b", "a.b" + one, "a.b" + one + ".c"} {
			if got, want := impl.NameOk(s), isName(s); got != want {
				t.Errorf("NameOk(%q) = %v, want %v", s, got, want)
			}
		}
	}
}

func TestNameOkByteLimit(t *testing.T) {
	for size := range 60 {
		for _, s := range []string{strings.Repeat("a", size), strings.Repeat("b", size) + ".c", "b." + strings.Repeat("c", size), "a.b.c.d." + strings.Repeat("e", size)} {
			if got, want := impl.NameOk(s), isName(s); got != want {
				t.Errorf("NameOk of %d bytes (%q) = %v, want %v", len(s), s, got, want)
			}
		}
	}
}

func TestNameOkPartLimit(t *testing.T) {
	for _, part := range []string{"a", "z9", "abc"} {
		for count := 1; count <= 10; count++ {
			s := strings.Join(slices.Repeat([]string{part}, count), ".")
			if got, want := impl.NameOk(s), count <= impl.MaxDepth; got != want {
				t.Errorf("NameOk of %d parts (%q) = %v, want %v", count, s, got, want)
			}
			parts := impl.NameParts(s)
			if count <= impl.MaxDepth && len(parts) != count || count > impl.MaxDepth && parts != nil {
				t.Errorf("NameParts of %d parts = %q", count, parts)
			}
		}
	}
}

// everyText calls use with all texts of up to most characters of letters.
func everyText(letters string, most int, use func(string)) {
	texts := []string{""}
	for size := 0; size <= most; size++ {
		longer := []string{}
		for _, s := range texts {
			use(s)
			for at := range len(letters) {
				longer = append(longer, s+letters[at:at+1])
			}
		}
		texts = longer
	}
}

func TestNameOkEveryShortText(t *testing.T) {
	everyText("a1.A", 6, func(s string) {
		if got, want := impl.NameOk(s), isName(s); got != want {
			t.Errorf("NameOk(%q) = %v, want %v", s, got, want)
		}
	})
	everyText("a.", 12, func(s string) {
		if got, want := impl.NameOk(s), isName(s); got != want {
			t.Errorf("NameOk(%q) = %v, want %v", s, got, want)
		}
	})
}

func TestNamePartsFigures(t *testing.T) {
	cases := []struct {
		s    string
		want []string
	}{
		{"a", []string{"a"}},
		{"x.y", []string{"x", "y"}},
		{"nat.zero", []string{"nat", "zero"}},
		{"a.a.a", []string{"a", "a", "a"}},
		{"a0.bb.c12.d.e", []string{"a0", "bb", "c12", "d", "e"}},
		{strings.Repeat("a", 40), []string{strings.Repeat("a", 40)}},
	}
	for _, c := range cases {
		if got := impl.NameParts(c.s); !slices.Equal(got, c.want) {
			t.Errorf("NameParts(%q) = %q, want %q", c.s, got, c.want)
		}
	}
}

func TestNamePartsMakeTheName(t *testing.T) {
	for _, s := range validNames() {
		parts := impl.NameParts(s)
		if strings.Join(parts, ".") != s {
			t.Errorf("NameParts(%q) = %q", s, parts)
		}
		for _, part := range parts {
			if !impl.NameOk(part) || strings.Contains(part, ".") {
				t.Errorf("NameParts(%q) has the part %q", s, part)
			}
		}
	}
	for _, s := range invalidNames() {
		if got := impl.NameParts(s); len(got) != 0 {
			t.Errorf("NameParts(%.60q) = %q, want nil", s, got)
		}
	}
}

func TestNamePartsReturnNewMemory(t *testing.T) {
	for _, s := range validNames() {
		first, second := impl.NameParts(s), impl.NameParts(s)
		for _, part := range first {
			checkNewString(t, part, s)
		}
		first[0] = "changed"
		_ = append(first[:1], "changed")
		if strings.Join(second, ".") != s {
			t.Errorf("a changed result changes another: %q", second)
		}
	}
}

func TestUnderFigures(t *testing.T) {
	cases := []struct {
		prefix, name string
		want         bool
	}{
		{"a", "a", true}, {"a", "a.b", true}, {"a.b", "a.b.c", true}, {"a.b", "a.b", true}, {"a", "a.b.c.d.e", true}, {"a.b.c.d", "a.b.c.d.e", true},
		{"a.b", "a.bc", false}, {"a", "ab", false}, {"a", "a1", false}, {"a", "ab.c", false}, {"a.b", "a.b1.c", false}, {"na", "nat.zero", false},
		{"a.b", "a", false}, {"a.b.c", "a.b", false}, {"b", "a.b", false}, {"a.c", "a.b.c", false}, {"a.b", "a.c", false}, {"b", "a", false},
		{"", "", false}, {"", "a", false}, {"a", "", false}, {".", "a", false}, {"a.", "a.b", false}, {"a", "a.", false}, {"a", ".a", false}, {"a.", "a.", false},
		{"A", "A", false}, {"A", "A.b", false}, {"a", "a.B", false}, {"a", "a.1", false}, {"1", "1.a", false}, {"a", "a..b", false}, {"\xff", "\xff", false},
		{"a", "a.b.c.d.e.f", false}, {"a.b.c.d.e", "a.b.c.d.e.f", false}, {"a.b.c.d.e.f", "a.b.c.d.e.f", false}, {"a.b.c.d.e.f", "a.b.c.d.e", false},
		{strings.Repeat("a", 40), strings.Repeat("a", 40), true}, {strings.Repeat("a", 41), strings.Repeat("a", 41), false},
		{strings.Repeat("a", 38), strings.Repeat("a", 38) + ".b", true}, {strings.Repeat("a", 39), strings.Repeat("a", 39) + ".b", false},
	}
	for _, c := range cases {
		if got := impl.Under(c.prefix, c.name); got != c.want {
			t.Errorf("Under(%q, %q) = %v, want %v", c.prefix, c.name, got, c.want)
		}
	}
}

func TestUnderComparesParts(t *testing.T) {
	texts := []string{}
	everyText("ab.", 5, func(s string) { texts = append(texts, s) })
	for _, prefix := range texts {
		for _, name := range texts {
			want := false
			if isName(prefix) && isName(name) {
				p, n := strings.Split(prefix, "."), strings.Split(name, ".")
				want = len(p) <= len(n) && slices.Equal(p, n[:len(p)])
			}
			if got := impl.Under(prefix, name); got != want {
				t.Fatalf("Under(%q, %q) = %v, want %v", prefix, name, got, want)
			}
		}
	}
}

func TestNameAddFigures(t *testing.T) {
	long := strings.Repeat("a", 38)
	cases := []struct{ s, part, want string }{
		{"a", "b", "a.b"}, {"a.b", "c1", "a.b.c1"}, {"a", "a", "a.a"}, {"a.b.c.d", "e", "a.b.c.d.e"},
		{"a", "b.c", "a.b.c"}, {"a", "b.c.d.e", "a.b.c.d.e"}, {"a.b", "c.d.e", "a.b.c.d.e"},
		{long, "b", long + ".b"}, {"b", long, "b." + long},
	}
	for _, c := range cases {
		if got, ok := impl.NameAdd(c.s, c.part); !ok || got != c.want {
			t.Errorf("NameAdd(%q, %q) = %q, %v, want %q", c.s, c.part, got, ok, c.want)
		}
	}
	rejected := [][2]string{
		{"", ""}, {"", "a"}, {"a", ""}, {".", "a"}, {"a", "."}, {"a.", "b"}, {"a", ".b"}, {"a", "b."}, {"a", "b..c"}, {"a..b", "c"},
		{"a", "1"}, {"a", "1b"}, {"1", "a"}, {"A", "b"}, {"a", "B"}, {"a", "b c"}, {"a", "\xff"}, {"a", "é"}, {"a\x80", "b"},
		{"a.b.c.d.e", "f"}, {"a", "b.c.d.e.f"}, {"a.b.c", "d.e.f"}, {"a.b.c.d", "e.f"}, {"a.b.c.d.e.f", "g"}, {"a", "b.c.d.e.f.g"},
		{long, "bc"}, {long + "a", "b"}, {long + "aa", "b"}, {"bc", long}, {"b", long + "a"}, {long + "aaa", "b"}, {"b", long + "aaa"},
	}
	for _, c := range rejected {
		if got, ok := impl.NameAdd(c[0], c[1]); ok || got != "" {
			t.Errorf("NameAdd(%q, %q) = %q, %v, want false", c[0], c[1], got, ok)
		}
	}
}

func TestExtendedNameIsUnderTheName(t *testing.T) {
	all := slices.Concat(validNames(), invalidNames())
	for _, s := range all {
		for _, part := range all {
			got, ok := impl.NameAdd(s, part)
			joined := s + "." + part
			if want := isName(s) && isName(part) && isName(joined); ok != want || ok && got != joined || !ok && got != "" {
				t.Errorf("NameAdd(%.60q, %.60q) = %q, %v, want %v", s, part, got, ok, want)
			}
			if !ok {
				continue
			}
			checkNewString(t, got, s)
			checkNewString(t, got, part)
			if !impl.NameOk(got) || !impl.Under(s, got) || impl.Under(got, s) || !impl.Under(got, got) {
				t.Errorf("%q is not a name under %q", got, s)
			}
			if want := slices.Concat(impl.NameParts(s), impl.NameParts(part)); !slices.Equal(impl.NameParts(got), want) {
				t.Errorf("NameParts(%q) = %q, want %q", got, impl.NameParts(got), want)
			}
		}
	}
}

func TestNamesOkFigures(t *testing.T) {
	accepted := [][]string{
		nil, {}, {"a"}, {"a", "b"}, {"a", "a.b", "ab", "b"}, {"a", "a.a"}, {"a.b", "a0", "aa"}, {"a.z", "b"}, {"a.b.c.d.e", strings.Repeat("b", 40)},
	}
	for _, list := range accepted {
		if !impl.NamesOk(list) {
			t.Errorf("NamesOk(%q) = false", list)
		}
	}
	rejected := [][]string{
		{""}, {"a", ""}, {"", "a"}, {"A"}, {"A", "b"}, {"a", "b", "c."}, {"a", "b.1", "c"}, {"a\xff"}, {"a", "é"}, {"a.b.c.d.e.f"}, {strings.Repeat("b", 41)},
		{"a", "a"}, {"b", "a"}, {"a", "b", "b"}, {"a", "a", "b"}, {"a", "c", "b"}, {"b", "a", "c"}, {"a.a", "a"}, {"aa", "a.b"}, {"a", "b", "a"},
	}
	for _, list := range rejected {
		if impl.NamesOk(list) {
			t.Errorf("NamesOk(%q) = true", list)
		}
	}
}

// unionOf is an independent description of NamesBoth.
func unionOf(a []string, b []string) []string {
	seen := map[string]bool{}
	for _, s := range slices.Concat(a, b) {
		seen[s] = true
	}
	union := []string{}
	for s := range seen {
		union = append(union, s)
	}
	sort.Strings(union)
	return union
}

func checkUnion(t *testing.T, a []string, b []string, want []string) {
	t.Helper()
	keptA, keptB := slices.Clone(a), slices.Clone(b)
	got := impl.NamesBoth(a, b)
	if !slices.Equal(got, want) {
		t.Errorf("NamesBoth(%q, %q) = %q, want %q", a, b, got, want)
	}
	if !slices.Equal(a, keptA) || !slices.Equal(b, keptB) {
		t.Errorf("NamesBoth changed its arguments %q, %q to %q, %q", keptA, keptB, a, b)
	}
	for _, s := range slices.Concat(a, b) {
		if !impl.NameIn(got, s) {
			t.Errorf("%q is not in the union %q", s, got)
		}
	}
	for _, s := range got {
		if !impl.NameIn(a, s) && !impl.NameIn(b, s) {
			t.Errorf("%q of the union is in neither list", s)
		}
	}
}

func TestNamesBothFigures(t *testing.T) {
	cases := []struct{ a, b, want []string }{
		{nil, nil, nil}, {[]string{}, nil, nil}, {nil, []string{}, nil},
		{[]string{"a"}, nil, []string{"a"}}, {nil, []string{"a"}, []string{"a"}}, {[]string{"a"}, []string{"a"}, []string{"a"}},
		{[]string{"b", "a"}, []string{"a", "c"}, []string{"a", "b", "c"}},
		{[]string{"c", "b", "a"}, nil, []string{"a", "b", "c"}},
		{[]string{"a", "a", "a"}, []string{"a", "a"}, []string{"a"}},
		{nil, []string{"b", "a", "b", "a"}, []string{"a", "b"}},
		{[]string{"ab", "a.b"}, []string{"a", "a0"}, []string{"a", "a.b", "a0", "ab"}},
		{[]string{"", "A", "\xff"}, []string{"", "z", " ", "é", "\x00", "1"}, []string{"", "\x00", " ", "1", "A", "z", "é", "\xff"}},
		{[]string{"a.b.c.d.e.f", strings.Repeat("a", 41)}, []string{"a..b"}, []string{"a..b", "a.b.c.d.e.f", strings.Repeat("a", 41)}},
		{[]string{"\xff", "\xef\xbf\xbd", "\xfe"}, []string{"\xff"}, []string{"\xef\xbf\xbd", "\xfe", "\xff"}},
	}
	for _, c := range cases {
		checkUnion(t, c.a, c.b, c.want)
		checkUnion(t, c.b, c.a, c.want)
	}
}

func TestNamesBothContainsEachList(t *testing.T) {
	source := rand.New(rand.NewSource(2))
	pool := slices.Concat(validNames(), invalidNames())
	for range 2000 {
		a, b := []string{}, []string{}
		for range source.Intn(12) {
			a = append(a, pool[source.Intn(len(pool))])
		}
		for range source.Intn(12) {
			b = append(b, pool[source.Intn(len(pool))])
		}
		checkUnion(t, a, b, unionOf(a, b))
	}
}

func TestUnionOfNamesIsOk(t *testing.T) {
	names := validNames()
	for cut := range len(names) + 1 {
		union := impl.NamesBoth(names[:cut], names[cut/2:])
		if !impl.NamesOk(union) {
			t.Errorf("the union %q of names is not ok", union)
		}
		checkUnion(t, union, union, union)
	}
}

func TestNamesBothLeavesSpareCapacity(t *testing.T) {
	backing := []string{"c", "b", "spare1", "spare2", "spare3"}
	other := []string{"d", "a", "c"}
	checkUnion(t, backing[:2], other, []string{"a", "b", "c", "d"})
	checkUnion(t, other, backing[:2], []string{"a", "b", "c", "d"})
	checkUnion(t, backing[:2], nil, []string{"b", "c"})
	checkUnion(t, nil, backing[:2], []string{"b", "c"})
	checkUnion(t, backing[:2], backing[1:3], []string{"b", "c", "spare1"})
	if !slices.Equal(backing, []string{"c", "b", "spare1", "spare2", "spare3"}) {
		t.Errorf("the memory behind an argument was changed: %q", backing)
	}
}

func TestNamesBothReturnsNewMemory(t *testing.T) {
	for _, lists := range [][2][]string{{{"a", "b"}, nil}, {nil, {"a", "b"}}, {{"a"}, {"b"}}, {{"a", "b"}, {"a", "b"}}} {
		a, b := slices.Clone(lists[0]), slices.Clone(lists[1])
		got := impl.NamesBoth(a, b)
		for _, s := range got {
			for _, argument := range slices.Concat(a, b) {
				checkNewString(t, s, argument)
			}
		}
		for at := range got {
			got[at] = "changed"
		}
		_ = append(got[:1], "changed")
		if !slices.Equal(a, lists[0]) || !slices.Equal(b, lists[1]) {
			t.Errorf("a changed result changes the arguments to %q, %q", a, b)
		}
	}
}

func TestNameInFigures(t *testing.T) {
	list := []string{"b", "a.b", "", "a", "a", "Z\xff"}
	kept := slices.Clone(list)
	for _, s := range list {
		if !impl.NameIn(list, s) {
			t.Errorf("NameIn does not find %q", s)
		}
	}
	for _, s := range []string{"c", "a.", "a.bc", "ab", "B", " ", "z\xff", "Z\xfe", "Z"} {
		if impl.NameIn(list, s) {
			t.Errorf("NameIn finds %q", s)
		}
	}
	if impl.NameIn(nil, "") || impl.NameIn(nil, "a") || impl.NameIn([]string{}, "") || impl.NameIn(list[:2], "a") {
		t.Error("NameIn finds a string that is not in the list")
	}
	if !slices.Equal(list, kept) {
		t.Errorf("NameIn changed its argument to %q", list)
	}
}

func TestNamesOkLeavesItsArgument(t *testing.T) {
	list := []string{"b", "a", "a", "", "A"}
	for size := range len(list) + 1 {
		impl.NamesOk(list[:size])
	}
	if !slices.Equal(list, []string{"b", "a", "a", "", "A"}) {
		t.Errorf("NamesOk changed its argument to %q", list)
	}
}
