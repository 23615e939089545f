package tests

import (
	"math"
	"math/rand"
	"slices"
	"sort"
	"strings"
	"testing"

	"loop.example/g00963/impl"
)

// kindWords are the document's words of the kinds 1 to 5.
var kindWords = []string{"axiom", "opaque", "unsafe", "nouniv", "nopos"}

func isKind(kind int) bool {
	return kind >= 1 && kind <= 5
}

func someKinds() []int {
	return []int{math.MinInt, math.MinInt + 1, -6, -5, -2, -1, 0, 1, 2, 3, 4, 5, 6, 7, 255, 256, 257, 1 << 32, 1<<32 + 1, math.MaxInt - 1, math.MaxInt}
}

// someLabels are labels of all kinds and numbers next to them, with valid and invalid names.
func someLabels() []impl.Label {
	labels := []impl.Label{}
	for _, kind := range someKinds() {
		for _, name := range slices.Concat(validNames(), invalidNames()) {
			labels = append(labels, impl.Label{Kind: kind, Name: name})
		}
	}
	return labels
}

// fewLabels mix kinds and names so that their order by kind differs from their order by name.
func fewLabels() []impl.Label {
	labels := []impl.Label{}
	for _, kind := range []int{math.MinInt, -1, 0, 1, 2, 3, 4, 5, 6, math.MaxInt} {
		for _, name := range []string{"", "A", "a", "a.b", "a0", "ab", "b", "z", "\xff", "a..b", strings.Repeat("c", 41)} {
			labels = append(labels, impl.Label{Kind: kind, Name: name})
		}
	}
	return labels
}

// isLess is an independent description of the order of labels.
func isLess(a impl.Label, b impl.Label) bool {
	if a.Kind != b.Kind {
		return a.Kind < b.Kind
	}
	return a.Name < b.Name
}

// short is a label that go vet lets a table write without the names of its fields.
type short struct {
	Kind int
	Name string
}

// labelsOf returns the labels of list, and nil for nil.
func labelsOf(list []short) []impl.Label {
	if list == nil {
		return nil
	}
	labels := []impl.Label{}
	for _, l := range list {
		labels = append(labels, impl.Label(l))
	}
	return labels
}

func TestLabelKinds(t *testing.T) {
	got := []int{impl.LbAxiom, impl.LbOpaque, impl.LbUnsafe, impl.LbNoUniv, impl.LbNoPos}
	if want := []int{1, 2, 3, 4, 5}; !slices.Equal(got, want) {
		t.Errorf("kinds %v, want %v", got, want)
	}
	if zero := (impl.Label{}); zero.Kind != 0 || zero.Name != "" || impl.LabelOk(zero) {
		t.Errorf("the zero label %v is valid", zero)
	}
}

func TestLabelOk(t *testing.T) {
	for _, l := range someLabels() {
		if got, want := impl.LabelOk(l), isKind(l.Kind) && isName(l.Name); got != want {
			t.Errorf("LabelOk(%d, %.60q) = %v, want %v", l.Kind, l.Name, got, want)
		}
	}
}

func TestLabelNameLimit(t *testing.T) {
	for _, name := range []string{strings.Repeat("a", impl.MaxName), strings.Repeat("b", impl.MaxName-2) + ".c", "a.b.c.d." + strings.Repeat("e", impl.MaxName-8)} {
		for kind := 1; kind <= 5; kind++ {
			l := impl.Label{Kind: kind, Name: name}
			text := kindWords[kind-1] + ":" + name
			if got, ok := impl.LabelText(l); !ok || got != text || !impl.LabelOk(l) || !impl.LabelsOk([]impl.Label{l}) {
				t.Errorf("the label %v of MaxName bytes has the text %q, %v", l, got, ok)
			}
			if got, ok := impl.ReadLabel(text); !ok || got != l {
				t.Errorf("ReadLabel(%q) = %v, %v, want %v", text, got, ok, l)
			}
			l.Name += "x"
			if got, ok := impl.LabelText(l); ok || got != "" || impl.LabelOk(l) || impl.LabelsOk([]impl.Label{l}) {
				t.Errorf("the label %v of MaxName+1 bytes has the text %q, %v", l, got, ok)
			}
			checkNoLabel(t, text+"x")
		}
	}
}

func TestLabelTextFigures(t *testing.T) {
	cases := []struct {
		kind       int
		name, want string
	}{
		{1, "em", "axiom:em"}, {2, "a.b", "opaque:a.b"}, {3, "x1", "unsafe:x1"}, {4, "a.b.c.d.e", "nouniv:a.b.c.d.e"}, {5, "nat", "nopos:nat"},
		{1, "axiom", "axiom:axiom"}, {2, "axiom", "opaque:axiom"}, {5, "nouniv", "nopos:nouniv"},
	}
	for _, c := range cases {
		l := impl.Label{Kind: c.kind, Name: c.name}
		if got, ok := impl.LabelText(l); !ok || got != c.want {
			t.Errorf("LabelText(%v) = %q, %v, want %q", l, got, ok, c.want)
		}
		if got, ok := impl.ReadLabel(c.want); !ok || got != l {
			t.Errorf("ReadLabel(%q) = %v, %v, want %v", c.want, got, ok, l)
		}
	}
}

func TestLabelsAreReadFromTheirText(t *testing.T) {
	texts := map[string]impl.Label{}
	for _, l := range someLabels() {
		text, ok := impl.LabelText(l)
		if want := isKind(l.Kind) && isName(l.Name); ok != want || !ok && text != "" {
			t.Errorf("LabelText(%d, %.60q) = %.60q, %v, want %v", l.Kind, l.Name, text, ok, want)
		}
		if !ok {
			continue
		}
		if want := kindWords[l.Kind-1] + ":" + l.Name; text != want {
			t.Errorf("LabelText(%.60v) = %.60q, want %.60q", l, text, want)
		}
		if got, ok := impl.ReadLabel(text); !ok || got != l {
			t.Errorf("ReadLabel(%.60q) = %.60v, %v, want %.60v", text, got, ok, l)
		}
		if other, taken := texts[text]; taken {
			t.Errorf("%.60v and %.60v have the same text %.60q", other, l, text)
		}
		texts[text] = l
	}
}

func checkNoLabel(t *testing.T, text string) {
	t.Helper()
	if got, ok := impl.ReadLabel(text); ok || got != (impl.Label{}) {
		t.Errorf("ReadLabel(%.60q) = %.60v, %v, want false", text, got, ok)
	}
}

func TestReadLabelRejects(t *testing.T) {
	bad := []string{
		"", " ", ":", "::", ":a", "a:", "a", "a.b", "axiom", "opaque", "axiom:", "nopos:", ":axiom", "axioma", "axiom a", "axiom;a", "axiom.a", "axiom=a",
		"axiom::a", "axiom:a:", ":axiom:a", "axiom:a:b", "axiom:opaque:a", "axiom:axiom:a", "axiom:a:axiom", "axiom:a::",
		"b:a", "none:a", "axio:a", "axioms:a", "xaxiom:a", "opaq:a", "safe:a", "univ:a", "pos:a", "nopo:a", "noposs:a", "1:a", "0:a", "5:a", "theorem:a", "no:a",
		"Axiom:a", "AXIOM:a", "axioM:a", "Opaque:a", "noUniv:a", "NoPos:a", "axiom:A", "axiom:aB", "axiom:a.B", "AXIOM:A",
		" axiom:a", "axiom:a ", "axiom :a", "axiom: a", " axiom:a ", "axiom:a b", "\taxiom:a", "axiom:a\n", "axiom:a\r\n", "\naxiom:a",
		"axiom:1", "axiom:1a", "axiom:.", "axiom:.a", "axiom:a.", "axiom:a..b", "axiom:a.1", "axiom:a-b", "axiom:a_b", "axiom:a,axiom:b", "axiom:a,b", "axiom:*",
		"axiom:a\x00", "\x00axiom:a", "axiom\x00:a", "axiom:\xff", "axiom\xff:a", "axiom:é", "axiom：a", "аxiom:a", "axiom:a\x80", "\ufeffaxiom:a",
		"axiom:a.b.c.d.e.f", "axiom:" + strings.Repeat("a", 41), "axiom:" + strings.Repeat("a", 100000), strings.Repeat("axiom", 100000) + ":a", strings.Repeat(":", 100000),
	}
	for _, text := range bad {
		checkNoLabel(t, text)
	}
	for _, name := range invalidNames() {
		for _, word := range kindWords {
			checkNoLabel(t, word+":"+name)
		}
	}
	for _, name := range validNames() {
		checkNoLabel(t, name)
		checkNoLabel(t, ":"+name)
		checkNoLabel(t, name+":"+name)
	}
}

// TestReadLabelReadsOnlyTexts changes each byte of good texts and checks that what is read has the changed text.
func TestReadLabelReadsOnlyTexts(t *testing.T) {
	for kind, word := range kindWords {
		for at := range len(word) + 1 {
			for b := range 256 {
				text := []byte(word + ":a.b1")
				text[at] = byte(b)
				same := string(text) == word+":a.b1"
				got, ok := impl.ReadLabel(string(text))
				if ok != same || ok && got != (impl.Label{Kind: kind + 1, Name: "a.b1"}) || !ok && got != (impl.Label{}) {
					t.Errorf("ReadLabel(%q) = %v, %v, want %v", text, got, ok, same)
				}
			}
		}
	}
	everyText("a.:1 A", 4, func(s string) {
		got, ok := impl.ReadLabel("nopos:" + s)
		if ok != isName(s) || ok && got != (impl.Label{Kind: 5, Name: s}) || !ok && got != (impl.Label{}) {
			t.Errorf("ReadLabel(%q) = %v, %v, want %v", "nopos:"+s, got, ok, isName(s))
		}
	})
}

func TestLabelTextsAreNewMemory(t *testing.T) {
	for _, name := range validNames() {
		text, _ := impl.LabelText(impl.Label{Kind: 2, Name: name})
		checkNewString(t, text, name)
		l, _ := impl.ReadLabel(text)
		checkNewString(t, l.Name, text)
	}
}

func TestLabelsOkFigures(t *testing.T) {
	accepted := [][]short{
		nil, {}, {{1, "a"}}, {{5, "z"}},
		{{1, "a"}, {1, "b"}}, {{1, "a"}, {1, "a.b"}, {1, "a0"}, {1, "ab"}},
		{{1, "z"}, {2, "a"}}, {{1, "b"}, {3, "b"}, {5, "a"}},
		{{1, "a"}, {2, "a"}, {3, "a"}, {4, "a"}, {5, "a"}},
		{{1, "a"}, {1, "b"}, {2, "a"}, {2, "b"}},
	}
	for _, list := range accepted {
		if !impl.LabelsOk(labelsOf(list)) {
			t.Errorf("LabelsOk(%v) = false", list)
		}
	}
	rejected := [][]short{
		{{}}, {{1, ""}}, {{0, "a"}}, {{6, "a"}}, {{-1, "a"}}, {{1, "A"}}, {{1, "a."}}, {{1, strings.Repeat("a", 41)}},
		{{0, "a"}, {1, "a"}}, {{1, "a"}, {6, "a"}}, {{1, ""}, {1, "a"}}, {{1, "a"}, {1, "b."}, {1, "c"}},
		{{1, "a"}, {1, "a"}}, {{1, "a"}, {2, "b"}, {2, "b"}}, {{1, "a"}, {1, "a"}, {2, "a"}},
		{{1, "b"}, {1, "a"}}, {{2, "a"}, {1, "b"}}, {{2, "a"}, {1, "a"}}, {{1, "a.b"}, {1, "a"}},
		{{1, "a"}, {2, "a"}, {1, "b"}}, {{1, "a"}, {1, "c"}, {1, "b"}}, {{1, "a"}, {2, "a"}, {1, "a"}},
	}
	for _, list := range rejected {
		if impl.LabelsOk(labelsOf(list)) {
			t.Errorf("LabelsOk(%v) = true", list)
		}
	}
}

func TestLabelsOkPairs(t *testing.T) {
	labels := fewLabels()
	for _, a := range labels {
		for _, b := range labels {
			want := impl.LabelOk(a) && impl.LabelOk(b) && isLess(a, b)
			if got := impl.LabelsOk([]impl.Label{a, b}); got != want {
				t.Fatalf("LabelsOk of %v, %v = %v, want %v", a, b, got, want)
			}
		}
	}
}

// labelUnion is an independent description of LabelsBoth.
func labelUnion(a []impl.Label, b []impl.Label) []impl.Label {
	seen := map[impl.Label]bool{}
	for _, l := range slices.Concat(a, b) {
		seen[l] = true
	}
	union := []impl.Label{}
	for l := range seen {
		union = append(union, l)
	}
	sort.Slice(union, func(i, j int) bool { return isLess(union[i], union[j]) })
	return union
}

func checkLabelUnion(t *testing.T, a []impl.Label, b []impl.Label, want []impl.Label) {
	t.Helper()
	keptA, keptB := slices.Clone(a), slices.Clone(b)
	got := impl.LabelsBoth(a, b)
	if !slices.Equal(got, want) {
		t.Errorf("LabelsBoth(%v, %v) = %v, want %v", a, b, got, want)
	}
	if !impl.LabelsWithin(a, got) || !impl.LabelsWithin(b, got) {
		t.Errorf("the union %v does not contain all of %v and %v", got, a, b)
	}
	for _, l := range got {
		if !impl.LabelIn(a, l) && !impl.LabelIn(b, l) {
			t.Errorf("%v of the union is in neither list", l)
		}
	}
	if !slices.Equal(a, keptA) || !slices.Equal(b, keptB) {
		t.Errorf("the arguments %v, %v were changed to %v, %v", keptA, keptB, a, b)
	}
}

func TestLabelsBothFigures(t *testing.T) {
	type list = []short
	cases := []struct{ a, b, want list }{
		{nil, nil, nil}, {list{}, nil, nil}, {list{}, list{}, nil},
		{list{{1, "a"}}, nil, list{{1, "a"}}}, {list{{1, "a"}}, list{}, list{{1, "a"}}}, {list{{1, "a"}}, list{{1, "a"}}, list{{1, "a"}}},
		{list{{2, "a"}}, list{{1, "z"}, {2, "a"}}, list{{1, "z"}, {2, "a"}}},
		{list{{1, "a"}, {1, "a"}, {1, "a"}}, nil, list{{1, "a"}}}, {list{{2, "a"}, {1, "a"}, {2, "a"}}, list{{1, "a"}, {1, "a"}}, list{{1, "a"}, {2, "a"}}},
		{list{{5, "a"}, {3, "a"}}, list{{4, "a"}, {1, "a"}, {2, "a"}}, list{{1, "a"}, {2, "a"}, {3, "a"}, {4, "a"}, {5, "a"}}},
		{list{{3, "b"}, {3, "ab"}}, list{{3, "a"}, {3, "a.b"}, {3, "a0"}}, list{{3, "a"}, {3, "a.b"}, {3, "a0"}, {3, "ab"}, {3, "b"}}},
		{list{{2, "a"}, {1, "b"}}, list{{2, "b"}, {1, "a"}}, list{{1, "a"}, {1, "b"}, {2, "a"}, {2, "b"}}},
		{list{{}, {6, "a"}, {-1, ""}}, list{{}, {0, "a"}, {6, "A"}}, list{{-1, ""}, {0, ""}, {0, "a"}, {6, "A"}, {6, "a"}}},
		{list{{math.MaxInt, "a"}, {math.MinInt, "a"}, {0, "a"}}, list{{math.MaxInt, "a"}, {math.MinInt, ""}}, list{{math.MinInt, ""}, {math.MinInt, "a"}, {0, "a"}, {math.MaxInt, "a"}}},
		{list{{1, "\xff"}, {1, "\xef\xbf\xbd"}}, list{{1, "\xfe"}, {1, "\x00"}, {1, ""}}, list{{1, ""}, {1, "\x00"}, {1, "\xef\xbf\xbd"}, {1, "\xfe"}, {1, "\xff"}}},
		{list{{1, strings.Repeat("a", 41)}}, list{{1, "a.b.c.d.e.f"}, {1, "a..b"}}, list{{1, "a..b"}, {1, "a.b.c.d.e.f"}, {1, strings.Repeat("a", 41)}}},
	}
	for _, c := range cases {
		a, b, want := labelsOf(c.a), labelsOf(c.b), labelsOf(c.want)
		checkLabelUnion(t, a, b, want)
		checkLabelUnion(t, b, a, want)
	}
}

func TestLabelsBothContainsEachList(t *testing.T) {
	source := rand.New(rand.NewSource(3))
	pool := fewLabels()
	for range 2000 {
		// A small part of the pool makes equal labels, within one list and in both, frequent.
		part := pool[source.Intn(len(pool)):]
		if size := 1 + source.Intn(20); len(part) > size {
			part = part[:size]
		}
		lists := [2][]impl.Label{}
		for at := range lists {
			for range source.Intn(12) {
				lists[at] = append(lists[at], part[source.Intn(len(part))])
			}
		}
		checkLabelUnion(t, lists[0], lists[1], labelUnion(lists[0], lists[1]))
	}
}

func TestUnionOfLabelsIsOk(t *testing.T) {
	valid := []impl.Label{}
	for _, name := range validNames() {
		for kind := 5; kind >= 1; kind-- {
			valid = append(valid, impl.Label{Kind: kind, Name: name})
		}
	}
	for cut := range len(valid) + 1 {
		union := impl.LabelsBoth(valid[:cut], valid[cut/2:])
		if !impl.LabelsOk(union) || len(union) != len(valid) {
			t.Errorf("the union %v of valid labels is not ok", union)
		}
		checkLabelUnion(t, union, union, union)
		checkLabelUnion(t, union, nil, union)
	}
	if bad := impl.LabelsBoth(valid, []impl.Label{{Kind: 6, Name: "a"}}); impl.LabelsOk(bad) || len(bad) != len(valid)+1 {
		t.Error("the union with a label that is not valid lacks it")
	}
}

func TestLabelsBothLeavesSpareCapacity(t *testing.T) {
	backing := []impl.Label{{Kind: 3, Name: "c"}, {Kind: 1, Name: "b"}, {Kind: 9, Name: "spare1"}, {Kind: 8, Name: "spare2"}, {Kind: 7, Name: "spare3"}}
	kept := slices.Clone(backing)
	other := []impl.Label{{Kind: 2, Name: "d"}, {Kind: 1, Name: "b"}}
	for _, b := range [][]impl.Label{other, nil, {}, backing[1:3], backing[:2]} {
		checkLabelUnion(t, backing[:2], b, labelUnion(backing[:2], b))
		checkLabelUnion(t, b, backing[:2], labelUnion(backing[:2], b))
	}
	if !slices.Equal(backing, kept) {
		t.Errorf("the memory behind an argument was changed: %v", backing)
	}
}

func TestLabelsBothReturnsNewMemory(t *testing.T) {
	one := []impl.Label{{Kind: 1, Name: "a.b"}, {Kind: 2, Name: "b"}}
	for _, lists := range [][2][]impl.Label{{one, nil}, {nil, one}, {one[:1], one[1:]}, {one, one}} {
		a, b := slices.Clone(lists[0]), slices.Clone(lists[1])
		got := impl.LabelsBoth(a, b)
		for _, l := range got {
			for _, argument := range slices.Concat(a, b) {
				checkNewString(t, l.Name, argument.Name)
			}
		}
		for at := range got {
			got[at] = impl.Label{Kind: 9, Name: "changed"}
		}
		_ = append(got[:1], impl.Label{Kind: 9, Name: "changed"})
		if !slices.Equal(a, lists[0]) || !slices.Equal(b, lists[1]) {
			t.Errorf("a changed result changes the arguments to %v, %v", a, b)
		}
	}
}

func TestLabelsWithinFigures(t *testing.T) {
	type list = []short
	cases := []struct {
		a, b list
		want bool
	}{
		{nil, nil, true}, {list{}, nil, true}, {nil, list{}, true}, {nil, list{{1, "a"}}, true}, {list{}, list{{}}, true},
		{list{{1, "a"}}, nil, false}, {list{{1, "a"}}, list{}, false}, {list{{}}, nil, false}, {list{{}}, list{{}}, true}, {list{{}}, list{{1, "a"}}, false},
		{list{{1, "a"}}, list{{1, "a"}}, true}, {list{{1, "a"}}, list{{2, "a"}}, false}, {list{{1, "a"}}, list{{1, "b"}}, false}, {list{{1, "a"}}, list{{1, "a.b"}}, false},
		{list{{1, "a"}}, list{{2, "a"}, {1, "b"}}, false}, {list{{1, "a"}, {2, "b"}}, list{{1, "b"}, {2, "a"}}, false},
		{list{{1, "a"}, {1, "a"}, {1, "a"}}, list{{1, "a"}}, true}, {list{{1, "a"}}, list{{1, "a"}, {1, "a"}}, true}, {list{{1, "a"}, {1, "a"}, {2, "a"}}, list{{1, "a"}, {1, "a"}, {1, "a"}}, false},
		{list{{2, "b"}, {1, "a"}}, list{{1, "a"}, {5, "c"}, {2, "b"}}, true}, {list{{1, "a"}, {2, "b"}}, list{{2, "b"}, {1, "a"}}, true}, {list{{1, "a"}, {2, "b"}}, list{{1, "a"}}, false}, {list{{2, "b"}, {1, "a"}}, list{{1, "a"}}, false},
		{list{{6, "a"}, {0, ""}, {1, "A"}}, list{{1, "A"}, {0, ""}, {6, "a"}}, true}, {list{{6, "a"}}, list{{5, "a"}, {7, "a"}}, false}, {list{{1, "A"}}, list{{1, "a"}}, false}, {list{{1, "\xff"}}, list{{1, "\xfe"}, {1, "\ufffd"}}, false},
		{list{{math.MinInt, "a"}}, list{{math.MaxInt, "a"}}, false}, {list{{math.MinInt, "a"}}, list{{math.MinInt, "a"}}, true},
	}
	for _, c := range cases {
		a, b := labelsOf(c.a), labelsOf(c.b)
		if got := impl.LabelsWithin(a, b); got != c.want {
			t.Errorf("LabelsWithin(%v, %v) = %v, want %v", a, b, got, c.want)
		}
		if !slices.Equal(a, labelsOf(c.a)) || !slices.Equal(b, labelsOf(c.b)) {
			t.Errorf("LabelsWithin changed its arguments to %v, %v", a, b)
		}
	}
}

func TestLabelInFigures(t *testing.T) {
	list := []impl.Label{{Kind: 2, Name: "b"}, {Kind: 1, Name: "z"}, {Kind: 2, Name: "b"}, {Kind: 0, Name: ""}, {Kind: 6, Name: "a"}, {Kind: 1, Name: "A\xff"}, {Kind: 1, Name: "a.b"}}
	kept := slices.Clone(list)
	for at, l := range list {
		if !impl.LabelIn(list, l) || !impl.LabelIn(list[at:], l) || !impl.LabelIn(list[:at+1], l) {
			t.Errorf("LabelIn does not find %v", l)
		}
		// An equal name in other memory is the same name.
		if !impl.LabelIn(list, impl.Label{Kind: l.Kind, Name: strings.Clone(l.Name)}) {
			t.Errorf("LabelIn does not find a copy of %v", l)
		}
	}
	absent := []short{{1, "b"}, {2, "z"}, {3, "b"}, {2, "b."}, {2, "B"}, {2, ""}, {0, "b"}, {1, ""}, {5, "a"}, {6, "A"}, {-6, "a"}, {1, "A\xfe"}, {1, "A"}, {1, "a"}, {1, "a.b.c"}}
	for _, l := range labelsOf(absent) {
		if impl.LabelIn(list, l) {
			t.Errorf("LabelIn finds %v", l)
		}
	}
	if impl.LabelIn(nil, impl.Label{}) || impl.LabelIn([]impl.Label{}, impl.Label{}) || impl.LabelIn(nil, list[0]) || impl.LabelIn(list[:3], list[4]) {
		t.Error("LabelIn finds a label that is not in the list")
	}
	if !slices.Equal(list, kept) {
		t.Errorf("LabelIn changed its argument to %v", list)
	}
}

func TestLabelsOkLeavesItsArgument(t *testing.T) {
	list := []impl.Label{{Kind: 2, Name: "b"}, {Kind: 1, Name: "a"}, {Kind: 1, Name: "a"}, {}}
	kept := slices.Clone(list)
	for size := range len(list) + 1 {
		impl.LabelsOk(list[:size])
	}
	if !slices.Equal(list, kept) {
		t.Errorf("LabelsOk changed its argument to %v", list)
	}
}
