package tests

import (
	"math"
	"math/rand"
	"slices"
	"strings"
	"testing"

	"loop.example/g00963/impl"
)

// valueIn is an independent description of values. It reads s, which is a level, backwards: the values of its parts are then the last ones found.
func valueIn(s string, values []int) int {
	found := []int{}
	for at := len(s) - 1; at >= 0; at-- {
		last := len(found) - 1
		switch s[at] {
		case 'z':
			found = append(found, 0)
		case '0', '1', '2':
			found = append(found, values[s[at]-'0'])
		case '+':
			found[last]++
		case 'm', 'i':
			first, second := found[last], found[last-1]
			if s[at] == 'i' && second == 0 {
				first = 0
			}
			found = append(found[:last-1], max(first, second))
		}
	}
	if len(found) != 1 {
		panic("not a level: " + s)
	}
	return found[0]
}

// sums are the numbers added to each parameter and to 0 of which a level is the greatest, if only some parameters are 0; -1 is none.
type sums [4]int

// sumsIn returns the sums of the level at the beginning of s, where the parameters that are not positive are 0, and the rest of s.
func sumsIn(s string, positive [3]bool) (sums, string) {
	switch s[0] {
	case 'z':
		return sums{-1, -1, -1, 0}, s[1:]
	case 'u':
		list := sums{-1, -1, -1, -1}
		if k := s[1] - '0'; positive[k] {
			list[k] = 0
		} else {
			list[3] = 0
		}
		return list, s[2:]
	case '+':
		list, rest := sumsIn(s[1:], positive)
		for k := range list {
			if list[k] >= 0 {
				list[k]++
			}
		}
		return list, rest
	}
	first, rest := sumsIn(s[1:], positive)
	second, rest := sumsIn(rest, positive)
	if s[0] == 'i' && max(second[0], second[1], second[2], second[3]-1) < 0 {
		return second, rest
	}
	for k := range second {
		second[k] = max(first[k], second[k])
	}
	return second, rest
}

// atMost decides without any values whether a is at most b: no sum of a may grow beyond all those of b, nor its number exceed the least value of b.
func atMost(a string, b string) bool {
	for zeros := range 8 {
		positive := [3]bool{zeros&1 > 0, zeros&2 > 0, zeros&4 > 0}
		ofA, _ := sumsIn(a, positive)
		ofB, _ := sumsIn(b, positive)
		least := ofB[3]
		for k := range 3 {
			if ofA[k] > ofB[k] {
				return false
			}
			if ofB[k] >= 0 {
				least = max(least, ofB[k]+1)
			}
		}
		if ofA[3] > least {
			return false
		}
	}
	return true
}

// firstGreater returns the witness that the document describes, or nil.
func firstGreater(a string, b string) []int {
	large := 2 + strings.Count(a, "+") + strings.Count(b, "+")
	for _, x := range []int{0, 1, large} {
		for _, y := range []int{0, 1, large} {
			for _, z := range []int{0, 1, large} {
				if list := []int{x, y, z}; valueIn(a, list) > valueIn(b, list) {
					return list
				}
			}
		}
	}
	return nil
}

// raised returns s with count bytes + in front.
func raised(count int, s string) string {
	return strings.Repeat("+", count) + s
}

func checkValue(t *testing.T, s string, values []int, want int) {
	t.Helper()
	kept := slices.Clone(values)
	if got := impl.LevelAt(s, values); got != want {
		t.Errorf("LevelAt(%.80q, %v) = %d, want %d", s, values, got, want)
	}
	if !slices.Equal(values, kept) {
		t.Errorf("LevelAt changed its values %v to %v", kept, values)
	}
}

func checkWitness(t *testing.T, a string, b string, want []int) {
	t.Helper()
	got, ok := impl.LevelWitness(a, b)
	if ok != (want != nil) || !slices.Equal(got, want) {
		t.Errorf("LevelWitness(%.80q, %.80q) = %v, %v, want %v", a, b, got, ok, want)
	}
}

// checkPair checks for two levels all functions that compare them.
func checkPair(t *testing.T, a string, b string) {
	t.Helper()
	below, above := atMost(a, b), atMost(b, a)
	if got := impl.LevelLe(a, b); got != below {
		t.Errorf("LevelLe(%q, %q) = %v", a, b, got)
	}
	if got := impl.LevelLe(b, a); got != above {
		t.Errorf("LevelLe(%q, %q) = %v", b, a, got)
	}
	if got, back := impl.LevelSame(a, b), impl.LevelSame(b, a); got != (below && above) || back != got {
		t.Errorf("LevelSame(%q, %q) = %v, and %v for them exchanged", a, b, got, back)
	}
	checkWitness(t, a, b, firstGreater(a, b))
	checkWitness(t, b, a, firstGreater(b, a))
	list, shown := impl.LevelWitness(a, b)
	if shown == below {
		t.Errorf("LevelWitness(%q, %q) = %v, %v, but LevelLe is %v", a, b, list, shown, below)
	}
	if shown && (len(list) != 3 || impl.LevelAt(a, list) <= impl.LevelAt(b, list)) {
		t.Errorf("LevelWitness(%q, %q) = %v, which shows nothing", a, b, list)
	}
}

// checkKinds checks for a level whether it is always and whether it is never 0.
func checkKinds(t *testing.T, s string) {
	t.Helper()
	always, never := true, true
	for zeros := range 8 {
		zero := valueIn(s, []int{zeros & 1, zeros >> 1 & 1, zeros >> 2}) == 0
		always, never = always && zero, never && !zero
	}
	if got := impl.LevelZero(s); got != always {
		t.Errorf("LevelZero(%q) = %v", s, got)
	}
	if got := impl.LevelAbove(s); got != never {
		t.Errorf("LevelAbove(%q) = %v", s, got)
	}
}

// checkNoValues checks all functions for a string that is not a level, or too long for one.
func checkNoValues(t *testing.T, s string) {
	t.Helper()
	for _, values := range [][]int{nil, {}, {0}, {1, 1}, {0, 1, 2}, {0, 0, 0, 0}, {-1}, {1001, 0, 0}} {
		checkValue(t, s, values, -1)
	}
	if impl.LevelZero(s) || impl.LevelAbove(s) {
		t.Errorf("LevelZero, LevelAbove(%.80q) = %v, %v", s, impl.LevelZero(s), impl.LevelAbove(s))
	}
	for _, other := range []string{"z", "+z", "+++++z", "u0", "u2", "mu0u1", "iu0z", s, "", "u3"} {
		if impl.LevelLe(s, other) || impl.LevelLe(other, s) {
			t.Errorf("LevelLe is true for %.80q and %.80q", s, other)
		}
		if impl.LevelSame(s, other) || impl.LevelSame(other, s) {
			t.Errorf("LevelSame is true for %.80q and %.80q", s, other)
		}
		checkWitness(t, s, other, nil)
		checkWitness(t, other, s, nil)
	}
}

func TestValueLimit(t *testing.T) {
	if impl.MaxValue != 1000 {
		t.Errorf("MaxValue = %d, want 1000", impl.MaxValue)
	}
}

func TestLevelAtFigures(t *testing.T) {
	values := []int{5, 0, 2}
	figures := []struct {
		level string
		value int
	}{
		{"z", 0}, {"+z", 1}, {"+++z", 3}, {"u0", 5}, {"u1", 0}, {"u2", 2}, {"+u0", 6}, {"+u1", 1}, {"++u2", 4},
		{"mzz", 0}, {"mu0u2", 5}, {"mu2u0", 5}, {"mu1u2", 2}, {"mu2u1", 2}, {"m+zu1", 1}, {"mu2u2", 2}, {"mu2+u2", 3}, {"mmu1u2u0", 5}, {"mu1mu2u0", 5},
		{"izz", 0}, {"iz+z", 1}, {"i+zz", 0}, {"iu0u2", 5}, {"iu2u0", 5}, {"iu1u0", 5}, {"iu2u2", 2}, {"iu2+u2", 3},
		// The second part is 0: the first one does not count.
		{"iu0z", 0}, {"iu0u1", 0}, {"i++u0u1", 0}, {"iu0mzz", 0}, {"iu0mu1z", 0}, {"iu0mu1u1", 0}, {"iu0izz", 0}, {"iu0iu2z", 0}, {"iu0iu2u1", 0}, {"iu0iu0iu2u1", 0}, {"iu1u1", 0}, {"iiu0u1u1", 0},
		// The second part is not 0.
		{"iu0+u1", 5}, {"iu0+z", 5}, {"iz++z", 2}, {"iu0mu1u2", 5}, {"iu0mu2u1", 5}, {"iu1mu2z", 2}, {"iu0iu1u2", 5}, {"iu0izu2", 5}, {"iu1iu0u2", 5}, {"iu0+iu0u1", 5}, {"i+u0miu0z+z", 6},
		// A part that is 0 can be the first one, and its i within others.
		{"iiu0zu2", 2}, {"+iu0u1", 1}, {"++iu0z", 2}, {"miu0u1u2", 2}, {"mu2iu0u1", 2}, {"mu2iu0u2", 5}, {"m+iu0u1z", 1}, {"imu0u2u1", 0}, {"imu1u2u0", 5}, {"miu0u1iu0u1", 0},
		{"+m+i+u0+zm+u2+u1", 8}, {"+m+i+u0u1m+u2+u1", 4}, {"immu0u1+u2i+zu0", 5}, {"immu0u1+u2i+zu1", 0},
	}
	for _, f := range figures {
		checkValue(t, f.level, values, f.value)
		if got := valueIn(f.level, values); got != f.value {
			t.Errorf("the test's own value of %q is %d, want %d", f.level, got, f.value)
		}
	}
}

func TestLevelAtEachPart(t *testing.T) {
	parts := []string{"z", "+z", "u0", "u1", "u2", "+u1", "mu0u1", "iu0u1", "iu1u0", "iu2z", "iz+u2", "mzz", "izz"}
	for _, values := range [][]int{{0, 0, 0}, {0, 0, 4}, {0, 3, 0}, {2, 0, 0}, {1, 2, 0}, {3, 0, 1}, {0, 7, 5}, {1, 1, 1}, {1000, 999, 998}} {
		for _, a := range parts {
			first := valueIn(a, values)
			checkValue(t, a, values, first)
			checkValue(t, "+"+a, values, first+1)
			for _, b := range parts {
				second := valueIn(b, values)
				greater := max(first, second)
				checkValue(t, "m"+a+b, values, greater)
				checkValue(t, "+m"+a+b, values, greater+1)
				checkValue(t, "i"+a+"+"+b, values, max(first, second+1))
				if second == 0 {
					greater = 0
				}
				checkValue(t, "i"+a+b, values, greater)
				checkValue(t, "m"+b+"i"+a+b, values, max(greater, second))
				checkValue(t, "i"+"i"+a+b+b, values, greater)
				if greater == 0 {
					checkValue(t, "i"+a+"i"+a+b, values, 0)
				} else {
					checkValue(t, "i"+a+"i"+a+b, values, max(first, greater))
				}
			}
		}
	}
}

func TestLevelAtEveryShortLevel(t *testing.T) {
	lists := [][]int{{0, 0, 0}, {0, 1, 2}, {3, 0, 1}, {2, 5, 0}, {0, 0, 9}, {1000, 1, 1000}}
	for _, s := range levelsUpTo(8) {
		for _, values := range lists {
			checkValue(t, s, values, valueIn(s, values))
		}
	}
}

func TestLevelAtRandomLevels(t *testing.T) {
	source := rand.New(rand.NewSource(5))
	for size := 1; size <= 60; size++ {
		for range 100 {
			s := randomLevel(source, size)
			values := []int{source.Intn(3), source.Intn(10), source.Intn(1001)}
			source.Shuffle(3, func(i int, j int) { values[i], values[j] = values[j], values[i] })
			checkValue(t, s, values, valueIn(s, values))
		}
	}
}

func TestLevelAtNumberOfValues(t *testing.T) {
	levels := []struct {
		level  string
		params int
	}{
		{"z", 0}, {"++z", 0}, {"mz+z", 0}, {"i+zz", 0}, {"u0", 1}, {"+u0", 1}, {"mu0u0", 1}, {"izu0", 1}, {"u1", 2}, {"mu1z", 2}, {"iu1u0", 2}, {"u2", 3}, {"m+zu2", 3}, {"iu2z", 3}, {"mu0mu1u2", 3},
	}
	many := []int{7, 0, 3, 1, 2, 4}
	for _, l := range levels {
		for size := range len(many) + 1 {
			want := -1
			if size >= l.params && size <= 3 {
				want = valueIn(l.level, many)
			}
			checkValue(t, l.level, many[:size], want)
		}
	}
	for _, s := range []string{"z", "+z", "mz++z", "iz+z"} {
		checkValue(t, s, nil, valueIn(s, nil))
		checkValue(t, s, []int{}, valueIn(s, nil))
	}
	for _, s := range []string{"u0", "u1", "u2", "iu0z", "mzu2"} {
		checkValue(t, s, nil, -1)
		checkValue(t, s, []int{}, -1)
	}
	checkValue(t, "z", make([]int, 100000), -1)
}

func TestLevelAtValueLimits(t *testing.T) {
	accepted := []int{0, 1, 999, 1000}
	rejected := []int{-1, -2, -1000, 1001, 1002, 2000, 1 << 32, 1<<32 + 5, math.MaxInt, math.MaxInt - 1, math.MinInt, math.MinInt + 1}
	// A value is checked also where its parameter does not occur or does not count.
	for _, s := range []string{"z", "+z", "u0", "u1", "u2", "mu0u1", "iu0u1", "iu2z", "mu0mu1u2", "izu1"} {
		for size := max(1, impl.LevelParams(s)); size <= 3; size++ {
			for at := range size {
				values := make([]int, size)
				for _, value := range accepted {
					values[at] = value
					checkValue(t, s, values, valueIn(s, values))
				}
				for _, value := range rejected {
					values[at] = value
					checkValue(t, s, values, -1)
				}
			}
		}
	}
	checkValue(t, "u0", []int{1000}, 1000)
	checkValue(t, "+u0", []int{1000}, 1001)
	checkValue(t, "mu0mu1u2", []int{1000, 1000, 1000}, 1000)
	checkValue(t, "u0", []int{1001}, -1)
	checkValue(t, "u0", []int{-1}, -1)
	checkValue(t, "z", []int{-1}, -1)
	checkValue(t, "z", []int{0, 0, 1001}, -1)
	checkValue(t, "u0", []int{1000, 1000, -1}, -1)
	checkValue(t, "z", []int{math.MinInt}, -1)
}

func TestValuesOfLongLevels(t *testing.T) {
	checkValue(t, raised(59, "z"), nil, 59)
	checkValue(t, raised(58, "u2"), []int{0, 0, 1000}, 1058)
	for size := 50; size <= 60; size += 2 {
		for _, s := range longLevels(size) {
			for _, values := range [][]int{{0, 0, 0}, {4, 0, 1000}, {1, 2, 3}, {0, 9, 0}} {
				checkValue(t, s, values, valueIn(s, values))
			}
			checkKinds(t, s)
			checkPair(t, s, s)
			checkPair(t, s, "z")
			checkPair(t, s, "mu0mu1u2")
		}
	}
	for _, s := range longLevels(60) {
		checkNoValues(t, "+"+s)
		checkNoValues(t, s+"z")
		checkNoValues(t, s[:59])
	}
	for _, size := range []int{62, 100, 256, 10000, 10002, 100000} {
		for _, s := range longLevels(size)[:9] {
			checkNoValues(t, s)
		}
	}
}

func TestNoLevelHasValues(t *testing.T) {
	for _, s := range invalidLevels() {
		checkNoValues(t, s)
	}
}

func TestSubstitutedLevelsHaveTheValues(t *testing.T) {
	source := rand.New(rand.NewSource(55))
	checked := 0
	for checked < 20000 {
		s := randomLevel(source, 1+source.Intn(30))
		args, values, inner := []string{}, []int{source.Intn(2), source.Intn(3), source.Intn(941)}, []int{}
		source.Shuffle(3, func(i int, j int) { values[i], values[j] = values[j], values[i] })
		for range 3 {
			arg := randomLevel(source, 1+source.Intn(8))
			args = append(args, arg)
			inner = append(inner, impl.LevelAt(arg, values))
		}
		put, ok := impl.LevelPut(s, args)
		if !ok {
			continue
		}
		checked++
		got, want := impl.LevelAt(put, values), impl.LevelAt(s, inner)
		if got != want || got < 0 {
			t.Errorf("LevelAt(%q, %v) = %d, but %q has the value %d for %v", put, values, got, s, want, inner)
		}
	}
}

func TestSubstitutedLevelsOfEachForm(t *testing.T) {
	levels := []string{"z", "+z", "u0", "u1", "+u1", "mu0u1", "mu1u0", "iu0u1", "iu1u0", "iu0z", "izu1", "+iu0u1", "miu0u1u1", "iiu0u1u0", "iu0iu1u0", "iu1mu0u1"}
	for _, s := range levels {
		for _, a := range levels {
			for _, b := range levels {
				put, ok := impl.LevelPut(s, []string{a, b})
				if !ok {
					t.Fatalf("LevelPut(%q, %q, %q) = false", s, a, b)
				}
				for _, values := range [][]int{{0, 0}, {0, 2}, {3, 0}, {1, 4}} {
					want := impl.LevelAt(s, []int{impl.LevelAt(a, values), impl.LevelAt(b, values)})
					checkValue(t, put, values, want)
				}
			}
		}
	}
}

func TestLevelLeFigures(t *testing.T) {
	figures := []struct {
		a, b string
		le   bool
	}{
		{"z", "z", true}, {"z", "+z", true}, {"+z", "z", false}, {"z", "u0", true}, {"u0", "z", false}, {"u0", "u0", true}, {"u0", "u1", false}, {"u1", "u0", false}, {"u0", "+u0", true}, {"+u0", "u0", false},
		{"+z", "u0", false}, {"+z", "+u2", true}, {"u0", "mu0u1", true}, {"u1", "mu0u1", true}, {"u2", "mu0u1", false}, {"mu0u1", "mu1u0", true}, {"mu0u1", "u0", false}, {"mu0u0", "u0", true},
		// An i is 0 where its second part is.
		{"iu0u1", "mu0u1", true}, {"mu0u1", "iu0u1", false}, {"u0", "iu0u1", false}, {"u1", "iu0u1", true}, {"iu0u1", "u0", false}, {"iu0u0", "u0", true}, {"u0", "iu0u0", true}, {"iu0z", "z", true}, {"iu0u1", "iu1u0", false},
		{"iu0+u1", "m+u1u0", true}, {"mu0+u1", "iu0+u1", true}, {"iu0mu1u2", "miu0u1iu0u2", true}, {"miu0u1iu0u2", "iu0mu1u2", true}, {"iu0iu1u2", "imu0u1u2", true}, {"imu0u1u2", "iu0iu1u2", true}, {"+iu0u1", "i+u0+u1", true}, {"i+u0+u1", "+iu0u1", false},
		{"iu0u1", "iu0iu2u1", true}, {"iu2iu0u1", "mu2iu0u1", true}, {"mu2iu0u1", "iu2iu0u1", false},
		// These differ only for values greater than 1.
		{"u0", "+z", false}, {"u0", "++z", false}, {"u2", "+++++++++z", false}, {"mu0u1", "m+zu1", false}, {"iu0u0", "+z", false}, {"u0", "iu1+z", false}, {"+u0", "++mu1u2", false}, {"u0", "m++++zmu1u2", false}, {"iu1u0", "mu0+z", false},
		{raised(59, "z"), raised(57, "u0"), false}, {raised(57, "z"), raised(57, "u0"), true}, {raised(58, "z"), raised(58, "u0"), true}, {"u0", raised(59, "z"), false}, {raised(58, "u1"), raised(58, "u0"), false}, {raised(57, "u1"), raised(58, "u1"), true}, {raised(58, "u1"), raised(57, "u1"), false},
	}
	for _, f := range figures {
		if got := impl.LevelLe(f.a, f.b); got != f.le {
			t.Errorf("LevelLe(%q, %q) = %v, want %v", f.a, f.b, got, f.le)
		}
		if got := atMost(f.a, f.b); got != f.le {
			t.Errorf("the test's own answer for %q and %q is %v, want %v", f.a, f.b, got, f.le)
		}
		checkPair(t, f.a, f.b)
	}
}

func TestLevelSameFigures(t *testing.T) {
	figures := []struct {
		a, b string
		same bool
	}{
		{"z", "z", true}, {"z", "+z", false}, {"u0", "u0", true}, {"u0", "u1", false}, {"iu0z", "z", true}, {"mzz", "z", true}, {"mzu0", "u0", true}, {"mu0z", "u0", true}, {"izu0", "u0", true}, {"iu0u0", "u0", true}, {"mu0u0", "u0", true},
		{"mu0u1", "mu1u0", true}, {"iu0u1", "iu1u0", false}, {"iu0u1", "mu0u1", false}, {"iu0+z", "mu0+z", true}, {"iu0+u1", "mu0+u1", true}, {"+mu0u1", "m+u0+u1", true}, {"+iu0u1", "i+u0+u1", false}, {"mu0+u0", "+u0", true}, {"m+zu0", "u0", false},
		{"iu0mu1u2", "miu0u1iu0u2", true}, {"iu0iu1u2", "imu0u1u2", true}, {"imu0u1u2", "miu0u2iu1u2", true}, {"iiu0u1u2", "imu0u1u2", false}, {"m+zu0", "+z", false}, {"+++z", "+++z", true}, {"+++z", "++z", false},
	}
	for _, f := range figures {
		if got, back := impl.LevelSame(f.a, f.b), impl.LevelSame(f.b, f.a); got != f.same || back != f.same {
			t.Errorf("LevelSame(%q, %q) = %v, and %v for them exchanged, want %v", f.a, f.b, got, back, f.same)
		}
		checkPair(t, f.a, f.b)
	}
}

func TestLevelZeroAndAboveFigures(t *testing.T) {
	figures := []struct {
		level       string
		zero, above bool
	}{
		{"z", true, false}, {"+z", false, true}, {"++++z", false, true}, {"u0", false, false}, {"u2", false, false}, {"+u1", false, true}, {"mzz", true, false}, {"mzu1", false, false}, {"mz+z", false, true}, {"m+u0z", false, true}, {"mu0u1", false, false},
		{"iu0z", true, false}, {"i+zz", true, false}, {"i+u0z", true, false}, {"izz", true, false}, {"izu0", false, false}, {"iu0u1", false, false}, {"i+zu1", false, false}, {"iz+z", false, true}, {"iu0+u1", false, true}, {"iu0mzz", true, false}, {"iu0mz+z", false, true}, {"iu0iu1z", true, false}, {"iu0iu1u2", false, false}, {"iu0iu1+z", false, true}, {"+iu0z", false, true}, {"miu0zizz", true, false}, {"miu0z+iu1z", false, true},
	}
	for _, f := range figures {
		if zero, above := impl.LevelZero(f.level), impl.LevelAbove(f.level); zero != f.zero || above != f.above {
			t.Errorf("LevelZero, LevelAbove(%q) = %v, %v, want %v, %v", f.level, zero, above, f.zero, f.above)
		}
		checkKinds(t, f.level)
	}
	for _, s := range levelsUpTo(8) {
		checkKinds(t, s)
	}
}

func TestLevelWitnessFigures(t *testing.T) {
	figures := []struct {
		a, b string
		want []int
	}{
		{"z", "z", nil}, {"z", "+z", nil}, {"u0", "u0", nil}, {"u0", "+u0", nil}, {"iu0u1", "mu0u1", nil}, {"iu0z", "z", nil}, {"u1", "mu0u1", nil},
		// Several lists show these: the first one has the value 0 wherever it can.
		{"+z", "z", []int{0, 0, 0}}, {"+u0", "u0", []int{0, 0, 0}}, {"+mu0u1", "iu0u1", []int{0, 0, 0}}, {"++u2", "+z", []int{0, 0, 0}}, {"+z", "mu0mu1u2", []int{0, 0, 0}}, {raised(59, "z"), raised(58, "z"), []int{0, 0, 0}},
		{"u0", "z", []int{1, 0, 0}}, {"u1", "z", []int{0, 1, 0}}, {"u2", "z", []int{0, 0, 1}}, {"mu0mu1u2", "z", []int{0, 0, 1}}, {"mu0u1", "u1", []int{1, 0, 0}}, {"mu0u1", "u0", []int{0, 1, 0}}, {"mu0u1", "iu0u1", []int{1, 0, 0}}, {"mu1u2", "iu1u2", []int{0, 1, 0}},
		{"iu0u1", "z", []int{0, 1, 0}}, {"iu1u0", "z", []int{1, 0, 0}}, {"iu0iu1u2", "mu0u1", []int{0, 0, 1}}, {"i++zu1", "u1", []int{0, 1, 0}}, {"i++zu1", "+u0", []int{0, 1, 0}}, {"i++zmu0u2", "mu0u2", []int{0, 0, 1}}, {"i++ziu0u1", "mu0u1", []int{0, 1, 0}},
		// These need a value of 2 plus the number of bytes + in both.
		{"u0", "u1", []int{1, 0, 0}}, {"u0", "+z", []int{3, 0, 0}}, {"u0", "++z", []int{4, 0, 0}}, {"u1", "+z", []int{0, 3, 0}}, {"u2", "+z", []int{0, 0, 3}}, {"+u0", "++z", []int{5, 0, 0}}, {"+u2", "++u1", []int{0, 0, 5}}, {"++u1", "+++u0", []int{0, 7, 0}},
		{"mu0u1", "m+zu1", []int{3, 0, 0}}, {"mu0u1", "m+zu0", []int{0, 3, 0}}, {"iu0u1", "+z", []int{0, 3, 0}}, {"iu0u1", "+u1", []int{3, 1, 0}}, {"iu0mu1u2", "+mu1u2", []int{3, 0, 1}}, {"iu0iu1u2", "mu2+u1", []int{3, 0, 1}}, {"iu0iu1u2", "m+u2u1", []int{3, 0, 1}}, {"iu1iu0u2", "m+u2u0", []int{0, 3, 1}},
		{"iu2iu1u0", "++mu0u1", []int{1, 0, 4}}, {"iu0u2", "iu1+u2", []int{3, 0, 1}}, {"u0", raised(59, "z"), []int{61, 0, 0}}, {raised(58, "u1"), raised(59, "z"), []int{0, 119, 0}}, {raised(58, "u2"), raised(58, "u0"), []int{0, 0, 1}}, {raised(57, "u2"), raised(58, "u0"), []int{0, 0, 117}},
	}
	for _, f := range figures {
		checkWitness(t, f.a, f.b, f.want)
		if got := firstGreater(f.a, f.b); !slices.Equal(got, f.want) {
			t.Errorf("the test's own list for %q and %q is %v, want %v", f.a, f.b, got, f.want)
		}
		checkPair(t, f.a, f.b)
	}
}

// kinOf returns levels that are close to s; some of them may be too long.
func kinOf(s string) []string {
	kin := []string{s, "+" + s, "++" + s, "m" + s + s, "i" + s + s}
	for _, other := range []string{"z", "+z", "u0", "u1", "u2", "+u0", "iu0u1", "iu2z"} {
		kin = append(kin, "m"+s+other, "m"+other+s, "i"+s+other, "i"+other+s, "i"+s+"+"+other, "+i"+other+s)
	}
	for at := range s {
		switch s[at] {
		case 'm':
			kin = append(kin, s[:at]+"i"+s[at+1:])
		case 'i':
			kin = append(kin, s[:at]+"m"+s[at+1:])
		case '+':
			kin = append(kin, s[:at]+s[at+1:])
		case 'z':
			kin = append(kin, s[:at]+"u1"+s[at+1:])
		case 'u':
			kin = append(kin, s[:at]+"z"+s[at+2:], s[:at]+"+"+s[at:])
		}
	}
	return kin
}

func TestLevelsAndTheirKin(t *testing.T) {
	source := rand.New(rand.NewSource(505))
	levels := []string{"z", "+z", "u0", "u1", "u2", "+u2", "mu0u1", "iu0u1", "iu0z", "izu0", "iu0+u1", "mu2+iu0u1", "iu0iu1u2", "iu0mu1u2", raised(59, "z"), raised(58, "u0"), raised(20, "iu0u1")}
	for size := 1; size <= 60; size++ {
		levels = append(levels, randomLevel(source, size), randomLevel(source, size), randomLevel(source, size))
	}
	for _, s := range levels {
		for _, other := range kinOf(s) {
			if len(other) > 60 {
				checkNoValues(t, other)
				continue
			}
			checkPair(t, s, other)
			checkKinds(t, other)
		}
	}
}

func TestLevelsAgainstThemselvesAndTheirSuccessors(t *testing.T) {
	for _, s := range levelsUpTo(7) {
		if !impl.LevelLe(s, s) || !impl.LevelSame(s, s) {
			t.Errorf("LevelLe, LevelSame of %q and itself = %v, %v", s, impl.LevelLe(s, s), impl.LevelSame(s, s))
		}
		if !impl.LevelLe(s, "+"+s) || impl.LevelLe("+"+s, s) || impl.LevelSame(s, "+"+s) {
			t.Errorf("%q is not less than its successor", s)
		}
		checkWitness(t, s, s, nil)
		checkWitness(t, s, "+"+s, nil)
		checkWitness(t, "+"+s, s, []int{0, 0, 0})
		if !impl.LevelSame("m"+s+s, s) || !impl.LevelSame("i"+s+s, s) || !impl.LevelZero("i"+s+"z") || !impl.LevelAbove("+"+s) {
			t.Errorf("wrong for an m, an i or the successor of %q", s)
		}
		if !impl.LevelLe(s, "m"+s+"u1") || !impl.LevelLe(s, "mu1"+s) || !impl.LevelLe(s, "iu1"+s) || !impl.LevelLe(s, "i"+s+"+u2") {
			t.Errorf("%q is not at most an m or an i of it", s)
		}
	}
}

// TestEveryPairOfShortLevels compares values one by one, up to more than a short level can add to any of them.
func TestEveryPairOfShortLevels(t *testing.T) {
	levels := levelsUpTo(5)
	values := make([][]int, len(levels))
	for at, s := range levels {
		for list := range 7 * 7 * 7 {
			values[at] = append(values[at], valueIn(s, []int{list / 49, list / 7 % 7, list % 7}))
		}
	}
	for at, a := range levels {
		for other, b := range levels {
			want := true
			for list := range values[at] {
				want = want && values[at][list] <= values[other][list]
			}
			if got := impl.LevelLe(a, b); got != want || atMost(a, b) != want {
				t.Errorf("LevelLe(%q, %q) = %v, want %v", a, b, got, want)
			}
			checkWitness(t, a, b, firstGreater(a, b))
		}
	}
}

// TestNoValuesShowTheContrary tries values of all sizes for levels of all sizes.
func TestNoValuesShowTheContrary(t *testing.T) {
	source := rand.New(rand.NewSource(5050))
	below, above := 0, 0
	for range 20000 {
		a, b := randomLevel(source, 1+source.Intn(60)), randomLevel(source, 1+source.Intn(60))
		checkPair(t, a, b)
		if !impl.LevelLe(a, b) {
			above++
			continue
		}
		below++
		for range 20 {
			values := []int{source.Intn(3), source.Intn(60), source.Intn(1001)}
			source.Shuffle(3, func(i int, j int) { values[i], values[j] = values[j], values[i] })
			if x, y := impl.LevelAt(a, values), impl.LevelAt(b, values); x > y {
				t.Errorf("LevelLe(%q, %q), but for %v the values are %d and %d", a, b, values, x, y)
			}
		}
	}
	if below < 1000 || above < 1000 {
		t.Errorf("%d pairs in order and %d others are too few", below, above)
	}
}

func TestLevelAtLeavesSpareCapacity(t *testing.T) {
	backing := []int{3, 0, 1000, -7, 2000}
	kept := slices.Clone(backing)
	for size := range len(backing) + 1 {
		for _, s := range []string{"z", "u0", "+mu0u1", "imu0u1u2", "", "u3", raised(60, "u0")} {
			impl.LevelAt(s, backing[:size])
		}
	}
	if !slices.Equal(backing, kept) {
		t.Errorf("the memory of the values was changed: %v", backing)
	}
}

func TestLevelWitnessReturnsNewMemory(t *testing.T) {
	for _, pair := range [][2]string{{"+z", "z"}, {"u0", "z"}, {"u2", "+z"}, {"iu0u1", "+u1"}} {
		first, _ := impl.LevelWitness(pair[0], pair[1])
		want := slices.Clone(first)
		for at := range first {
			first[at] = -5
		}
		_ = append(first[:1], -6)
		checkWitness(t, pair[0], pair[1], want)
		if len(want) != 3 {
			t.Errorf("LevelWitness(%q, %q) has %d values, want 3", pair[0], pair[1], len(want))
		}
	}
}
