package tests

import (
	"math"
	"math/rand"
	"slices"
	"strings"
	"testing"

	"loop.example/g00963/impl"
)

// selfParams are the parameters, in order: the arguments that change nothing.
var selfParams = []string{"u0", "u1", "u2"}

// levelsUpTo is an independent description of levels: all with at most this many bytes, built form by form.
func levelsUpTo(most int) []string {
	bySize := make([][]string, most+1)
	for size := 1; size <= most; size++ {
		switch size {
		case 1:
			bySize[size] = []string{"z"}
		case 2:
			bySize[size] = slices.Clone(selfParams)
		}
		for _, s := range bySize[size-1] {
			bySize[size] = append(bySize[size], "+"+s)
		}
		for first := 1; first < size-1; first++ {
			for _, a := range bySize[first] {
				for _, b := range bySize[size-1-first] {
					bySize[size] = append(bySize[size], "m"+a+b, "i"+a+b)
				}
			}
		}
	}
	return slices.Concat(bySize...)
}

func setOf(list []string) map[string]bool {
	set := map[string]bool{}
	for _, s := range list {
		set[s] = true
	}
	return set
}

// randomLevel returns a level with exactly size bytes, which is at least 1.
func randomLevel(source *rand.Rand, size int) string {
	switch {
	case size == 1:
		return "z"
	case size == 2 && source.Intn(4) > 0:
		return selfParams[source.Intn(3)]
	case size == 2 || source.Intn(4) == 0:
		return "+" + randomLevel(source, size-1)
	}
	first := 1 + source.Intn(size-2)
	return string("mi"[source.Intn(2)]) + randomLevel(source, first) + randomLevel(source, size-1-first)
}

// longLevels are levels with exactly size bytes, of each form and both nestings of the forms with two levels; size is at least 10 and even.
func longLevels(size int) []string {
	source := rand.New(rand.NewSource(int64(size)))
	levels := []string{
		strings.Repeat("+", size-1) + "z",
		strings.Repeat("+", size-2) + "u2",
		"+" + strings.Repeat("m", size/2-1) + strings.Repeat("z", size/2),
		"+" + strings.Repeat("i", size/2-1) + strings.Repeat("z", size/2),
		"+" + strings.Repeat("mz", size/2-1) + "z",
		"+" + strings.Repeat("iz", size/2-1) + "z",
		strings.Repeat("iz", size/2-1) + "u1",
		"m" + strings.Repeat("+", size-4) + "zu0",
		"iu2" + strings.Repeat("+", size-4) + "z",
	}
	for range 20 {
		levels = append(levels, randomLevel(source, size))
	}
	return levels
}

func invalidLevels() []string {
	bad := []string{
		"", "u", "u3", "u9", "u4", "u5", "u6", "u7", "u8", "u-", "u/", "u:", "u ", "uz", "uu", "u+", "um", "ui", "uu0", "u+z", "umzz", "u\x00", "u\xff", "u²",
		"+", "++", "m", "mz", "mu0", "m+", "m+z", "mm", "mmzz", "mmz", "mimzzz", "i", "iz", "iu2", "i+z", "ii", "iizz", "mi", "im", "+m", "+mz", "+iz", "+i", "+u", "m+z+", "imzz", "mziz",
		"mzu", "muz", "muzz", "izu", "iuz", "iuu", "muu", "mu0u", "muu0", "+u3", "mu0u3", "mu3u0", "iu9z", "izu9",
		"zz", "z+", "z0", "zu0", "u0z", "u00", "u01", "u0u0", "u10", "u22", "u2+", "+zz", "+z+", "+u0z", "mzzz", "mzz+", "izzz", "izzmzz", "mzz ", "mzz.", "z.", "z,", "z\x00", "z\n", "u0.",
		"0", "1", "2", "3", "9", "a", "b", "l", "n", "h", "j", "y", "x", "s", "v", "t", "p", "c", "@", "Z", "M", "I", "U", "Z0", "U0", "U1", "u0U1", "MZZ", "Mzz", "mZz", "mzZ", "Izz", "iZz", "izZ", "+Z", "+U0", "+M",
		" ", " z", "z ", "+ z", "m z z", "mz z", "-", "-z", "*", ",", ".", ";", "\x00", "\xff", "é", "mzé", "＋z", "+\xef\xbb\xbfz", "\ufeffz", "max", "succ", "u0+1", "1+u0",
	}
	for _, s := range levelsUpTo(4) {
		bad = append(bad, s+"z", s+"+", s+"u", s+" ", s+"0", "m"+s, "i"+s, "u"+s, " "+s, "0"+s, strings.ToUpper(s)+"A")
	}
	return bad
}

func TestLevelLimits(t *testing.T) {
	if impl.MaxLevel != 60 || impl.MaxParams != 3 {
		t.Errorf("limits %d, %d, want 60, 3", impl.MaxLevel, impl.MaxParams)
	}
}

// checkLevel checks all functions for a level with at most 60 bytes.
func checkLevel(t *testing.T, s string) {
	t.Helper()
	if !impl.LevelOk(s) {
		t.Errorf("LevelOk(%q) = false", s)
	}
	if got := impl.LevelEnd(s, 0); got != len(s) {
		t.Errorf("LevelEnd(%q, 0) = %d, want %d", s, got, len(s))
	}
	params := 0
	for k, param := range selfParams {
		if strings.Contains(s, param) {
			params = k + 1
		}
	}
	if got := impl.LevelParams(s); got != params {
		t.Errorf("LevelParams(%q) = %d, want %d", s, got, params)
	}
	if got, want := impl.LevelUps(s), len(strings.Split(s, "+"))-1; got != want {
		t.Errorf("LevelUps(%q) = %d, want %d", s, got, want)
	}
	for size := range 4 {
		got, ok := impl.LevelPut(s, selfParams[:size])
		if ok != (size >= params) || ok && got != s || !ok && got != "" {
			t.Errorf("LevelPut(%q, %v) = %q, %v, want the same level for %d parameters", s, selfParams[:size], got, ok, params)
		}
		checkNewString(t, got, s)
	}
}

// checkNoLevel checks all functions but LevelEnd for a string that is not a level, or too long for one.
func checkNoLevel(t *testing.T, s string) {
	t.Helper()
	if impl.LevelOk(s) {
		t.Errorf("LevelOk(%.80q) = true", s)
	}
	if params, ups := impl.LevelParams(s), impl.LevelUps(s); params != 0 || ups != 0 {
		t.Errorf("LevelParams, LevelUps(%.80q) = %d, %d, want 0, 0", s, params, ups)
	}
	for _, args := range [][]string{nil, {}, {"z"}, {"z", "z"}, {"z", "z", "z"}, selfParams, {s}, {"z", "z", "z", "z"}} {
		checkNoPut(t, s, args)
	}
	for _, level := range []string{"z", "+z", "u0", "u1", "u2", "mu0u2"} {
		for at := range 3 {
			args := []string{"z", "z", "z"}
			args[at] = s
			checkNoPut(t, level, args)
		}
		checkNoPut(t, level, []string{s})
	}
}

func checkPut(t *testing.T, s string, args []string, want string) {
	t.Helper()
	kept := slices.Clone(args)
	got, ok := impl.LevelPut(s, args)
	if !ok || got != want {
		t.Errorf("LevelPut(%q, %q) = %q, %v, want %q", s, args, got, ok, want)
	}
	checkNewString(t, got, s)
	for _, arg := range args {
		checkNewString(t, got, arg)
	}
	if !slices.Equal(args, kept) {
		t.Errorf("LevelPut changed its arguments %q to %q", kept, args)
	}
}

func checkNoPut(t *testing.T, s string, args []string) {
	t.Helper()
	kept := slices.Clone(args)
	if got, ok := impl.LevelPut(s, args); ok || got != "" {
		t.Errorf("LevelPut(%.80q, %.200q) = %q, %v, want false", s, args, got, ok)
	}
	if !slices.Equal(args, kept) {
		t.Errorf("LevelPut changed its arguments %.200q to %.200q", kept, args)
	}
}

func TestLevelsOfEachForm(t *testing.T) {
	figures := []string{
		"z", "+z", "++z", "u0", "u1", "u2", "+u0", "+u1", "+u2", "mzz", "izz", "mu0u1", "iu2u0", "m+zz", "mz+z", "i+zz", "iz+z", "+mzz", "+izz",
		"mmzzz", "mzmzz", "mizzz", "mzizz", "imzzz", "izmzz", "iizzz", "izizz", "mmzzmzz", "immu0u1+u2i+zu0", "+m+i+u0+zm+u2+u1", "mu0mu1u2", "iiiu0u1u2z",
	}
	for _, s := range figures {
		checkLevel(t, s)
	}
	forms := []string{"z", "+z", "u0", "u1", "u2", "mzu1", "iu2z", "+mu0z", "m+ziu1u1", "imzzu2"}
	for _, a := range forms {
		checkLevel(t, a)
		checkLevel(t, "+"+a)
		for _, b := range forms {
			checkLevel(t, "m"+a+b)
			checkLevel(t, "i"+a+b)
			checkLevel(t, "m"+a+"+i"+b+a)
			checkLevel(t, "ii"+b+a+"+m"+a+b)
		}
	}
}

func TestLevelsUpToEightBytes(t *testing.T) {
	for _, s := range levelsUpTo(8) {
		checkLevel(t, s)
	}
}

func TestLevelsOfEverySize(t *testing.T) {
	source := rand.New(rand.NewSource(4))
	for size := 1; size <= 60; size++ {
		for range 100 {
			checkLevel(t, randomLevel(source, size))
		}
	}
}

func TestInvalidLevels(t *testing.T) {
	for _, s := range invalidLevels() {
		checkNoLevel(t, s)
	}
}

func TestLevelOkEveryShortText(t *testing.T) {
	levels := setOf(levelsUpTo(9))
	for _, most := range []struct {
		letters string
		size    int
	}{{"z+miu0123Z", 5}, {"zmu1", 8}, {"z+i", 9}} {
		everyText(most.letters, most.size, func(s string) {
			if got := impl.LevelOk(s); got != levels[s] {
				t.Errorf("LevelOk(%q) = %v, want %v", s, got, levels[s])
			}
		})
	}
}

func TestLevelBytes(t *testing.T) {
	for b := range 256 {
		s := string([]byte{byte(b)})
		begin := strings.Contains("z+miu", s)
		digit := strings.Contains("012", s)
		cases := []struct {
			text string
			ok   bool
		}{
			{s, s == "z"}, {s + "z", s == "+"}, {s + "zz", s == "m" || s == "i"}, {s + "0", s == "u"}, {"u" + s, digit}, {"+" + s, s == "z"},
			{"mz" + s, s == "z"}, {"i" + s + "z", s == "z"}, {"iu" + s + "z", digit}, {"mzu" + s, digit}, {"z" + s, false}, {"u1" + s, false}, {"mzz" + s, false},
		}
		for _, c := range cases {
			if got := impl.LevelOk(c.text); got != c.ok {
				t.Errorf("LevelOk(%q) = %v, want %v", c.text, got, c.ok)
			}
		}
		if got := impl.LevelEnd(s+"0zz", 0); (got >= 0) != (begin && s != "+" && s != "m" && s != "i") {
			t.Errorf("LevelEnd(%q, 0) = %d", s+"0zz", got)
		}
		// A level ends before any byte that follows it.
		if got := impl.LevelEnd("u2"+s, 0); got != 2 {
			t.Errorf("LevelEnd(%q, 0) = %d, want 2", "u2"+s, got)
		}
	}
}

func TestLevelSizeLimit(t *testing.T) {
	for size := 50; size <= 60; size += 2 {
		for _, s := range longLevels(size) {
			if len(s) != size {
				t.Fatalf("%q has %d bytes, want %d", s, len(s), size)
			}
			checkLevel(t, s)
		}
	}
	for _, s := range longLevels(60) {
		longer := "+" + s
		checkNoLevel(t, longer)
		if got := impl.LevelEnd(longer, 0); got != 61 {
			t.Errorf("LevelEnd(%q, 0) = %d, want 61", longer, got)
		}
		checkNoLevel(t, s+"z")
		checkNoLevel(t, s[:59])
	}
	for _, size := range []int{62, 64, 100, 256, 1000, 9998, 10000, 10002, 100000} {
		for _, s := range longLevels(size) {
			checkNoLevel(t, s)
		}
	}
}

func TestLevelEndFigures(t *testing.T) {
	cases := []struct {
		text string
		at   int
		want int
	}{
		{"z", 0, 1}, {"z", 1, -1}, {"z", 2, -1}, {"z", -1, -1}, {"", 0, -1}, {"", 1, -1}, {"", -1, -1}, {"x", 0, -1},
		{"+zz", 0, 2}, {"+zz", 1, 2}, {"+zz", 2, 3}, {"+zz", 3, -1}, {"zz", 0, 1}, {"zz", 1, 2}, {"z+", 0, 1}, {"z+", 1, -1}, {"zX", 0, 1}, {"z\xff", 0, 1},
		{"u0", 0, 2}, {"u0", 1, -1}, {"u1", 0, 2}, {"u2", 0, 2}, {"u3", 0, -1}, {"u9", 0, -1}, {"u", 0, -1}, {"u00", 0, 2}, {"u12", 0, 2}, {"u0u", 0, 2}, {"u0u", 2, -1}, {"uu0", 0, -1}, {"uu0", 1, 3}, {"uz", 0, -1}, {"uz", 1, 2},
		{"mzz", 0, 3}, {"mzz", 1, 2}, {"mzz", 2, 3}, {"mz", 0, -1}, {"mz", 1, 2}, {"m", 0, -1}, {"mzzz", 0, 3}, {"mzzz", 3, 4}, {"mu0u1u2", 0, 5}, {"mu0u1u2", 5, 7}, {"mu0u", 0, -1}, {"muu0z", 0, -1}, {"mzu3", 0, -1}, {"mzxz", 0, -1},
		{"izz", 0, 3}, {"iz", 0, -1}, {"i", 0, -1}, {"iizzz", 0, 5}, {"iizz", 0, -1}, {"iizz", 1, 4}, {"imzzizz", 0, 7}, {"imzzizz", 1, 4}, {"imzzizz", 4, 7}, {"iu2+zx", 0, 5},
		{"+", 0, -1}, {"++", 0, -1}, {"++z", 0, 3}, {"++z", 1, 3}, {"++z", 2, 3}, {"+u", 0, -1}, {"+u2", 0, 3}, {"+u2", 1, 3}, {"+u2", 2, -1}, {"+mzz", 0, 4}, {"+mz", 0, -1}, {"+ z", 0, -1},
		{"s+z.", 0, -1}, {"s+z.", 1, 3}, {"s+z.", 2, 3}, {"s+z.", 3, -1}, {"s+z.", 4, -1}, {"ca;z,u1,.", 3, 4}, {"ca;z,u1,.", 5, 7}, {"ca;z,u1,.", 4, -1},
		{"Z", 0, -1}, {"U0", 0, -1}, {"Mzz", 0, -1}, {"Izz", 0, -1}, {"mZz", 0, -1}, {"mzZ", 0, -1}, {" z", 0, -1}, {" z", 1, 2}, {"\x00z", 0, -1}, {"\x00z", 1, 2},
		{"z", math.MinInt, -1}, {"z", math.MaxInt, -1}, {"z", math.MinInt + 1, -1}, {"z", math.MaxInt - 1, -1}, {"z", -1 << 32, -1}, {"z", 1 << 32, -1}, {"zz", -2, -1}, {"", math.MinInt, -1}, {"", math.MaxInt, -1},
	}
	for _, c := range cases {
		if got := impl.LevelEnd(c.text, c.at); got != c.want {
			t.Errorf("LevelEnd(%q, %d) = %d, want %d", c.text, c.at, got, c.want)
		}
	}
	for _, s := range invalidLevels() {
		if impl.LevelEnd(s, 0) == len(s) {
			t.Errorf("LevelEnd(%q, 0) = %d, but it is not a level", s, len(s))
		}
	}
}

// TestLevelEndEveryShortText relies on no level being the beginning of another one.
func TestLevelEndEveryShortText(t *testing.T) {
	levels := setOf(levelsUpTo(7))
	check := func(text string) {
		for at := -2; at <= len(text)+2; at++ {
			want := -1
			for end := at + 1; at >= 0 && end <= len(text); end++ {
				if levels[text[at:end]] {
					want = end
				}
			}
			if got := impl.LevelEnd(text, at); got != want {
				t.Errorf("LevelEnd(%q, %d) = %d, want %d", text, at, got, want)
			}
		}
	}
	everyText("z+miu023Z", 4, check)
	everyText("z+mu1", 6, check)
	everyText("zi", 7, check)
}

func TestLevelEndsAtItsEnd(t *testing.T) {
	source := rand.New(rand.NewSource(44))
	around := []string{"", "z", "+", "m", "i", "u", "0", "u1", "u3", ".", ",", "Z", "\x00", "\xff", "mz", "sz.", "zzzzzz"}
	for range 3000 {
		s := randomLevel(source, 1+source.Intn(90))
		before, after := around[source.Intn(len(around))], around[source.Intn(len(around))]
		text := before + s + after
		if got, want := impl.LevelEnd(text, len(before)), len(before)+len(s); got != want {
			t.Errorf("LevelEnd(%q, %d) = %d, want %d", text, len(before), got, want)
		}
		// A level that is cut off has no end.
		cut := source.Intn(len(s))
		if got := impl.LevelEnd(before+s[:cut], len(before)); got != -1 {
			t.Errorf("LevelEnd(%q, %d) = %d, want -1", before+s[:cut], len(before), got)
		}
	}
}

func TestLevelEndTextLimit(t *testing.T) {
	for _, size := range []int{1000, 9998, 10000} {
		for _, s := range longLevels(size) {
			if got := impl.LevelEnd(s, 0); got != size {
				t.Errorf("LevelEnd of a level with %d bytes is %d", size, got)
			}
			if got := impl.LevelEnd(s[:size-1], 0); got != -1 {
				t.Errorf("LevelEnd of a level with %d bytes that is cut off is %d, want -1", size, got)
			}
		}
	}
	full := strings.Repeat("z", 9997) + "+u2"
	longer := full + "z"
	for at := range 10003 {
		want := at + 1
		switch {
		case at == 9997 || at == 9998:
			want = 10000
		case at > 9998:
			want = -1
		}
		if got := impl.LevelEnd(full, at); got != want {
			t.Errorf("LevelEnd of 10000 bytes at %d = %d, want %d", at, got, want)
		}
		if got := impl.LevelEnd(longer, at); got != -1 {
			t.Errorf("LevelEnd of 10001 bytes at %d = %d, want -1", at, got)
		}
	}
	for _, text := range []string{strings.Repeat("+", 10000) + "z", strings.Repeat("m", 10001), strings.Repeat("z", 1000000)} {
		for _, at := range []int{-1, 0, 1, 9999, 10000, 10001, len(text) - 1, len(text)} {
			if got := impl.LevelEnd(text, at); got != -1 {
				t.Errorf("LevelEnd of %d bytes at %d = %d, want -1", len(text), at, got)
			}
		}
	}
	for _, text := range []string{strings.Repeat("+", 10000), strings.Repeat("m", 10000), strings.Repeat("u", 10000), strings.Repeat("iz", 5000)} {
		if got := impl.LevelEnd(text, 0); got != -1 {
			t.Errorf("LevelEnd of %d bytes without the end of a level = %d, want -1", len(text), got)
		}
	}
}

func TestLevelParamsAndUpsFigures(t *testing.T) {
	cases := []struct {
		s           string
		params, ups int
	}{
		{"z", 0, 0}, {"+z", 0, 1}, {"++z", 0, 2}, {"u0", 1, 0}, {"u1", 2, 0}, {"u2", 3, 0}, {"+u0", 1, 1}, {"++u2", 3, 2},
		{"mu0u2", 3, 0}, {"mu2u0", 3, 0}, {"iu1u0", 2, 0}, {"iu0u1", 2, 0}, {"mu0u0", 1, 0}, {"mzu1", 2, 0}, {"iu1z", 2, 0}, {"mzz", 0, 0},
		{"m+u0++u1", 2, 3}, {"i++z+m+u2+z", 3, 5}, {"+i+z+z", 0, 3}, {"mmu0u1u0", 2, 0}, {"imu2u1u0", 3, 0},
		{"", 0, 0}, {"u", 0, 0}, {"u3", 0, 0}, {"u9", 0, 0}, {"+", 0, 0}, {"mu2", 0, 0}, {"mu2+", 0, 0}, {"u2z", 0, 0}, {"+zz", 0, 0}, {"++u1+", 0, 0}, {"mu1u3", 0, 0}, {"U2", 0, 0}, {" u2", 0, 0}, {"2", 0, 0},
		{strings.Repeat("+", 59) + "z", 0, 59}, {strings.Repeat("+", 60) + "z", 0, 0}, {strings.Repeat("+", 58) + "u2", 3, 58}, {strings.Repeat("+", 59) + "u2", 0, 0},
	}
	for _, c := range cases {
		if params, ups := impl.LevelParams(c.s), impl.LevelUps(c.s); params != c.params || ups != c.ups {
			t.Errorf("LevelParams, LevelUps(%q) = %d, %d, want %d, %d", c.s, params, ups, c.params, c.ups)
		}
	}
}

func TestLevelPutFigures(t *testing.T) {
	cases := []struct {
		s    string
		args []string
		want string
	}{
		{"mu0+u1", []string{"+z", "u0"}, "m+z+u0"}, {"u0", []string{"z"}, "z"}, {"u1", []string{"z", "+z"}, "+z"}, {"u2", []string{"z", "+z", "++z"}, "++z"}, {"u1", []string{"+z", "z", "++z"}, "z"},
		{"z", nil, "z"}, {"z", []string{}, "z"}, {"+z", nil, "+z"}, {"mz+z", []string{}, "mz+z"}, {"izz", nil, "izz"}, {"z", []string{"+z"}, "z"}, {"z", []string{"u0", "u1"}, "z"}, {"+z", []string{"mzz", "u1", "u2"}, "+z"},
		{"u0", []string{"u0"}, "u0"}, {"u0", []string{"u1"}, "u1"}, {"u0", []string{"u2", "z"}, "u2"}, {"u0", []string{"+u0"}, "+u0"}, {"u0", []string{"mu0u0"}, "mu0u0"}, {"+u0", []string{"+u1"}, "++u1"},
		{"mu0u1", []string{"u1", "u0"}, "mu1u0"}, {"mu0mu1u2", []string{"u1", "u2", "u0"}, "mu1mu2u0"}, {"iu0u1", []string{"u1", "z"}, "iu1z"}, {"iu1u0", []string{"u1", "u0"}, "iu0u1"}, {"mu0u1", []string{"u1", "u1"}, "mu1u1"},
		{"mu0u0", []string{"mzz"}, "mmzzmzz"}, {"iu2iu2u0", []string{"z", "+z", "iu0u1"}, "iiu0u1iiu0u1z"}, {"m+u0i+u1+u2", []string{"mzz", "izz", "+z"}, "m+mzzi+izz++z"}, {"+i+u0z", []string{"u2"}, "+i+u2z"},
	}
	for _, c := range cases {
		checkPut(t, c.s, c.args, c.want)
	}
}

func TestLevelPutNumberOfArguments(t *testing.T) {
	levels := []string{"z", "+mzz", "u0", "u1", "u2", "mu0u1", "iu1u0", "mu0u2", "+u2", "mmu0u1u2"}
	for _, s := range levels {
		for size := range 8 {
			args := slices.Repeat([]string{"+z"}, size)
			if size < impl.LevelParams(s) || size > 3 {
				checkNoPut(t, s, args)
			} else {
				checkPut(t, s, args, strings.NewReplacer("u0", "+z", "u1", "+z", "u2", "+z").Replace(s))
			}
		}
		checkNoPut(t, s, slices.Repeat([]string{"z"}, 100000))
		checkNoPut(t, s, slices.Repeat([]string{""}, 4))
	}
	for _, args := range [][]string{nil, {}} {
		checkPut(t, "z", args, "z")
		for _, s := range []string{"u0", "u1", "u2", "mzu0", "+u1"} {
			checkNoPut(t, s, args)
		}
	}
}

func TestLevelPutRejectsArguments(t *testing.T) {
	bad := append(invalidLevels(), strings.Repeat("+", 60)+"z", strings.Repeat("m", 30)+strings.Repeat("z", 31), strings.Repeat("+", 100000)+"z")
	levels := []string{"z", "u0", "u1", "u2", "mu0u1", "iu0u2", "mmu0u1u2"}
	for _, s := range levels {
		for _, arg := range bad {
			for size := 1; size <= 3; size++ {
				for at := range size {
					args := slices.Clone(selfParams[:size])
					args[at] = arg
					checkNoPut(t, s, args)
				}
			}
		}
	}
}

func TestLevelPutSizeLimit(t *testing.T) {
	ups := func(size int, last string) string { return strings.Repeat("+", size-len(last)) + last }
	cases := []struct {
		s    string
		args []string
		want string
	}{
		{"u0", []string{ups(60, "z")}, ups(60, "z")}, {"u2", []string{"z", "z", ups(60, "u1")}, ups(60, "u1")}, {"+u0", []string{ups(59, "z")}, ups(60, "z")}, {"+u0", []string{ups(60, "z")}, ""},
		{ups(60, "u0"), []string{"u2"}, ups(60, "u2")}, {ups(60, "u0"), []string{"z"}, ups(59, "z")}, {ups(60, "u0"), []string{"+z"}, ups(60, "z")}, {ups(60, "u0"), []string{"++z"}, ""}, {ups(60, "u0"), []string{"mzz"}, ""}, {ups(59, "u0"), []string{"mzz"}, ups(60, "mzz")}, {ups(59, "u0"), []string{"+mzz"}, ""},
		{"mu0u0", []string{ups(29, "z")}, "m" + ups(29, "z") + ups(29, "z")}, {"mu0u0", []string{ups(30, "z")}, ""}, {"mu0u1", []string{ups(29, "z"), ups(30, "u0")}, "m" + ups(29, "z") + ups(30, "u0")}, {"mu0u1", []string{ups(30, "z"), ups(30, "u0")}, ""},
		{"imu0u1u2", []string{ups(20, "z"), ups(19, "z"), ups(19, "z")}, "im" + ups(20, "z") + ups(19, "z") + ups(19, "z")}, {"imu0u1u2", []string{ups(20, "z"), ups(20, "z"), ups(19, "z")}, ""}, {"mmu0u0u0", []string{ups(60, "z")}, ""},
		// An argument whose parameter does not occur adds nothing.
		{"u0", []string{"z", ups(60, "z"), ups(60, "u2")}, "z"}, {ups(60, "z"), []string{ups(60, "z"), ups(60, "z"), ups(60, "z")}, ups(60, "z")},
		// What is too long for a level is not one, even if the result would be short enough.
		{ups(61, "u0"), []string{"z"}, ""}, {ups(61, "u0"), []string{"u0"}, ""}, {"z", []string{ups(61, "z")}, ""}, {"u0", []string{"z", ups(61, "z")}, ""}, {"u0", []string{ups(61, "z")}, ""},
	}
	for _, c := range cases {
		if c.want == "" {
			checkNoPut(t, c.s, c.args)
			continue
		}
		checkPut(t, c.s, c.args, c.want)
	}
	// With 20 parameters, one more byte in each argument exceeds the limit.
	many := strings.Repeat("m", 19) + strings.Repeat("u1", 20)
	checkPut(t, many, selfParams, many)
	checkPut(t, many, []string{"u0", "u1"}, many)
	checkPut(t, "+"+many, []string{"z", "+z"}, "+"+strings.Repeat("m", 19)+strings.Repeat("+z", 20))
	checkNoPut(t, many, []string{"z", "mzz"})
	checkNoPut(t, many, []string{"z", ups(60, "z")})
}

func TestLevelPutReplacesEachParameter(t *testing.T) {
	source := rand.New(rand.NewSource(404))
	accepted, rejected := 0, 0
	for range 20000 {
		s := randomLevel(source, 1+source.Intn(60))
		args := []string{}
		for range 3 {
			args = append(args, randomLevel(source, 1+source.Intn(1+source.Intn(12))))
		}
		want := strings.NewReplacer("u0", args[0], "u1", args[1], "u2", args[2]).Replace(s)
		if len(want) > 60 {
			rejected++
			checkNoPut(t, s, args)
			continue
		}
		accepted++
		checkPut(t, s, args, want)
		if !impl.LevelOk(want) {
			t.Errorf("the result %q is not a level", want)
		}
		checkPut(t, want, selfParams, want)
	}
	if accepted < 1000 || rejected < 1000 {
		t.Errorf("%d results within the limit and %d beyond it are too few", accepted, rejected)
	}
}

func TestLevelPutLeavesSpareCapacity(t *testing.T) {
	backing := []string{"+z", "u0", "mzz", "spare1", "spare2"}
	kept := slices.Clone(backing)
	for size := range len(backing) + 1 {
		for _, s := range []string{"z", "u0", "mu0u1", "imu0u1u2", "", "u3", strings.Repeat("+", 60) + "u0"} {
			impl.LevelPut(s, backing[:size])
		}
	}
	if !slices.Equal(backing, kept) {
		t.Errorf("the memory of the arguments was changed: %q", backing)
	}
}

func TestLevelPutReturnsNewMemory(t *testing.T) {
	for _, s := range levelsUpTo(5) {
		for _, arg := range []string{"z", "+z", "u0", "mzu1"} {
			args := []string{arg, arg, strings.Clone(arg)}
			first, _ := impl.LevelPut(s, args)
			second, _ := impl.LevelPut(first, args)
			for _, argument := range append(args, s) {
				checkNewString(t, first, argument)
			}
			checkNewString(t, second, first)
			checkNewString(t, second, arg)
		}
	}
}
