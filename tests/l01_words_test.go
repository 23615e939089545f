package tests

import (
	"math"
	"slices"
	"strings"
	"testing"

	"loop.example/g00963/impl"
)

func TestTextLimits(t *testing.T) {
	got := []int{impl.MaxText, impl.MaxNumber, impl.MaxWords, impl.MaxParts}
	if want := []int{20000, 1000000000, 600, 12}; !slices.Equal(got, want) {
		t.Errorf("limits %v, want %v", got, want)
	}
}

func TestHexFigures(t *testing.T) {
	cases := []struct{ text, want string }{
		{"", ""},
		{"\x00", "00"},
		{"\x0f", "0f"},
		{"\xf0", "f0"},
		{"\x01\xff", "01ff"},
		{"az AZ", "617a20415a"},
		{"\x12\x34\x56\x78\x9a\xbc\xde", "123456789abcde"},
		{"\xc3\xa9\xff\xfe", "c3a9fffe"},
	}
	for _, c := range cases {
		if got, ok := impl.Hex(c.text); !ok || got != c.want {
			t.Errorf("Hex(%q) = %q, %v, want %q", c.text, got, ok, c.want)
		}
		if got, ok := impl.Unhex(c.want); !ok || got != c.text {
			t.Errorf("Unhex(%q) = %q, %v, want %q", c.want, got, ok, c.text)
		}
	}
}

func TestHexAndUnhexAreInverse(t *testing.T) {
	const digits = "0123456789abcdef"
	all := []byte{}
	for b := range 256 {
		text := string([]byte{byte(b)})
		all = append(all, byte(b))
		want := string([]byte{digits[b/16], digits[b%16]})
		if got, ok := impl.Hex(text); !ok || got != want {
			t.Errorf("Hex(%q) = %q, %v, want %q", text, got, ok, want)
		}
		if got, ok := impl.Unhex(want); !ok || got != text {
			t.Errorf("Unhex(%q) = %q, %v, want %q", want, got, ok, text)
		}
	}
	for length := range len(all) + 1 {
		text := string(all[:length])
		h, ok := impl.Hex(text)
		if !ok || len(h) != 2*length {
			t.Fatalf("Hex of %d bytes has %d digits, %v", length, len(h), ok)
		}
		if back, ok := impl.Unhex(h); !ok || back != text {
			t.Errorf("Unhex(Hex) of %d bytes = %q, %v", length, back, ok)
		}
	}
}

func TestHexLimit(t *testing.T) {
	text := strings.Repeat("\xa5", impl.MaxText)
	h, ok := impl.Hex(text)
	if !ok || h != strings.Repeat("a5", impl.MaxText) {
		t.Errorf("Hex of MaxText bytes: %d digits, %v", len(h), ok)
	}
	if back, ok := impl.Unhex(h); !ok || back != text {
		t.Errorf("Unhex of 2*MaxText digits: %d bytes, %v", len(back), ok)
	}
	if got, ok := impl.Hex(text + "x"); ok || got != "" {
		t.Errorf("Hex of MaxText+1 bytes: %d digits, %v", len(got), ok)
	}
	for _, more := range []string{"0", "00"} {
		if got, ok := impl.Unhex(h + more); ok || got != "" {
			t.Errorf("Unhex of %d digits: %d bytes, %v", len(h+more), len(got), ok)
		}
	}
}

func TestUnhexRejects(t *testing.T) {
	bad := []string{"0", "abc", "AB", "aB", "Ab", "0F", "F0", "0g", "g0", "0x", " 0", "0 ", "0000/0", "0000:0", "0000`0", "0000@0", "00\x00\x00", "é0", "00\n0", "-1"}
	for _, text := range bad {
		if got, ok := impl.Unhex(text); ok || got != "" {
			t.Errorf("Unhex(%q) = %q, %v, want false", text, got, ok)
		}
	}
	for b := range 256 {
		digit := b >= '0' && b <= '9' || b >= 'a' && b <= 'f'
		for _, text := range []string{string([]byte{byte(b), '0'}), string([]byte{'0', byte(b)})} {
			if got, ok := impl.Unhex(text); ok != digit || !ok && got != "" {
				t.Errorf("Unhex(%q) = %q, %v, want %v", text, got, ok, digit)
			}
		}
	}
}

func TestDecimalFigures(t *testing.T) {
	cases := []struct {
		n    int
		want string
	}{
		{0, "0"}, {1, "1"}, {9, "9"}, {10, "10"}, {100, "100"}, {1234567890, "1234567890"},
		{-1, "-1"}, {-9, "-9"}, {-10, "-10"}, {-30, "-30"},
		{impl.MaxNumber, "1000000000"}, {impl.MaxNumber + 1, "1000000001"}, {-impl.MaxNumber, "-1000000000"},
		{math.MaxInt, "9223372036854775807"}, {math.MinInt, "-9223372036854775808"}, {math.MinInt + 1, "-9223372036854775807"},
	}
	for _, c := range cases {
		if got := impl.Decimal(c.n); got != c.want {
			t.Errorf("Decimal(%d) = %q, want %q", c.n, got, c.want)
		}
		got, ok := impl.ReadDecimal(c.want)
		within := c.n >= 0 && c.n <= impl.MaxNumber
		if ok != within || ok && got != c.n || !ok && got != 0 {
			t.Errorf("ReadDecimal(%q) = %d, %v, want %v", c.want, got, ok, within)
		}
	}
}

func TestDecimalAndReadDecimalAreInverse(t *testing.T) {
	check := func(n int) {
		if got, ok := impl.ReadDecimal(impl.Decimal(n)); !ok || got != n {
			t.Errorf("ReadDecimal(Decimal(%d)) = %d, %v", n, got, ok)
		}
	}
	for n := range 20000 {
		check(n)
		check(impl.MaxNumber - n)
	}
	for power := 1; power <= impl.MaxNumber; power *= 10 {
		check(power)
		check(power - 1)
		check(power/2 + 1)
	}
}

func TestReadDecimalRejects(t *testing.T) {
	bad := []string{
		"", " ", "00", "007", "01", "0000000001", "01000000000", "-", "+", "-0", "-1", "+0", "+1", "--1",
		" 1", "1 ", "1 2", "1\n", "1.0", "1e3", "0x1", "0b1", "1_000", "1,000", "a", "1a", "a1", "\x00", "1\x00", "/", ":", "٣",
		"1000000001", "1999999999", "2000000000", "9999999999", "10000000000",
		"9223372036854775807", "9223372036854775808", "18446744073709551616", "18446744073709551617",
		"-9223372036854775808", "-9223372036854775809",
		strings.Repeat("0", 5000), strings.Repeat("0", 5000) + "1", strings.Repeat("9", 100000),
	}
	for _, text := range bad {
		if got, ok := impl.ReadDecimal(text); ok || got != 0 {
			t.Errorf("ReadDecimal(%.40q) = %d, %v, want false", text, got, ok)
		}
	}
}

func TestReadDecimalReadsOnlyDecimals(t *testing.T) {
	const letters = "0129+-_ a"
	for _, a := range letters {
		for _, b := range letters {
			for _, c := range letters {
				text := string([]rune{a, b, c})
				n, ok := impl.ReadDecimal(text)
				want := a >= '1' && a <= '9' && b >= '0' && b <= '9' && c >= '0' && c <= '9'
				if ok != want || ok && impl.Decimal(n) != text || !ok && n != 0 {
					t.Errorf("ReadDecimal(%q) = %d, %v, want %v", text, n, ok, want)
				}
			}
		}
	}
}

func checkParts(t *testing.T, line string, want []string) {
	t.Helper()
	if got, ok := impl.PartsOf(line); !ok || !slices.Equal(got, want) {
		t.Errorf("PartsOf(%.60q) = %q, %v, want %q", line, got, ok, want)
	}
}

func checkNoParts(t *testing.T, line string) {
	t.Helper()
	if got, ok := impl.PartsOf(line); ok || len(got) != 0 {
		t.Errorf("PartsOf(%.60q) = %q, %v, want false", line, got, ok)
	}
}

func TestPartsOfFigures(t *testing.T) {
	checkParts(t, "", nil)
	checkParts(t, " ", nil)
	checkParts(t, "     ", nil)
	checkParts(t, "a", []string{"a"})
	checkParts(t, " a", []string{"a"})
	checkParts(t, "a ", []string{"a"})
	checkParts(t, "  a bc ", []string{"a", "bc"})
	checkParts(t, "a  b   c    d", []string{"a", "b", "c", "d"})
	checkParts(t, "long b longer", []string{"long", "b", "longer"})
	checkParts(t, "same same same", []string{"same", "same", "same"})
	checkParts(t, "! ~ a,b=c", []string{"!", "~", "a,b=c"})
}

func TestPartsOfBytes(t *testing.T) {
	for b := range 256 {
		one := string([]byte{byte(b)})
		for _, line := range []string{one, one + "x y", "x" + one + "y", "x y" + one, "x " + one, one + " x"} {
			if b >= 32 && b <= 126 {
				checkParts(t, line, strings.Fields(line))
			} else {
				checkNoParts(t, line)
			}
		}
	}
}

func TestPartsOfLineLimit(t *testing.T) {
	word := strings.Repeat("w", impl.MaxWords)
	checkParts(t, word, []string{word})
	checkNoParts(t, word+"w")
	checkNoParts(t, word+" ")
	checkNoParts(t, " "+word)
	spaces := strings.Repeat(" ", impl.MaxWords)
	checkParts(t, spaces, nil)
	checkNoParts(t, spaces+" ")
	checkParts(t, spaces[1:]+"a", []string{"a"})
	checkParts(t, "a"+spaces[1:], []string{"a"})
	checkNoParts(t, spaces+"a")
	checkNoParts(t, word[1:]+"\n")
}

func TestPartsOfPartLimit(t *testing.T) {
	most := strings.Split("a bb c dd e ff g hh i jj k ll", " ")
	if len(most) != impl.MaxParts {
		t.Fatal("the line has not MaxParts parts")
	}
	for _, gap := range []string{" ", "   "} {
		line := strings.Join(most, gap)
		checkParts(t, line, most)
		checkParts(t, gap+line+gap, most)
		checkNoParts(t, line+gap+"m")
		checkNoParts(t, line+gap+"m"+gap)
		checkNoParts(t, "m"+gap+line)
		checkNoParts(t, line+gap+line)
	}
	checkNoParts(t, strings.Repeat("a ", impl.MaxWords/2))
}

func TestPartsOfReturnsNewMemory(t *testing.T) {
	line := "a b c"
	first, _ := impl.PartsOf(line)
	second, _ := impl.PartsOf(line)
	first[0] = "changed"
	_ = append(first[:1], "changed")
	if !slices.Equal(second, []string{"a", "b", "c"}) || line != "a b c" {
		t.Errorf("a changed result changes another: %q, %q", second, line)
	}
	checkParts(t, line, []string{"a", "b", "c"})
}

func TestBroughtFigures(t *testing.T) {
	cases := []struct{ n, least, most, want int }{
		{5, 1, 9, 5}, {1, 1, 9, 1}, {9, 1, 9, 9}, {0, 1, 9, 1}, {10, 1, 9, 9}, {9, 1, 4, 4},
		{-5, -9, -1, -5}, {-10, -9, -1, -9}, {0, -9, -1, -1},
		{3, 4, 4, 4}, {4, 4, 4, 4}, {5, 4, 4, 4},
		{5, 7, 3, 7}, {1, 7, 3, 7}, {9, 7, 3, 7}, {7, 7, 3, 7}, {3, 7, 3, 7}, {0, 1, 0, 1}, {2, 1, 0, 1},
		{0, math.MinInt, math.MaxInt, 0}, {math.MinInt, math.MinInt, math.MaxInt, math.MinInt}, {math.MaxInt, math.MinInt, math.MaxInt, math.MaxInt},
		{math.MinInt, 0, 1, 0}, {math.MaxInt, 0, 1, 1}, {math.MinInt, math.MaxInt, math.MinInt, math.MaxInt}, {math.MaxInt, math.MaxInt, math.MinInt, math.MaxInt},
		{math.MaxInt, math.MinInt, math.MinInt, math.MinInt}, {math.MinInt, math.MaxInt, math.MaxInt, math.MaxInt},
	}
	for _, c := range cases {
		if got := impl.Brought(c.n, c.least, c.most); got != c.want {
			t.Errorf("Brought(%d, %d, %d) = %d, want %d", c.n, c.least, c.most, got, c.want)
		}
	}
}

func TestBroughtIsWithinTheRange(t *testing.T) {
	numbers := []int{math.MinInt, math.MinInt + 1, -3, -2, -1, 0, 1, 2, 3, math.MaxInt - 1, math.MaxInt}
	for _, n := range numbers {
		for _, least := range numbers {
			for _, most := range numbers {
				got := impl.Brought(n, least, most)
				if most < least && got != least {
					t.Errorf("Brought(%d, %d, %d) = %d, want least", n, least, most, got)
				}
				if least <= most && (got < least || got > most || n >= least && n <= most && got != n) {
					t.Errorf("Brought(%d, %d, %d) = %d", n, least, most, got)
				}
			}
		}
	}
}
