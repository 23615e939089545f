package tests

import (
	"math"
	"math/rand"
	"slices"
	"strconv"
	"strings"
	"testing"

	"loop.example/g00963/impl"
)

// spot is a term without parts, or the first byte of another one, and the number of binders above it.
type spot struct {
	leaf    tree
	binders int
}

// spotsOf reads s, which is a term, from its beginning; due holds the binders above each term still to come, the next one last.
func spotsOf(s string) []spot {
	spots, due := []spot{}, []int{0}
	for s != "" {
		last := len(due) - 1
		binders := due[last]
		due = due[:last]
		leaf := tree{text: s[:1]}
		switch s[0] {
		case '@':
			due = append(due, binders, binders)
		case 'l', 'p':
			due = append(due, binders+1, binders)
		case 't':
			due = append(due, binders+1, binders, binders)
		default:
			leaf, _ = leafOf(s)
		}
		spots = append(spots, spot{leaf, binders})
		s = s[len(leaf.text):]
	}
	return spots
}

// changedTerm is an independent description of what the functions have in common: the term s with the text that change returns for each leaf.
func changedTerm(s string, change func(leaf tree, binders int) (string, bool)) (string, bool) {
	if _, ok := treeOf(s); !ok {
		return "", false
	}
	text := ""
	for _, at := range spotsOf(s) {
		part, ok := at.leaf.text, true
		if at.leaf.size > 0 {
			part, ok = change(at.leaf, at.binders)
		}
		if text += part; !ok || len(text) > 2000 {
			return "", false
		}
	}
	return text, true
}

func wantLifted(s string, by int, from int) (string, bool) {
	if by < 0 || by > 999 || from < 0 || from > 999 {
		return "", false
	}
	return changedTerm(s, func(leaf tree, binders int) (string, bool) {
		if len(leaf.free) == 0 || leaf.free[0]-binders < from {
			return leaf.text, true
		}
		return variableTree(leaf.free[0] + by).text, leaf.free[0]+by <= 999
	})
}

func wantPutIn(body string, arg string) (string, bool) {
	if _, ok := treeOf(arg); !ok {
		return "", false
	}
	return changedTerm(body, func(leaf tree, binders int) (string, bool) {
		switch {
		case len(leaf.free) == 0 || leaf.free[0] < binders:
			return leaf.text, true
		case leaf.free[0] == binders:
			return wantLifted(arg, binders, 0)
		}
		return variableTree(leaf.free[0] - 1).text, true
	})
}

// wantLevel is an independent description of LevelPut.
func wantLevel(level string, args []string) (string, bool) {
	pairs := []string{}
	for k, arg := range args {
		if !isLevel(arg) || k > 2 {
			return "", false
		}
		pairs = append(pairs, selfParams[k], arg)
	}
	for k := len(args); k < 3; k++ {
		pairs = append(pairs, selfParams[k], "no level")
	}
	put := strings.NewReplacer(pairs...).Replace(level)
	return put, isLevel(put)
}

func wantTermLevels(s string, args []string) (string, bool) {
	if len(args) > 3 {
		return "", false
	}
	return changedTerm(s, func(leaf tree, _ int) (string, bool) {
		switch {
		case leaf.text[0] == 's':
			level, ok := wantLevel(leaf.text[1:len(leaf.text)-1], args)
			return "s" + level + ".", ok
		case leaf.name == "":
			return leaf.text, true
		}
		levels := []string{}
		for _, level := range leaf.levels {
			put, ok := wantLevel(level, args)
			if !ok {
				return "", false
			}
			levels = append(levels, put)
		}
		return constantTree(leaf.name, levels...).text, true
	})
}

func wantParams(s string) int {
	if _, ok := treeOf(s); !ok {
		return 0
	}
	params := 0
	for _, at := range spotsOf(s) {
		levels := at.leaf.levels
		if at.leaf.size > 0 && at.leaf.text[0] == 's' {
			levels = []string{at.leaf.text}
		}
		for k, param := range selfParams {
			if strings.Contains(strings.Join(levels, ","), param) {
				params = max(params, k+1)
			}
		}
	}
	return params
}

// checkResult checks what was returned for these strings; want is "" where there is no result.
func checkResult(t *testing.T, call string, got string, ok bool, want string, arguments ...string) {
	t.Helper()
	if got != want || ok != (want != "") {
		t.Errorf("%s of %.150q = %.300q, %v, want %.300q", call, arguments, got, ok, want)
	}
	for _, argument := range arguments {
		checkNewString(t, got, argument)
	}
}

func checkLifted(t *testing.T, s string, by int, from int, want string) {
	t.Helper()
	got, ok := impl.Lifted(s, by, from)
	checkResult(t, "Lifted by "+strconv.Itoa(by)+" from "+strconv.Itoa(from), got, ok, want, s)
}

func checkPutIn(t *testing.T, body string, arg string, want string) {
	t.Helper()
	got, ok := impl.PutIn(body, arg)
	checkResult(t, "PutIn", got, ok, want, body, arg)
}

func checkTermLevels(t *testing.T, s string, args []string, want string) {
	t.Helper()
	kept := slices.Clone(args)
	got, ok := impl.TermLevels(s, args)
	checkResult(t, "TermLevels", got, ok, want, append([]string{s}, args...)...)
	if !slices.Equal(args, kept) {
		t.Errorf("TermLevels changed its arguments %.200q to %.200q", kept, args)
	}
}

// checkAgainst checks the functions for a text of which the test itself finds out the results.
func checkAgainst(t *testing.T, s string, arg string, by int, from int, levels []string) {
	t.Helper()
	want, _ := wantLifted(s, by, from)
	checkLifted(t, s, by, from, want)
	want, _ = wantPutIn(s, arg)
	checkPutIn(t, s, arg, want)
	want, _ = wantTermLevels(s, levels)
	checkTermLevels(t, s, levels, want)
	if got := impl.ParamsIn(s); got != wantParams(s) {
		t.Errorf("ParamsIn(%q) = %d, want %d", s, got, wantParams(s))
	}
}

// someNoTerms holds texts that are no terms, among them ones that are too long.
func someNoTerms() []string {
	texts := []string{
		"", "v", "v.", "v0", "v01.", "v1000.", "v-1.", "V0.", " v0.", "v0. ", "v0.v0.", "s", "s.", "sz", "su3.", "szz.", "s" + strings.Repeat("+", 60) + "z.", "c", "ca;", "ca.", "c;.", "cA;.", "ca;z.", "ca;,.", "ca;z,z,z,z,.", "cnat;z.",
		"@", "@v0.", "@v0.v0.v0.", "lsz.", "psz.", "tsz.v0.", "tsz.v0.v0.v0.", "lv0.v1000.", "lsz.v0", "@v0.sz", "x", "\x00", "\xff", "#0", "lambda",
	}
	for _, size := range []int{2001, 2002, 10000, 100000} {
		texts = append(texts, nestedTexts(size)...)
	}
	return texts
}

func TestLiftedFigures(t *testing.T) {
	figures := []struct {
		text     string
		by, from int
		want     string
	}{
		{"@v0.lsz.@v0.v1.", 2, 0, "@v2.lsz.@v0.v3."},
		{"v0.", 1, 0, "v1."}, {"v0.", 1, 1, "v0."}, {"v5.", 3, 4, "v8."}, {"v5.", 3, 5, "v8."}, {"v5.", 3, 6, "v5."}, {"v9.", 1, 0, "v10."}, {"v99.", 1, 9, "v100."}, {"v7.", 0, 0, "v7."}, {"v0.", 999, 0, "v999."},
		{"sz.", 5, 0, "sz."}, {"su2.", 1, 0, "su2."}, {"cnat.rec;u0,+z,.", 7, 0, "cnat.rec;u0,+z,."}, {"cv0;.", 1, 0, "cv0;."}, {"cv0.v1;u1,.", 1, 0, "cv0.v1;u1,."},
		// A variable whose binder is within the term does not change.
		{"lsz.v0.", 1, 0, "lsz.v0."}, {"lsz.v1.", 1, 0, "lsz.v2."}, {"lv0.v0.", 1, 0, "lv1.v0."}, {"lv0.v1.", 4, 0, "lv4.v5."}, {"lv0.v1.", 4, 1, "lv0.v1."}, {"lv1.v1.", 4, 1, "lv5.v1."}, {"lv1.v2.", 4, 1, "lv5.v6."},
		{"psz.v0.", 1, 0, "psz.v0."}, {"pv0.v1.", 1, 0, "pv1.v2."}, {"pv0.pv1.v2.", 1, 0, "pv1.pv2.v3."}, {"pv0.pv0.v0.", 1, 0, "pv1.pv0.v0."}, {"psz.psz.v1.", 9, 0, "psz.psz.v1."}, {"psz.psz.v2.", 9, 0, "psz.psz.v11."},
		{"tsz.sz.v0.", 1, 0, "tsz.sz.v0."}, {"tv0.v0.v0.", 1, 0, "tv1.v1.v0."}, {"tv0.v0.v1.", 1, 0, "tv1.v1.v2."}, {"tv0.v1.v2.", 3, 1, "tv0.v4.v5."}, {"tv0.lv0.v1.tv0.v1.v2.", 1, 0, "tv1.lv1.v2.tv0.v2.v3."},
		{"lsz.lsz.lsz.@v2.@v3.v4.", 5, 0, "lsz.lsz.lsz.@v2.@v8.v9."}, {"lsz.lsz.lsz.@v2.@v3.v4.", 5, 1, "lsz.lsz.lsz.@v2.@v3.v9."}, {"lsz.lsz.lsz.@v2.@v3.v4.", 5, 2, "lsz.lsz.lsz.@v2.@v3.v4."},
		{"@@v0.v1.v2.", 10, 1, "@@v0.v11.v12."}, {"@lsz.v1.v1.", 1, 1, "@lsz.v1.v2."}, {"@v1.lsz.v1.", 1, 1, "@v2.lsz.v1."},
	}
	for _, f := range figures {
		checkLifted(t, f.text, f.by, f.from, f.want)
	}
}

func TestLiftedRangesOfNumbers(t *testing.T) {
	outside := []int{-1, 1000, -2, 1001, -999, -1000, 1 << 32, -1 << 32, 1<<32 + 1, math.MaxInt, math.MaxInt - 1, math.MinInt, math.MinInt + 1}
	for _, s := range []string{"v0.", "v1.", "v998.", "v999.", "sz.", "ca;.", "@v0.v1.", "lsz.v0.", "lsz.v1.", "lsz.v999.", "pv0.v1.", "tv1.v0.v2.", "tsz.sz.sz."} {
		for _, number := range outside {
			for _, other := range append([]int{0, 1, 998, 999}, outside...) {
				checkLifted(t, s, number, other, "")
				checkLifted(t, s, other, number, "")
			}
		}
		for _, by := range []int{0, 1, 2, 998, 999} {
			for _, from := range []int{0, 1, 2, 998, 999} {
				want, _ := wantLifted(s, by, from)
				checkLifted(t, s, by, from, want)
			}
		}
	}
	checkLifted(t, "v0.", 999, 0, "v999.")
	checkLifted(t, "v0.", 999, 999, "v0.")
	checkLifted(t, "v999.", 0, 999, "v999.")
	checkLifted(t, "v999.", 1, 999, "")
	checkLifted(t, "v998.", 1, 999, "v998.")
	checkLifted(t, "lsz.v999.", 999, 999, "lsz.v999.")
}

// TestLiftedUnderBinders puts variables into up to three terms around them.
func TestLiftedUnderBinders(t *testing.T) {
	everyPlace(3, func(before string, after string, binders int) {
		for _, n := range []int{0, 1, 2, 3, 4, 5, 6} {
			for _, from := range []int{0, 1, 2, 3} {
				for _, by := range []int{0, 1, 7} {
					want := n
					if n-binders >= from {
						want += by
					}
					s := before + variableTree(n).text + after
					checkLifted(t, s, by, from, before+variableTree(want).text+after)
				}
			}
		}
	})
}

// TestLiftedManyBinders puts two variables under binders, of which one is bound by the outermost binder.
func TestLiftedManyBinders(t *testing.T) {
	for _, form := range []string{"lsz.", "psz.", "tsz.sz."} {
		for binders := 1; binders < 270; binders += 7 {
			before := strings.Repeat(form, binders) + "@" + variableTree(binders-1).text
			for _, from := range []int{0, 1, 5} {
				for _, by := range []int{0, 1, 99} {
					checkLifted(t, before+variableTree(binders+from).text, by, from, before+variableTree(binders+from+by).text)
					checkLifted(t, before+variableTree(binders+from-1).text, by, from, before+variableTree(binders+from-1).text)
				}
			}
		}
	}
}

func TestLiftedGreatestVariable(t *testing.T) {
	everyPlace(3, func(before string, after string, binders int) {
		checkLifted(t, before+"v999."+after, 0, 0, before+"v999."+after)
		for _, by := range []int{1, 2, 5, 990} {
			n := 999 - by
			fits, over := before+variableTree(n).text+after, before+variableTree(n+1).text+after
			checkLifted(t, fits, by, 0, before+"v999."+after)
			checkLifted(t, over, by, 0, "")
			checkLifted(t, "@v0."+over, by, 0, "")
			checkLifted(t, "@"+over+"v0.", by, 0, "")
			// A variable that does not change is not too great.
			checkLifted(t, fits, by, n-binders, before+"v999."+after)
			checkLifted(t, fits, by, n-binders+1, fits)
			checkLifted(t, over, by, n-binders+1, "")
			if n-binders+2 <= 999 {
				checkLifted(t, over, by, n-binders+2, over)
			}
		}
	})
	checkLifted(t, "@v0.v1.", 998, 0, "@v998.v999.")
	checkLifted(t, "@v0.v1.", 999, 0, "")
	checkLifted(t, "@v1.v0.", 999, 0, "")
	checkLifted(t, "@v1.v0.", 999, 1, "")
	checkLifted(t, "@v1.v0.", 999, 2, "@v1.v0.")
	checkLifted(t, "lsz.@v0.v1.", 998, 0, "lsz.@v0.v999.")
	checkLifted(t, "lsz.@v0.v1.", 999, 0, "")
}

// plainText is a term with exactly size bytes, which is at least 3, without variables and parameters.
func plainText(size int) string {
	return strings.Repeat("@sz.", (size-3)/4) + "s" + strings.Repeat("+", (size-3)%4) + "z."
}

// filledUp returns s, applied to a term without variables and parameters that fills it up to exactly size bytes.
func filledUp(s string, size int) string {
	return "@" + s + plainText(size-len(s)-1)
}

func TestLiftedResultSizeLimit(t *testing.T) {
	for _, size := range []int{1900, 1990, 1996, 1997, 1998, 1999, 2000} {
		for _, s := range []string{"v9.", "v99.", "@v0.v9.", "@v9.v9.", "@v8.@v9.v99.", "lv9.v10.", "lv9.v9.", "pv5.v9.", "tv9.v9.v10.", "tv9.v0.v9.", "lsz.lsz.v11.", "lsz.lsz.v9."} {
			text := filledUp(s, size)
			if _, ok := treeOf(text); !ok || len(text) != size {
				t.Fatalf("%q with %d bytes is not a term with %d bytes", text, len(text), size)
			}
			for _, by := range []int{0, 1, 2, 90, 91, 900} {
				lifted, _ := wantLifted(s, by, 0)
				want := "@" + lifted + text[1+len(s):]
				if len(want) > 2000 {
					want = ""
				}
				checkLifted(t, text, by, 0, want)
			}
		}
	}
	checkLifted(t, filledUp("v9.", 1999), 1, 0, filledUp("v10.", 2000))
	checkLifted(t, filledUp("v9.", 2000), 1, 0, "")
	checkLifted(t, filledUp("v9.", 2000), 1, 10, filledUp("v9.", 2000))
	checkLifted(t, filledUp("v8.", 2000), 1, 0, filledUp("v9.", 2000))
	// Each of many variables becomes longer.
	lists := func(pieces int, last string) string { return strings.Repeat("@v9.", pieces) + last }
	checkLifted(t, lists(399, "v9."), 1, 0, strings.Repeat("@v10.", 399)+"v10.")
	checkLifted(t, lists(399, "v99."), 1, 0, strings.Repeat("@v10.", 399)+"v100.")
	checkLifted(t, lists(399, "@v0.v0."), 1, 0, "")
	checkLifted(t, lists(400, "v0."), 1, 0, "")
	checkLifted(t, lists(499, "v9."), 0, 0, lists(499, "v9."))
}

func TestLiftedNoTerm(t *testing.T) {
	for _, s := range someNoTerms() {
		for _, by := range []int{0, 1, 999, -1, 1000} {
			checkLifted(t, s, by, 0, "")
			checkLifted(t, s, by, 1, "")
			checkLifted(t, s, by, 999, "")
		}
	}
}

func TestShiftingTwiceShiftsByTheSum(t *testing.T) {
	source := rand.New(rand.NewSource(7))
	shifted := 0
	for range 6000 {
		s := treeOfSize(source, 3+source.Intn(1+source.Intn(300))).text
		first, second, from := source.Intn(5), source.Intn(1+source.Intn(1000)), source.Intn(1+source.Intn(12))
		once, ok := impl.Lifted(s, first, from)
		if !ok {
			continue
		}
		shifted++
		twice, twiceOk := impl.Lifted(once, second, from)
		// What was shifted may be shifted again from anywhere up to its new number.
		again, againOk := impl.Lifted(once, second, from+first)
		sum, sumOk := impl.Lifted(s, first+second, from)
		if first+second > 999 {
			sum, sumOk = wantLifted(once, second, from)
		}
		if twice != sum || twiceOk != sumOk || again != sum || againOk != sumOk {
			t.Errorf("Lifted(%q) by %d and by %d from %d = %q and %q, want %q", s, first, second, from, twice, again, sum)
		}
		checkLifted(t, s, 0, from, s)
		checkLifted(t, s, 0, 0, s)
	}
	if shifted < 1000 {
		t.Errorf("%d shifted terms are too few", shifted)
	}
}

func TestPutInFigures(t *testing.T) {
	figures := []struct {
		body, arg, want string
	}{
		{"@v1.lsz.@v0.v1.", "v4.", "@v0.lsz.@v0.v5."},
		{"v0.", "v0.", "v0."}, {"v0.", "sz.", "sz."}, {"v0.", "v999.", "v999."}, {"v0.", "lsz.@v0.v1.", "lsz.@v0.v1."}, {"v1.", "sz.", "v0."}, {"v2.", "sz.", "v1."}, {"v10.", "sz.", "v9."}, {"v100.", "sz.", "v99."}, {"v999.", "sz.", "v998."},
		{"sz.", "v0.", "sz."}, {"su2.", "v0.", "su2."}, {"ca;u0,.", "v0.", "ca;u0,."}, {"cv0;.", "sz.", "cv0;."}, {"cv1.v0;z,.", "sz.", "cv1.v0;z,."},
		{"@v0.v0.", "ca;.", "@ca;.ca;."}, {"@@v0.v1.v0.", "@v0.v1.", "@@@v0.v1.v0.@v0.v1."}, {"@v1.v2.", "sz.", "@v0.v1."},
		// Under a binder, the variable 0 has the number 1, and the argument's own variables are one greater.
		{"lsz.v0.", "v7.", "lsz.v0."}, {"lsz.v1.", "v7.", "lsz.v8."}, {"lsz.v2.", "v7.", "lsz.v1."}, {"lsz.v3.", "v7.", "lsz.v2."}, {"lv0.v0.", "v7.", "lv7.v0."}, {"lv0.v1.", "v7.", "lv7.v8."}, {"lv1.v2.", "v7.", "lv0.v1."}, {"lv0.v1.", "sz.", "lsz.sz."},
		{"psz.v0.", "v7.", "psz.v0."}, {"psz.v1.", "v7.", "psz.v8."}, {"psz.v2.", "v7.", "psz.v1."}, {"pv0.v1.", "v7.", "pv7.v8."}, {"pv0.pv1.v2.", "ca;.", "pca;.pca;.ca;."}, {"pv0.pv1.v2.", "v0.", "pv0.pv1.v2."},
		{"tv0.v0.v0.", "v7.", "tv7.v7.v0."}, {"tv0.v0.v1.", "v7.", "tv7.v7.v8."}, {"tv1.v2.v3.", "v7.", "tv0.v1.v2."}, {"tsz.v0.v0.", "ca;.", "tsz.ca;.v0."},
		{"lsz.lsz.lsz.v3.", "v0.", "lsz.lsz.lsz.v3."}, {"lsz.lsz.lsz.v3.", "v6.", "lsz.lsz.lsz.v9."}, {"lsz.lsz.lsz.@v2.@v3.v4.", "v1.", "lsz.lsz.lsz.@v2.@v4.v3."}, {"lv0.lv1.lv2.@v3.v0.", "v5.", "lv5.lv6.lv7.@v8.v0."},
		// Variables bound in the argument stay what they are.
		{"lsz.v1.", "lsz.v0.", "lsz.lsz.v0."}, {"lsz.v1.", "lsz.v1.", "lsz.lsz.v2."}, {"lsz.lsz.v2.", "lv0.@v0.v1.", "lsz.lsz.lv2.@v0.v3."}, {"lsz.lsz.@v2.v3.", "pv0.@v0.@v1.v2.", "lsz.lsz.@pv2.@v0.@v3.v4.v2."}, {"psz.tsz.v1.v2.", "tv0.v1.@v0.@v1.v2.", "psz.tsz.tv1.v2.@v0.@v2.v3.tv2.v3.@v0.@v3.v4."},
		{"@v0.lv0.@v1.v2.", "@v0.v3.", "@@v0.v3.l@v0.v3.@@v1.v4.v1."},
	}
	for _, f := range figures {
		checkPutIn(t, f.body, f.arg, f.want)
	}
}

// TestPutInUnderBinders puts a variable into up to three terms around it, and replaces it.
func TestPutInUnderBinders(t *testing.T) {
	arguments := []struct {
		text string
		// lifted is the argument under binders.
		lifted func(binders int) string
	}{
		{"ca;u0,.", func(binders int) string { return "ca;u0,." }},
		{"v0.", func(binders int) string { return variableTree(binders).text }},
		{"lv1.@v0.v3.", func(binders int) string {
			return "l" + variableTree(1+binders).text + "@v0." + variableTree(3+binders).text
		}},
		{"psz.lsz.@@v0.v1.v2.", func(binders int) string { return "psz.lsz.@@v0.v1." + variableTree(2+binders).text }},
		{"tv0.v1.@v0.v1.", func(binders int) string {
			return "t" + variableTree(binders).text + variableTree(1+binders).text + "@v0." + variableTree(1+binders).text
		}},
	}
	everyPlace(3, func(before string, after string, binders int) {
		for _, arg := range arguments {
			put := arg.lifted(binders)
			checkPutIn(t, before+variableTree(binders).text+after, arg.text, before+put+after)
			twice := before + "@" + variableTree(binders).text + variableTree(binders).text + after
			checkPutIn(t, twice, arg.text, before+"@"+put+put+after)
			for n := range binders {
				bound := before + variableTree(n).text + after
				checkPutIn(t, bound, arg.text, bound)
			}
			for _, n := range []int{binders + 1, binders + 2, binders + 9, 998, 999} {
				checkPutIn(t, before+variableTree(n).text+after, arg.text, before+variableTree(n-1).text+after)
			}
		}
	})
}

func TestPutInManyBinders(t *testing.T) {
	for _, form := range []string{"lsz.", "psz.", "tsz.sz."} {
		for binders := 1; binders < 270; binders += 7 {
			before := strings.Repeat(form, binders) + "@" + variableTree(binders-1).text
			checkPutIn(t, before+variableTree(binders).text, "@v0.v9.", before+"@"+variableTree(binders).text+variableTree(binders+9).text)
			checkPutIn(t, before+variableTree(binders+1).text, "@v0.v9.", before+variableTree(binders).text)
		}
	}
}

// TestPutInArgumentThatCannotBeLifted relies on an argument being lifted only where it is put.
func TestPutInArgumentThatCannotBeLifted(t *testing.T) {
	everyPlace(3, func(before string, after string, binders int) {
		body := before + variableTree(binders).text + after
		great := variableTree(999 - binders).text
		checkPutIn(t, body, great, before+"v999."+after)
		checkPutIn(t, body, "lsz."+variableTree(999-binders).text, before+"lsz.v999."+after)
		if binders > 0 {
			for _, n := range []int{1000 - binders, 999} {
				checkPutIn(t, body, variableTree(n).text, "")
				checkPutIn(t, body, "@v0."+variableTree(n).text, "")
				checkPutIn(t, body, "lsz.@"+variableTree(n).text+"v0.", "")
				checkPutIn(t, "@v0."+body, variableTree(n).text, "")
				checkPutIn(t, "@"+body+"v0.", variableTree(n).text, "")
			}
		}
		checkPutIn(t, before+variableTree(binders+1).text+after, "v999.", body)
	})
	checkPutIn(t, "@v0.lsz.v0.", "v999.", "@v999.lsz.v0.")
	checkPutIn(t, "@v0.lsz.v1.", "v999.", "")
	checkPutIn(t, "@v0.lsz.v1.", "v998.", "@v998.lsz.v999.")
	// Under many binders, an argument also becomes longer.
	long := filledUp("v9.", 1990)
	checkPutIn(t, "v0.", long, long)
	checkPutIn(t, "lsz.v1.", long, "lsz."+strings.Replace(long, "v9.", "v10.", 1))
	checkPutIn(t, "lsz.lsz.v2.", long, "lsz.lsz."+strings.Replace(long, "v9.", "v11.", 1))
	checkPutIn(t, "lsz.lsz.lsz.v3.", long, "")
	checkPutIn(t, "lsz.v1.", filledUp("v9.", 2000), "")
}

func TestPutInResultSizeLimit(t *testing.T) {
	for _, size := range []int{1900, 1990, 1997, 1998, 1999, 2000} {
		for _, body := range []string{"v0.", "v1.", "v10.", "v100.", "@v0.v0.", "lv0.v1.", "lv0.v0.", "pv10.v1.", "tv0.v0.v1.", "tsz.v0.v10.", "lsz.lsz.v2."} {
			for _, arg := range []string{"v0.", "v8.", "v9.", "v98.", "sz.", "s+z.", "ca;.", "ca;z,.", "@v9.v9.", "lv0.v0.", "lsz.lsz.v0.", "pv9.v10.", "ca.b.c;u0,u1,u2,."} {
				put, _ := wantPutIn(body, arg)
				text := filledUp(body, size)
				want := "@" + put + text[1+len(body):]
				if len(want) > 2000 {
					want = ""
				}
				checkPutIn(t, text, arg, want)
			}
		}
	}
	checkPutIn(t, filledUp("v0.", 1999), "s+z.", filledUp("s+z.", 2000))
	checkPutIn(t, filledUp("v0.", 2000), "s+z.", "")
	checkPutIn(t, "v0.", plainText(2000), plainText(2000))
	checkPutIn(t, "@v0.v0.", plainText(999), "@"+plainText(999)+plainText(999))
	checkPutIn(t, "@v0.@v0.sz.", plainText(997), "@"+plainText(997)+"@"+plainText(997)+"sz.")
	checkPutIn(t, "@v0.@v0.sz.", plainText(998), "")
	checkPutIn(t, "@v0.@v0.s+z.", plainText(997), "@"+plainText(997)+"@"+plainText(997)+"s+z.")
	for _, size := range []int{1000, 1001, 1500, 1999, 2000} {
		checkPutIn(t, "@v0.v0.", plainText(size), "")
		checkPutIn(t, "@v0.lv0.v1.", plainText(size), "")
	}
	checkPutIn(t, "@v0.sz.", plainText(1996), "@"+plainText(1996)+"sz.")
	checkPutIn(t, "@v0.sz.", plainText(1997), "")
	// Many places, in each of which a long argument would be put.
	many := strings.Repeat("@v0.", 499) + "v0."
	checkPutIn(t, many, "sz.", strings.Repeat("@sz.", 499)+"sz.")
	checkPutIn(t, strings.Repeat("@v0.", 399)+"v0.", "s+z.", strings.Repeat("@s+z.", 399)+"s+z.")
	checkPutIn(t, strings.Repeat("@v0.", 400)+"v0.", "s+z.", "")
	for _, size := range []int{5, 667, 999, 1001, 1500, 2000} {
		checkPutIn(t, many, plainText(size), "")
		checkPutIn(t, strings.Repeat("lv0.", 499)+"v0.", plainText(size), "")
	}
	checkPutIn(t, strings.Repeat("lv0.", 499)+"v0.", "s+z.", "ls+z."+strings.Repeat("lv0.", 498)+"v0.")
}

func TestPutInNoTerm(t *testing.T) {
	for _, s := range someNoTerms() {
		for _, other := range []string{"v0.", "v1.", "sz.", "lsz.v0.", "lsz.v1.", "@v0.v0.", "tv0.v0.v1.", plainText(2000)} {
			checkPutIn(t, s, other, "")
			// The argument must be a term even where it is not put.
			checkPutIn(t, other, s, "")
		}
		checkPutIn(t, s, s, "")
	}
}

func TestSubstitutingIntoAShiftedTermChangesNothing(t *testing.T) {
	source := rand.New(rand.NewSource(77))
	arguments := []string{"v0.", "v999.", "sz.", "ca;u0,.", "lsz.v1.", plainText(2000), filledUp("v999.", 2000)}
	shifted := 0
	for range 4000 {
		s := treeOfSize(source, 3+source.Intn(1+source.Intn(1998))).text
		lifted, ok := impl.Lifted(s, 1, 0)
		if !ok {
			continue
		}
		shifted++
		checkPutIn(t, lifted, arguments[source.Intn(len(arguments))], s)
		checkPutIn(t, lifted, treeOfSize(source, 3+source.Intn(100)).text, s)
	}
	if shifted < 1000 {
		t.Errorf("%d shifted terms are too few", shifted)
	}
	for _, whole := range someTrees() {
		for _, arg := range arguments {
			if lifted, ok := impl.Lifted(whole.text, 1, 0); ok {
				checkPutIn(t, lifted, arg, whole.text)
			}
		}
	}
}

func TestTermLevelsFigures(t *testing.T) {
	figures := []struct {
		text string
		args []string
		want string
	}{
		{"@su0.cid;u1,.", []string{"z", "+z"}, "@sz.cid;+z,."},
		{"su0.", []string{"z"}, "sz."}, {"su1.", []string{"z", "+z"}, "s+z."}, {"su2.", []string{"z", "z", "mzz"}, "smzz."}, {"smu0+u1.", []string{"+z", "u0"}, "sm+z+u0."}, {"siu2iu2u0.", []string{"z", "z", "+u1"}, "si+u1i+u1z."}, {"smu0u1.", []string{"u1", "u0"}, "smu1u0."}, {"s+u0.", []string{"u0"}, "s+u0."},
		{"ca;u0,.", []string{"+z"}, "ca;+z,."}, {"ca;u0,u1,.", []string{"u1", "z"}, "ca;u1,z,."}, {"ca;u2,u1,u0,.", []string{"z", "+z", "++z"}, "ca;++z,+z,z,."}, {"ca;u0,u0,u0,.", []string{"u2"}, "ca;u2,u2,u2,."}, {"ca;z,u1,+z,.", []string{"z", "mzz"}, "ca;z,mzz,+z,."}, {"ca;mu0u1,i+u1u0,.", []string{"u2", "z"}, "ca;mu2z,i+zu2,."},
		// Names, variables and constants without levels do not change.
		{"cu0;.", []string{"z"}, "cu0;."}, {"cu0.u1;u0,.", []string{"+z"}, "cu0.u1;+z,."}, {"v0.", []string{"z"}, "v0."}, {"v999.", nil, "v999."}, {"ca;.", nil, "ca;."}, {"@v0.ca;.", []string{"z", "z", "z"}, "@v0.ca;."},
		{"psu0.psu1.@ca;u0,u1,.v0.", []string{"+z", "z"}, "ps+z.psz.@ca;+z,z,.v0."}, {"lsu0.lv0.@@cid;u0,.v1.v0.", []string{"mu0u1"}, "lsmu0u1.lv0.@@cid;mu0u1,.v1.v0."}, {"tsu0.ca;u1,.@cb;u2,.v0.", []string{"z", "+z", "++z"}, "tsz.ca;+z,.@cb;++z,.v0."}, {"tpsu0.su0.lsu0.su0.tsu1.su1.su1.", []string{"z", "+z"}, "tpsz.sz.lsz.sz.ts+z.s+z.s+z."},
		// No argument is needed where there is no parameter.
		{"sz.", nil, "sz."}, {"sz.", []string{}, "sz."}, {"smz+z.", nil, "smz+z."}, {"ca;z,+z,.", nil, "ca;z,+z,."}, {"ca;z,+z,.", []string{"u0", "u1", "u2"}, "ca;z,+z,."}, {"@lsz.v0.ca;z,.", []string{}, "@lsz.v0.ca;z,."},
		{"su0.", nil, ""}, {"su0.", []string{}, ""}, {"su1.", []string{"z"}, ""}, {"su2.", []string{"z", "z"}, ""}, {"ca;u0,.", nil, ""}, {"ca;z,u1,.", []string{"z"}, ""}, {"ca;u0,u0,u1,.", []string{"z"}, ""}, {"ca;u2,u0,u0,.", []string{"z", "z"}, ""}, {"@su0.su1.", []string{"z"}, ""}, {"@su1.su0.", []string{"z"}, ""}, {"lv0.lv0.su0.", nil, ""}, {"tsz.ca;u0,.v0.", nil, ""}, {"tsz.v0.ca;u0,.", nil, ""},
	}
	for _, f := range figures {
		checkTermLevels(t, f.text, f.args, f.want)
	}
}

func TestTermLevelsNumberOfArguments(t *testing.T) {
	for _, s := range []string{"v0.", "sz.", "ca;.", "ca;z,.", "su0.", "su1.", "su2.", "ca;u0,u1,u2,.", "@su0.su2.", "lsu1.v0.", "tsz.v0.cb;z,u0,."} {
		for size := range 8 {
			for _, arg := range []string{"z", "+u2", "mu0u1"} {
				args := slices.Repeat([]string{arg}, size)
				want := strings.NewReplacer("u0", arg, "u1", arg, "u2", arg).Replace(s)
				if size > 3 || size < wantParams(s) {
					want = ""
				}
				checkTermLevels(t, s, args, want)
			}
		}
		checkTermLevels(t, s, slices.Repeat([]string{"z"}, 100000), "")
		checkTermLevels(t, s, slices.Repeat([]string{""}, 4), "")
	}
}

func TestTermLevelsArgumentThatIsNoLevel(t *testing.T) {
	bad := append(invalidLevels(), raised(60, "z"), raised(100000, "z"), "z,", "z.", "z,z", ".", ",")
	for _, arg := range bad {
		for size := 1; size <= 3; size++ {
			for at := range size {
				args := slices.Clone(selfParams[:size])
				args[at] = arg
				for _, s := range []string{"sz.", "su0.", "ca;z,.", "ca;u0,u0,.", "@v0.sz.", "lv0.ca;z,.", "tv0.v0.su0."} {
					checkTermLevels(t, s, args, "")
				}
				// Only a level is replaced by LevelPut, which then rejects the argument.
				for _, s := range []string{"v0.", "ca;.", "@v0.ca;.", "lv0.v1.", "pca;.v0.", "tv0.v1.v2."} {
					checkTermLevels(t, s, args, s)
				}
			}
		}
		checkTermLevels(t, "v0.", []string{arg, arg, arg, arg}, "")
	}
}

func TestTermLevelsLevelSizeLimit(t *testing.T) {
	cases := []struct {
		level string
		args  []string
		want  string
	}{
		{"u0", []string{raised(59, "z")}, raised(59, "z")}, {"+u0", []string{raised(58, "z")}, raised(59, "z")}, {"+u0", []string{raised(59, "z")}, ""}, {raised(58, "u0"), []string{"+z"}, raised(59, "z")}, {raised(58, "u0"), []string{"++z"}, ""}, {raised(58, "u2"), []string{"z", "z", "u1"}, raised(58, "u1")}, {raised(58, "u2"), []string{"z", "z", "+u1"}, ""},
		{"mu0u0", []string{raised(28, "z")}, "m" + raised(28, "z") + raised(28, "z")}, {"mu0u0", []string{raised(29, "z")}, ""}, {"mu0u1", []string{raised(28, "z"), raised(29, "z")}, "m" + raised(28, "z") + raised(29, "z")}, {"mu1u1", []string{"z", raised(29, "z")}, ""},
		{"u0", []string{"z", raised(59, "z"), raised(59, "z")}, "z"}, {"z", []string{raised(59, "z")}, "z"},
	}
	forms := []string{"s_.", "ca;_,.", "ca;z,_,.", "ca;_,z,.", "ca;_,_,_,.", "@v0.s_.", "@s_.v0.", "ls_.v0.", "lv0.s_.", "ps_.ca;_,.", "tsz.s_.v0.", "tsz.v0.ca;_,."}
	for _, c := range cases {
		for _, form := range forms {
			want := ""
			if c.want != "" {
				want = strings.ReplaceAll(form, "_", c.want)
			}
			checkTermLevels(t, strings.ReplaceAll(form, "_", c.level), c.args, want)
		}
	}
}

func TestTermLevelsResultSizeLimit(t *testing.T) {
	for _, size := range []int{1900, 1990, 1996, 1997, 1998, 1999, 2000} {
		for _, s := range []string{"su0.", "s+u1.", "smu0u2.", "ca;u0,.", "ca;u0,u0,u1,.", "@su0.su0.", "lsu2.ca;u1,.", "tsu0.v0.su1."} {
			for _, args := range [][]string{{"z", "z", "z"}, selfParams, {"+z", "+z", "+z"}, {"+u0", "u1", "u2"}, {"mzz", "z", "+u2"}, {raised(40, "z"), "z", "z"}} {
				put, _ := wantTermLevels(s, args)
				text := filledUp(s, size)
				want := "@" + put + text[1+len(s):]
				if len(want) > 2000 || put == "" {
					want = ""
				}
				checkTermLevels(t, text, args, want)
			}
		}
	}
	checkTermLevels(t, filledUp("su0.", 1999), []string{"+u0"}, filledUp("s+u0.", 2000))
	checkTermLevels(t, filledUp("su0.", 2000), []string{"+u0"}, "")
	checkTermLevels(t, filledUp("su0.", 2000), []string{"+z"}, filledUp("s+z.", 2000))
	many := strings.Repeat("@su0.", 399) + "su0."
	checkTermLevels(t, many, []string{"u2"}, strings.ReplaceAll(many, "u0", "u2"))
	checkTermLevels(t, many, []string{"z"}, strings.ReplaceAll(many, "u0", "z"))
	checkTermLevels(t, many, []string{"+u0"}, "")
	checkTermLevels(t, many, []string{raised(59, "z")}, "")
}

func TestTermLevelsNoTerm(t *testing.T) {
	for _, s := range someNoTerms() {
		for _, args := range [][]string{nil, {"z"}, selfParams, {"z", "z", "z", "z"}, {""}, {s}} {
			checkTermLevels(t, s, args, "")
		}
	}
}

func TestTermLevelsReplaceEachParameterByItself(t *testing.T) {
	source := rand.New(rand.NewSource(777))
	for range 3000 {
		s := treeOfSize(source, 3+source.Intn(1+source.Intn(1998))).text
		checkTermLevels(t, s, selfParams, s)
		params := impl.ParamsIn(s)
		checkTermLevels(t, s, selfParams[:params], s)
		if params > 0 {
			checkTermLevels(t, s, selfParams[:params-1], "")
		}
	}
}

func TestParamsInFigures(t *testing.T) {
	figures := []struct {
		text   string
		params int
	}{
		{"sz.", 0}, {"s+mzizz.", 0}, {"su0.", 1}, {"su1.", 2}, {"su2.", 3}, {"s+u1.", 2}, {"smu0u2.", 3}, {"smu2u0.", 3}, {"smu0mu2u1.", 3}, {"siu1u0.", 2}, {"smzu0.", 1},
		{"ca;.", 0}, {"ca;z,.", 0}, {"ca;z,+z,mzz,.", 0}, {"ca;u0,.", 1}, {"ca;u2,.", 3}, {"ca;u2,u0,u1,.", 3}, {"ca;u0,u2,u1,.", 3}, {"ca;u0,u1,u2,.", 3}, {"ca;z,u1,.", 2}, {"ca;u1,z,.", 2}, {"ca;z,u0,z,.", 1}, {"ca;+mu0u1,.", 2},
		{"v0.", 0}, {"v999.", 0}, {"v2.", 0}, {"@v0.v1.", 0}, {"lca;.v0.", 0}, {"cu2;.", 0}, {"cu2.u1;u0,.", 1}, {"@cu2;.su0.", 1},
		{"@su0.su2.", 3}, {"@su2.su0.", 3}, {"@su0.@su2.su1.", 3}, {"@sz.su0.", 1}, {"@su0.v5.", 1}, {"lsu2.v0.", 3}, {"lv0.su2.", 3}, {"psu1.ca;u0,.", 2}, {"psu0.ca;u1,.", 2}, {"psz.psz.psz.su1.", 2}, {"tsu2.su1.su0.", 3}, {"tsu0.su2.su1.", 3}, {"tsu0.su1.su2.", 3}, {"tsz.ca;u0,.v0.", 1}, {"tv0.v0.ca;z,u1,.", 2},
		{"", 0}, {"su3.", 0}, {"su2", 0}, {"u2", 0}, {"su2.su2.", 0}, {"ca;u2.", 0}, {"ca;u2,", 0}, {"@su2.", 0}, {"lsu2.", 0}, {"tsu2.su2.", 0}, {"@su2.v1000.", 0}, {"su2. ", 0}, {"s" + raised(59, "u2") + ".", 0}, {"s" + raised(58, "u2") + ".", 3}, {"@" + plainText(1996) + "su2.", 0}, {"@" + plainText(1995) + "su2.", 3},
	}
	for _, f := range figures {
		if got := impl.ParamsIn(f.text); got != f.params {
			t.Errorf("ParamsIn(%.100q) = %d, want %d", f.text, got, f.params)
		}
	}
	everyPlace(3, func(before string, after string, _ int) {
		for k, level := range []string{"z", "u0", "u1", "u2"} {
			for _, s := range []string{"s" + level + ".", "ca;" + level + ",.", "@su0.ca;z," + level + ",."} {
				want := k
				if s[0] == '@' {
					want = max(k, 1)
				}
				if got := impl.ParamsIn(before + s + after); got != want {
					t.Errorf("ParamsIn(%q) = %d, want %d", before+s+after, got, want)
				}
			}
		}
	})
	for _, s := range someNoTerms() {
		if got := impl.ParamsIn(s); got != 0 {
			t.Errorf("ParamsIn(%.100q) = %d, want 0", s, got)
		}
	}
}

// TestSmallTerms checks all terms of some shapes.
func TestSmallTerms(t *testing.T) {
	leaves := []tree{variableTree(0), variableTree(1), variableTree(2), variableTree(3), sortTree("u1"), constantTree("u0", "u0", "+z")}
	small := slices.Clone(leaves)
	for _, a := range leaves {
		for _, b := range leaves {
			small = append(small, treeWith("@", a, b), treeWith("l", a, b), treeWith("p", a, b))
			for _, c := range leaves {
				small = append(small, treeWith("t", a, b, c))
			}
		}
	}
	arguments := []string{"v0.", "v1.", "lsz.v1.", "v998.", "tv0.v0.v2."}
	levels := [][]string{{"+z", "u2"}, {"z"}, nil, {"mu0u1", "", "z"}}
	number := 0
	check := func(whole tree) {
		number++
		checkAgainst(t, whole.text, arguments[number%5], []int{0, 1, 8, 997, 998, 999}[number%6], number%4, levels[number%4])
	}
	for _, a := range small {
		check(a)
		for _, b := range leaves {
			for _, kind := range []string{"@", "l", "p"} {
				check(treeWith(kind, a, b))
				check(treeWith(kind, b, a))
			}
			check(treeWith("t", a, b, b))
			check(treeWith("t", b, a, leaves[number%6]))
			check(treeWith("t", leaves[number%6], b, a))
		}
	}
}

func TestRandomTerms(t *testing.T) {
	source := rand.New(rand.NewSource(7777))
	put := 0
	for range 5000 {
		body := treeOfSize(source, 3+source.Intn(200))
		arg := treeOfSize(source, 3+source.Intn(1+source.Intn(60))).text
		levels := []string{}
		for range source.Intn(5) {
			levels = append(levels, randomLevel(source, 1+source.Intn(1+source.Intn(12))))
		}
		checkAgainst(t, body.text, arg, source.Intn(1+source.Intn(1001)), source.Intn(1+source.Intn(20)), levels)
		if slices.Contains(body.free, 0) {
			put++
		}
	}
	if put < 300 {
		t.Errorf("%d bodies with the variable 0 are too few", put)
	}
}

func TestTermLevelsLeavesSpareCapacity(t *testing.T) {
	backing := []string{"+z", "u0", "mzz", "spare1", "spare2"}
	kept := slices.Clone(backing)
	for size := range len(backing) + 1 {
		for _, s := range []string{"v0.", "sz.", "su0.", "ca;u0,u1,.", "@su2.ca;u0,u1,u2,.", "", "su3."} {
			impl.TermLevels(s, backing[:size])
		}
	}
	if !slices.Equal(backing, kept) {
		t.Errorf("the memory of the arguments was changed: %q", backing)
	}
}

// TestLiftResultsAreNewMemory checks results that are equal to an argument; the others are compared by the checks above.
func TestLiftResultsAreNewMemory(t *testing.T) {
	for _, whole := range someTrees() {
		checkLifted(t, whole.text, 0, 0, whole.text)
		checkLifted(t, whole.text, 0, 999, whole.text)
		checkPutIn(t, "v0.", whole.text, whole.text)
		checkTermLevels(t, whole.text, selfParams, whole.text)
	}
	args := []string{"u1", "+u0"}
	text, _ := impl.TermLevels("ca;u0,u1,.", args)
	args[0], args[1] = "z", "z"
	if text != "ca;u1,+u0,." {
		t.Errorf("a changed argument changed the result to %q", text)
	}
}
