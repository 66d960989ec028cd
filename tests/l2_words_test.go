package tests

import (
	"math"
	"slices"
	"strings"
	"testing"

	"loop.example/tworows/impl"
)

// wordResult is what a function returns that makes a word.
type wordResult struct {
	w  string
	ok bool
}

func gotWord(w string, ok bool) wordResult {
	return wordResult{w, ok}
}

func wantWord(t *testing.T, what string, got, want wordResult) {
	t.Helper()
	if got != want {
		t.Fatalf("%s returned %v, want %v", what, got, want)
	}
}

// fractionResult is what WordFraction returns.
type fractionResult struct {
	p, q int
	ok   bool
}

func gotFraction(p, q int, ok bool) fractionResult {
	return fractionResult{p, q, ok}
}

func wantFraction(t *testing.T, what string, got, want fractionResult) {
	t.Helper()
	if got != want {
		t.Fatalf("%s returned %v, want %v", what, got, want)
	}
}

// wordsTo returns all words of at most n letters, that of none first.
func wordsTo(n int) []string {
	list := []string{""}
	for i := 0; i < len(list) && len(list[i]) < n; i++ {
		list = append(list, list[i]+"L", list[i]+"R")
	}
	return list
}

// longWords returns words of up to 40 letters: of one letter alone, of few
// pieces, of pieces that come again and again, and of letters without a rule.
func longWords() []string {
	var list []string
	for n := 11; n <= 40; n++ {
		list = append(list, strings.Repeat("L", n), strings.Repeat("R", n))
		for _, piece := range []string{"LR", "RL", "LLR", "RRL", "LLLLLLR", "RLLRRR"} {
			list = append(list, strings.Repeat(piece, n)[:n])
		}
		for k := 1; k < n; k += 3 {
			list = append(list, strings.Repeat("L", k)+strings.Repeat("R", n-k), strings.Repeat("R", k)+strings.Repeat("L", n-k))
		}
		for seed := range 20 {
			list = append(list, ruleless(seed, n))
		}
	}
	return list
}

// ruleless returns a word of n letters, another one for another seed.
func ruleless(seed, n int) string {
	w := make([]byte, n)
	x := uint32(seed*40 + n)
	for i := range w {
		x = x*1664525 + 1013904223
		w[i] = "LR"[x>>31]
	}
	return string(w)
}

// sampleWords returns the words on which the promises are tried.
func sampleWords() []string {
	return append(wordsTo(10), longWords()...)
}

// noWords returns texts that are no word.
func noWords() []string {
	list := []string{
		"l", "r", "lr", "LRl", "rLR", "LXR", "X", " ", "LR ", " LR", "L R", ".", "0", "1", "\n", "LR\n", "\x00", "L\x00R",
		"\xff", "LR\xff", "\x80LR", "Ł", "LŁR", "Ｌ", "ЛR", "\xccL", "\xd2", "M", "K", "S", "Q", "I",
	}
	for _, letter := range []string{"L", "R", "LR", "RL", "X"} {
		list = append(list, strings.Repeat(letter, 41)[:41], strings.Repeat(letter, 42)[:42], strings.Repeat(letter, 100000))
	}
	for _, w := range []string{strings.Repeat("L", 39), strings.Repeat("RL", 20)[:39]} {
		list = append(list, w+"X", "X"+w, w[:20]+"é"+w[:18])
	}
	return list
}

// plainMat is the matrix of a word, made from its last letter on by adding rows.
func plainMat(w string) impl.Mat {
	m := unit
	for i := len(w) - 1; i >= 0; i-- {
		if w[i] == 'L' {
			m.C, m.D = m.C+m.A, m.D+m.B
		} else {
			m.A, m.B = m.A+m.C, m.B+m.D
		}
	}
	return m
}

// plainWordMat is what WordMat returns for a word.
func plainWordMat(w string) matResult {
	if m := plainMat(w); rawIn(m) {
		return matResult{m, true}
	}
	return matResult{}
}

// plainWordFraction is what WordFraction returns for a word.
func plainWordFraction(w string) fractionResult {
	m := plainMat(w)
	if p, q := m.A+m.B, m.C+m.D; p <= top && q <= top {
		return fractionResult{p, q, true}
	}
	return fractionResult{}
}

// plainWordOf is what WordOf returns for a matrix: letter by letter, the row
// that is not less in both numbers is made less by the other one.
func plainWordOf(m impl.Mat) wordResult {
	if !rawIn(m) || rawDet(m) != 1 || m.A < 0 || m.B < 0 || m.C < 0 || m.D < 0 {
		return wordResult{}
	}
	w := ""
	for m != unit {
		switch {
		case len(w) == 40:
			return wordResult{}
		case m.A >= m.C && m.B >= m.D:
			w += "R"
			m.A, m.B = m.A-m.C, m.B-m.D
		case m.C >= m.A && m.D >= m.B:
			w += "L"
			m.C, m.D = m.C-m.A, m.D-m.B
		default:
			panic("no row can be made less")
		}
	}
	return wordResult{w, true}
}

// plainWordTo is what WordTo returns for two numbers, made by dividing with rest.
func plainWordTo(p, q int) wordResult {
	if p < 1 || q < 1 || p > top || q > top {
		return wordResult{}
	}
	var counts []int
	for q != 0 {
		counts = append(counts, p/q)
		p, q = q, p%q
	}
	if p != 1 {
		return wordResult{}
	}
	counts[len(counts)-1]--
	w := ""
	for i, k := range counts {
		if len(w)+k > 40 {
			return wordResult{}
		}
		w += strings.Repeat("RL"[i%2:i%2+1], k)
	}
	return wordResult{w, true}
}

// plainChanged is a word with each letter changed.
func plainChanged(w string) string {
	return strings.NewReplacer("L", "R", "R", "L").Replace(w)
}

// plainBack is a word backwards with each letter changed.
func plainBack(w string) string {
	back := ""
	for _, x := range plainChanged(w) {
		back = string(x) + back
	}
	return back
}

// Texts that are no word: every function fails with zero values.
func TestNoWord(t *testing.T) {
	for _, w := range noWords() {
		if impl.WordIn(w) {
			t.Errorf("WordIn holds for %.50q", w)
		}
		wantMat(t, "WordMat", gotMat(impl.WordMat(w)), matResult{})
		wantFraction(t, "WordFraction", gotFraction(impl.WordFraction(w)), fractionResult{})
		if runs, ok := impl.WordRuns(w); len(runs) != 0 || ok {
			t.Errorf("WordRuns of %.50q returned %v, %v", w, runs, ok)
		}
		wantWord(t, "WordChanged", gotWord(impl.WordChanged(w)), wordResult{})
		wantWord(t, "WordBack", gotWord(impl.WordBack(w)), wordResult{})
	}
	for x := range 256 {
		for _, w := range []string{string([]byte{byte(x)}), string([]byte{'L', byte(x)}), string([]byte{byte(x), 'R'})} {
			if want := x == 'L' || x == 'R'; impl.WordIn(w) != want {
				t.Errorf("WordIn of %q is %v", w, !want)
			}
		}
	}
}

func TestWordOfNoLetters(t *testing.T) {
	if !impl.WordIn("") {
		t.Errorf("WordIn does not hold for no letters")
	}
	wantMat(t, "WordMat", gotMat(impl.WordMat("")), matResult{unit, true})
	wantWord(t, "WordOf", gotWord(impl.WordOf(unit)), wordResult{"", true})
	wantFraction(t, "WordFraction", gotFraction(impl.WordFraction("")), fractionResult{1, 1, true})
	wantWord(t, "WordTo", gotWord(impl.WordTo(1, 1)), wordResult{"", true})
	if runs, ok := impl.WordRuns(""); len(runs) != 0 || !ok {
		t.Errorf("WordRuns returned %v, %v", runs, ok)
	}
	wantWord(t, "WordChanged", gotWord(impl.WordChanged("")), wordResult{"", true})
	wantWord(t, "WordBack", gotWord(impl.WordBack("")), wordResult{"", true})
}

func TestPromise12(t *testing.T) {
	for _, w := range sampleWords() {
		if !impl.WordIn(w) {
			t.Fatalf("WordIn does not hold for %q", w)
		}
		if w != "" && !impl.WordIn(w[:len(w)-1]) {
			t.Fatalf("WordIn does not hold for %q without the last letter", w)
		}
		if !impl.WordIn(plainBack(w)) {
			t.Fatalf("WordIn does not hold for %q backwards changed", w)
		}
		for _, longer := range []string{w + "L", "R" + w} {
			if impl.WordIn(longer) != (len(w) < 40) {
				t.Fatalf("WordIn of %q is %v", longer, impl.WordIn(longer))
			}
		}
	}
}

func TestWordMatValues(t *testing.T) {
	for _, c := range []struct {
		w    string
		want matResult
	}{
		{"L", matResult{mat(1, 0, 1, 1), true}},
		{"R", matResult{mat(1, 1, 0, 1), true}},
		{"LR", matResult{mat(1, 1, 1, 2), true}},
		{"RL", matResult{mat(2, 1, 1, 1), true}},
		{"LLR", matResult{mat(1, 1, 2, 3), true}},
		{"RRL", matResult{mat(3, 2, 1, 1), true}},
		{"RLL", matResult{mat(3, 1, 2, 1), true}},
		{strings.Repeat("L", 40), matResult{mat(1, 0, 40, 1), true}},
		{strings.Repeat("R", 40), matResult{mat(1, 40, 0, 1), true}},
		{strings.Repeat("L", 20) + strings.Repeat("R", 20), matResult{mat(1, 20, 20, 401), true}},
		{strings.Repeat("LR", 14), matResult{mat(196418, 317811, 317811, 514229), true}},
		{strings.Repeat("LR", 14) + "R", matResult{mat(196418, 514229, 317811, 832040), true}},
		{strings.Repeat("LR", 14) + "L", matResult{mat(514229, 317811, 832040, 514229), true}},
		{strings.Repeat("LR", 15), matResult{}},
		{strings.Repeat("RL", 15), matResult{}},
		{strings.Repeat("LR", 20), matResult{}},
	} {
		wantMat(t, "WordMat of "+c.w, gotMat(impl.WordMat(c.w)), c.want)
	}
}

func TestPromise13(t *testing.T) {
	beyond := 0
	for _, w := range sampleWords() {
		m, ok := impl.WordMat(w)
		wantMat(t, "WordMat of "+w, matResult{m, ok}, plainWordMat(w))
		if !ok {
			beyond++
			wantWord(t, "WordOf", gotWord(impl.WordOf(plainMat(w))), wordResult{})
			continue
		}
		if !impl.MatEven(m) {
			t.Fatalf("WordMat of %q is %v", w, m)
		}
		wantWord(t, "WordOf", gotWord(impl.WordOf(m)), wordResult{w, true})
	}
	if beyond < 100 {
		t.Fatalf("only %d words have no matrix", beyond)
	}
}

// The matrix of two words is the product of both.
func TestWordMatOfTwoWords(t *testing.T) {
	for _, v := range wordsTo(5) {
		for _, w := range wordsTo(5) {
			m, _ := impl.WordMat(v)
			n, _ := impl.WordMat(w)
			wantMat(t, "WordMat", gotMat(impl.WordMat(v+w)), matResult{mustTimes(t, m, n), true})
		}
	}
}

func TestWordOfValues(t *testing.T) {
	for _, c := range []struct {
		m    impl.Mat
		want wordResult
	}{
		{mat(1, 1, 1, 2), wordResult{"LR", true}},
		{mat(2, 1, 1, 1), wordResult{"RL", true}},
		{mat(1, 0, 40, 1), wordResult{strings.Repeat("L", 40), true}},
		{mat(1, 40, 0, 1), wordResult{strings.Repeat("R", 40), true}},
		{mat(1, 20, 20, 401), wordResult{strings.Repeat("L", 20) + strings.Repeat("R", 20), true}},
		// Words of more than 40 letters.
		{mat(1, 0, 41, 1), wordResult{}},
		{mat(1, 41, 0, 1), wordResult{}},
		{mat(1, 20, 21, 421), wordResult{}},
		{mat(1, 21, 20, 421), wordResult{}},
		{mat(1, 0, top, 1), wordResult{}},
		{mat(1, top, 0, 1), wordResult{}},
		{mat(top, top-1, 1, 1), wordResult{}},
		{mat(1, 1, top-1, top), wordResult{}},
		// Matrices that are not even.
		{impl.Mat{}, wordResult{}},
		{mat(0, 1, 1, 0), wordResult{}},
		{mat(1, 1, 1, 0), wordResult{}},
		{mat(1, 1, 1, 1), wordResult{}},
		{mat(2, 0, 0, 1), wordResult{}},
		{mat(2, 0, 0, 2), wordResult{}},
		{mat(2, 1, 1, 2), wordResult{}},
		{mat(1, 2, 1, 1), wordResult{}},
		{mat(top, top, top, top), wordResult{}},
		// Even matrices with a negative number.
		{mat(-1, 0, 0, -1), wordResult{}},
		{mat(1, -1, 0, 1), wordResult{}},
		{mat(1, 0, -1, 1), wordResult{}},
		{mat(0, 1, -1, 0), wordResult{}},
		{mat(0, -1, 1, 0), wordResult{}},
		{mat(0, 1, -1, 2), wordResult{}},
		{mat(2, 1, -1, 0), wordResult{}},
		{mat(3, 4, -1, -1), wordResult{}},
		{mat(-1, -1, 3, 2), wordResult{}},
		{mat(-2, -1, -1, -1), wordResult{}},
		{mat(1, -top, 0, 1), wordResult{}},
	} {
		wantWord(t, "WordOf", gotWord(impl.WordOf(c.m)), c.want)
	}
	for _, m := range noMats() {
		wantWord(t, "WordOf", gotWord(impl.WordOf(m)), wordResult{})
	}
}

func TestPromise14(t *testing.T) {
	list := sampleMats()
	for a := range 14 {
		for b := range 14 {
			for c := range 14 {
				for d := range 14 {
					list = append(list, mat(a, b, c, d))
				}
			}
		}
	}
	for k := 2; k < 60; k++ {
		list = append(list, mat(1, k, 0, 1), mat(1, 0, k, 1), mat(k, k-1, 1, 1), mat(k, 1, k-1, 1), mat(1, 1, k-1, k), mat(k, k*k-1, 1, k))
	}
	told := 0
	for _, m := range list {
		w, ok := impl.WordOf(m)
		wantWord(t, "WordOf", wordResult{w, ok}, plainWordOf(m))
		if ok {
			told++
			wantMat(t, "WordMat of "+w, gotMat(impl.WordMat(w)), matResult{m, true})
		}
	}
	if told < 300 {
		t.Fatalf("only %d matrices have a word", told)
	}
}

func TestWordFractionValues(t *testing.T) {
	for _, c := range []struct {
		w    string
		want fractionResult
	}{
		{"L", fractionResult{1, 2, true}},
		{"R", fractionResult{2, 1, true}},
		{"LR", fractionResult{2, 3, true}},
		{"RL", fractionResult{3, 2, true}},
		{"LLR", fractionResult{2, 5, true}},
		{"RRL", fractionResult{5, 2, true}},
		{"LRR", fractionResult{3, 4, true}},
		{strings.Repeat("L", 40), fractionResult{1, 41, true}},
		{strings.Repeat("R", 40), fractionResult{41, 1, true}},
		{strings.Repeat("LR", 14), fractionResult{514229, 832040, true}},
		// The matrices of these are told, the fractions are not.
		{strings.Repeat("LR", 14) + "R", fractionResult{}},
		{strings.Repeat("RL", 14) + "L", fractionResult{}},
		// The matrices of these are not told, either.
		{strings.Repeat("LR", 15), fractionResult{}},
		{strings.Repeat("RL", 20), fractionResult{}},
	} {
		wantFraction(t, "WordFraction of "+c.w, gotFraction(impl.WordFraction(c.w)), c.want)
	}
}

func TestPromise15(t *testing.T) {
	beyond := 0
	for _, w := range sampleWords() {
		p, q, ok := impl.WordFraction(w)
		wantFraction(t, "WordFraction of "+w, fractionResult{p, q, ok}, plainWordFraction(w))
		if !ok {
			beyond++
			m := plainMat(w)
			wantWord(t, "WordTo", gotWord(impl.WordTo(m.A+m.B, m.C+m.D)), wordResult{})
			continue
		}
		wantWord(t, "WordTo", gotWord(impl.WordTo(p, q)), wordResult{w, true})
	}
	if beyond < 100 {
		t.Fatalf("only %d words have no fraction", beyond)
	}
}

// wordsBy returns the words whose fractions have n as the greater number, and
// the upper one of both; n may be beyond NumberMax by a little.
func wordsBy(n int) []string {
	var list []string
	for q := n / 2; q < n; q++ {
		w := ""
		x, y := n, q
		for x != y && min(x, y) > 0 && len(w) <= 40 {
			if x > y {
				w, x = w+"R", x-y
			} else {
				w, y = w+"L", y-x
			}
		}
		if x == 1 && y == 1 && len(w) <= 40 {
			list = append(list, w)
		}
	}
	return list
}

// Numbers of matrices and fractions at NumberMax, and 1 beyond it.
func TestWordsAtTheLimit(t *testing.T) {
	atLimit, beyond := wordsBy(top), wordsBy(top+1)
	if len(atLimit) < 10 || len(beyond) < 10 {
		t.Fatalf("only %d and %d words", len(atLimit), len(beyond))
	}
	for _, w := range atLimit {
		p, q, ok := impl.WordFraction(w)
		if !ok || p != top || q < top/2 || q >= top {
			t.Fatalf("WordFraction of %q returned %d, %d, %v", w, p, q, ok)
		}
		wantFraction(t, "WordFraction", gotFraction(impl.WordFraction(plainChanged(w))), fractionResult{q, p, true})
		if len(w) < 40 {
			m, ok := impl.WordMat(w + "R")
			if !ok || m.B != top {
				t.Fatalf("WordMat of %qR returned %v, %v", w, m, ok)
			}
			wantWord(t, "WordOf", gotWord(impl.WordOf(m)), wordResult{w + "R", true})
			wantFraction(t, "WordFraction", gotFraction(impl.WordFraction(w+"R")), fractionResult{})
		}
	}
	for _, w := range beyond {
		if m, ok := impl.WordMat(w); !ok || m.A+m.B != top+1 {
			t.Fatalf("WordMat of %q returned %v, %v", w, m, ok)
		}
		for _, v := range []string{w, plainChanged(w)} {
			wantFraction(t, "WordFraction of "+v, gotFraction(impl.WordFraction(v)), fractionResult{})
		}
		if len(w) < 40 {
			for _, v := range []string{w + "R", w + "L", plainChanged(w) + "L", plainChanged(w) + "R"} {
				wantMat(t, "WordMat of "+v, gotMat(impl.WordMat(v)), matResult{})
			}
		}
	}
}

func TestWordToValues(t *testing.T) {
	for _, c := range []struct {
		p, q int
		want wordResult
	}{
		{1, 2, wordResult{"L", true}},
		{2, 1, wordResult{"R", true}},
		{2, 3, wordResult{"LR", true}},
		{5, 3, wordResult{"RLR", true}},
		{5, 2, wordResult{"RRL", true}},
		{1, 41, wordResult{strings.Repeat("L", 40), true}},
		{41, 1, wordResult{strings.Repeat("R", 40), true}},
		{514229, 832040, wordResult{strings.Repeat("LR", 14), true}},
		// Words of more than 40 letters.
		{1, 42, wordResult{}},
		{42, 1, wordResult{}},
		{41, 42, wordResult{}},
		{1, top, wordResult{}},
		{top, 1, wordResult{}},
		{top - 1, top, wordResult{}},
		{top, top - 1, wordResult{}},
		// Common divisors.
		{2, 2, wordResult{}},
		{2, 4, wordResult{}},
		{6, 4, wordResult{}},
		{15, 35, wordResult{}},
		{top, top, wordResult{}},
		{top, 2, wordResult{}},
		// 0 and negative numbers.
		{0, 0, wordResult{}},
		{0, 1, wordResult{}},
		{1, 0, wordResult{}},
		{-1, 1, wordResult{}},
		{1, -1, wordResult{}},
		{-1, -1, wordResult{}},
		{-2, -3, wordResult{}},
		{-2, 3, wordResult{}},
		// Numbers beyond NumberMax, also such as have a word of 29 letters.
		{top + 1, 1, wordResult{}},
		{1, top + 1, wordResult{}},
		{832040, 1346269, wordResult{}},
		{1346269, 832040, wordResult{}},
	} {
		wantWord(t, "WordTo", gotWord(impl.WordTo(c.p, c.q)), c.want)
	}
	for _, x := range append(beyondNumbers(), math.MaxInt-1, math.MinInt+1) {
		for _, y := range []int{-1, 0, 1, 2, 3, 618034, top, x, x + 1, x - 1} {
			wantWord(t, "WordTo", gotWord(impl.WordTo(x, y)), wordResult{})
			wantWord(t, "WordTo", gotWord(impl.WordTo(y, x)), wordResult{})
		}
	}
}

func TestPromise16(t *testing.T) {
	told := 0
	try := func(p, q int) {
		w, ok := impl.WordTo(p, q)
		wantWord(t, "WordTo", wordResult{w, ok}, plainWordTo(p, q))
		if ok {
			told++
			wantFraction(t, "WordFraction of "+w, gotFraction(impl.WordFraction(w)), fractionResult{p, q, true})
		}
	}
	for p := -3; p <= 90; p++ {
		for q := -3; q <= 90; q++ {
			try(p, q)
		}
	}
	for q := 1; q <= top; q += 997 {
		for p := top - 20; p <= top+2; p++ {
			try(p, q)
			try(q, p)
		}
	}
	if told < 3000 {
		t.Fatalf("only %d fractions have a word", told)
	}
}

func TestWordRunsValues(t *testing.T) {
	for _, c := range []struct {
		w    string
		want []int
	}{
		{"", nil},
		{"R", []int{1}},
		{"L", []int{0, 1}},
		{"RRR", []int{3}},
		{"LLL", []int{0, 3}},
		{"LR", []int{0, 1, 1}},
		{"RL", []int{1, 1}},
		{"LLR", []int{0, 2, 1}},
		{"RRLLLR", []int{2, 3, 1}},
		{"LRRLLLL", []int{0, 1, 2, 4}},
		{strings.Repeat("R", 40), []int{40}},
		{strings.Repeat("L", 40), []int{0, 40}},
		{strings.Repeat("L", 39) + "R", []int{0, 39, 1}},
		{strings.Repeat("LR", 20), append([]int{0}, slices.Repeat([]int{1}, 40)...)},
	} {
		if runs, ok := impl.WordRuns(c.w); !slices.Equal(runs, c.want) || !ok {
			t.Errorf("WordRuns of %q returned %v, %v, want %v", c.w, runs, ok, c.want)
		}
	}
}

func TestPromise17(t *testing.T) {
	for _, w := range sampleWords() {
		runs, ok := impl.WordRuns(w)
		if !ok {
			t.Fatalf("WordRuns of %q failed", w)
		}
		sum, built := 0, ""
		for i, k := range runs {
			if k < 0 || k == 0 && i > 0 {
				t.Fatalf("WordRuns of %q returned %v", w, runs)
			}
			sum += k
			built += strings.Repeat("RL"[i%2:i%2+1], k)
		}
		if sum != len(w) || built != w || (len(runs) == 0) != (w == "") {
			t.Fatalf("WordRuns of %q returned %v", w, runs)
		}
	}
}

// A result is new memory: what is done to it is not seen by the next call.
func TestWordRunsAreNew(t *testing.T) {
	for _, w := range []string{"LLR", "RRL", "", "L"} {
		first, _ := impl.WordRuns(w)
		want := slices.Clone(first)
		for i := range first[:cap(first)] {
			first[:cap(first)][i] = -1
		}
		if second, ok := impl.WordRuns(w); !ok || !slices.Equal(second, want) {
			t.Errorf("WordRuns of %q returned %v, want %v", w, second, want)
		}
	}
}

func TestPromise18(t *testing.T) {
	wantWord(t, "WordChanged", gotWord(impl.WordChanged("LLR")), wordResult{"RRL", true})
	wantWord(t, "WordChanged", gotWord(impl.WordChanged(strings.Repeat("L", 40))), wordResult{strings.Repeat("R", 40), true})
	told := 0
	for _, w := range sampleWords() {
		v, ok := impl.WordChanged(w)
		wantWord(t, "WordChanged of "+w, wordResult{v, ok}, wordResult{plainChanged(w), true})
		wantWord(t, "WordChanged of "+v, gotWord(impl.WordChanged(v)), wordResult{w, true})
		want := gotFraction(impl.WordFraction(w))
		want.p, want.q = want.q, want.p
		wantFraction(t, "WordFraction of "+v, gotFraction(impl.WordFraction(v)), want)
		if want.ok {
			told++
		}
	}
	if told < 2000 {
		t.Fatalf("only %d fractions are told", told)
	}
}

func TestPromise19(t *testing.T) {
	wantWord(t, "WordBack", gotWord(impl.WordBack("LLR")), wordResult{"LRR", true})
	wantWord(t, "WordBack", gotWord(impl.WordBack("LR")), wordResult{"LR", true})
	wantWord(t, "WordBack", gotWord(impl.WordBack("L")), wordResult{"R", true})
	wantWord(t, "WordBack", gotWord(impl.WordBack(strings.Repeat("L", 39)+"R")), wordResult{"L" + strings.Repeat("R", 39), true})
	told := 0
	for _, w := range sampleWords() {
		v, ok := impl.WordBack(w)
		wantWord(t, "WordBack of "+w, wordResult{v, ok}, wordResult{plainBack(w), true})
		wantWord(t, "WordBack of "+v, gotWord(impl.WordBack(v)), wordResult{w, true})
		want := matResult{}
		if m, ok := impl.WordMat(w); ok {
			told++
			want = matResult{mustTurned(t, m), true}
		}
		wantMat(t, "WordMat of "+v, gotMat(impl.WordMat(v)), want)
	}
	if told < 2000 {
		t.Fatalf("only %d matrices are told", told)
	}
}
