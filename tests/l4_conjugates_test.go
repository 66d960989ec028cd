package tests

import (
	"math"
	"slices"
	"strings"
	"testing"

	"loop.example/tworows/impl"
)

// necklaceCounts are the numbers of necklaces for the traces from 3 to 30.
var necklaceCounts = []int{1, 2, 2, 3, 3, 4, 2, 6, 3, 4, 4, 8, 4, 6, 4, 8, 4, 10, 2, 12, 6, 4, 8, 12, 5, 8, 8, 14}

// wantAll checks what NecklaceAll returns.
func wantAll(t *testing.T, trace int, want []string, wantOk bool) {
	t.Helper()
	got, ok := impl.NecklaceAll(trace)
	if !slices.Equal(got, want) || ok != wantOk {
		t.Fatalf("NecklaceAll of %d returned %q, %v, want %q, %v", trace, got, ok, want, wantOk)
	}
}

// wantSame checks what NecklaceSame reports of two matrices, in both orders.
func wantSame(t *testing.T, m, n impl.Mat, want bool) {
	t.Helper()
	if impl.NecklaceSame(m, n) != want || impl.NecklaceSame(n, m) != want {
		t.Fatalf("NecklaceSame of %v and %v is %v, exchanged %v, want %v", m, n, impl.NecklaceSame(m, n), impl.NecklaceSame(n, m), want)
	}
}

// plainNecklaceOf is what NecklaceOf returns for a text: the first one of the
// sorted words that come from it.
func plainNecklaceOf(w string) wordResult {
	if len(w) > 40 || strings.Trim(w, "LR") != "" || !strings.Contains(w, "L") || !strings.Contains(w, "R") {
		return wordResult{}
	}
	var list []string
	for range w {
		w = w[1:] + w[:1]
		list = append(list, w)
	}
	slices.Sort(list)
	return wordResult{list[0], true}
}

// conjugated is x times m times the matrix that x is the unit with.
func conjugated(m, x impl.Mat) impl.Mat {
	return rawTimes(rawTimes(x, m), mat(x.D, -x.B, -x.C, x.A))
}

// apart is how far A and D are from each other.
func apart(m impl.Mat) int {
	return max(m.A-m.D, m.D-m.A)
}

// plainNecklaceMat is what NecklaceMat returns for a matrix. By one letter at a
// time it is brought to a conjugate one whose A and D are nearer to each other,
// until B and C have the same sign.
func plainNecklaceMat(m impl.Mat) wordResult {
	if !rawIn(m) || rawDet(m) != 1 || m.A+m.D < 3 || m.A+m.D > 2000 {
		return wordResult{}
	}
	for (m.B < 0) != (m.C < 0) {
		best := m
		for _, x := range []impl.Mat{mat(1, 1, 0, 1), mat(1, -1, 0, 1), mat(1, 0, 1, 1), mat(1, 0, -1, 1)} {
			if n := conjugated(m, x); apart(n) < apart(best) {
				best = n
			}
		}
		if best == m {
			panic("A and D do not come nearer")
		}
		m = best
	}
	if m.B < 0 {
		m = mat(m.D, -m.C, -m.B, m.A)
	}
	return plainNecklaceOf(plainWordOf(m).w)
}

// grown adds to the list all words that begin with w, have both letters and the
// trace t. A letter more never makes the trace less, and L alone has the trace 2.
func grown(list []string, w string, t int) []string {
	m := plainMat(w)
	if m.A+m.D > t || len(w) >= t {
		return list
	}
	if m.A+m.D == t {
		list = append(list, w)
	}
	return grown(grown(list, w+"L", t), w+"R", t)
}

// plainNecklaceAll is what NecklaceAll returns: of all words with the trace
// those that are the first ones of the words that come from them.
func plainNecklaceAll(t int) []string {
	var list []string
	for n := 2; n < t; n++ {
		for _, w := range grown(nil, "L", t) {
			if len(w) == n && plainNecklaceOf(w) == (wordResult{w, true}) {
				list = append(list, w)
			}
		}
	}
	return list
}

// mixedWords returns those of the samples that have both letters, and words
// that repeat shorter ones.
func mixedWords() []string {
	list := slices.DeleteFunc(sampleWords(), func(w string) bool { return !plainNecklaceOf(w).ok })
	for _, piece := range []string{"LR", "LLR", "RLL", "LRLLR", "LLLLLLLLLR", "RRLLRLRL"} {
		for n := 2; n*len(piece) <= 40; n++ {
			list = append(list, strings.Repeat(piece, n))
		}
	}
	return list
}

// noMixedWords returns texts that are no word with both letters.
func noMixedWords() []string {
	list := append(noWords(), "", "L", "R", "LL", "RR", strings.Repeat("L", 40), strings.Repeat("R", 40))
	for _, k := range []int{1, 20, 40} {
		list = append(list, strings.Repeat("L", k)+strings.Repeat("R", 41-k), strings.Repeat("R", k)+strings.Repeat("L", 41-k))
	}
	return list
}

// conjugators returns even matrices by which others are conjugated: small ones,
// and products of turns and shifts with greater numbers.
func conjugators() []impl.Mat {
	list := []impl.Mat{mat(1000, 1, -1, 0), mat(700, 699, 1, 1), mat(0, -1, 1, 900), mat(1, 0, -35, 1), mat(1, 800, 0, 1)}
	for _, m := range smallMats() {
		if rawDet(m) == 1 {
			list = append(list, m)
		}
	}
	for seed := range 40 {
		for n := 2; n <= 5; n++ {
			if m := plainTurnOf(rulelessList(seed, n, 9)); m.ok {
				list = append(list, m.m)
			}
		}
	}
	return list
}

// beyondMats returns four numbers with the determinant 1 and the trace 3 that
// are no matrix, each together with an even matrix that leads them to one.
func beyondMats() [][2]impl.Mat {
	var list [][2]impl.Mat
	for _, x := range []impl.Mat{mat(1, 1000, 0, 1), mat(1, 0, 1001, 1), mat(1, -top, 0, 1), mat(1, 0, -1001, 1), mat(0, -1, 1, top), mat(top, top-1, 1, 1)} {
		list = append(list, [2]impl.Mat{conjugated(mat(2, 1, 1, 1), x), mat(x.D, -x.B, -x.C, x.A)})
	}
	return list
}

// necklaceMats returns even matrices with a trace from 3 to 2000, most of them
// with negative numbers, and some with numbers near NumberMax.
func necklaceMats() []impl.Mat {
	list := slices.DeleteFunc(evenMats(), func(m impl.Mat) bool { return m.A+m.D < 3 || m.A+m.D > 2000 })
	for i, w := range mixedWords() {
		for j, x := range conjugators() {
			m := plainMat(w)
			if n := conjugated(m, x); (i+j)%7 == 0 && m.A+m.D <= 2000 && rawIn(n) {
				list = append(list, n)
			}
		}
	}
	return list
}

// Texts that are no word with both letters.
func TestNoNecklace(t *testing.T) {
	for _, w := range noMixedWords() {
		if impl.NecklaceIn(w) {
			t.Errorf("NecklaceIn holds for %.50q", w)
		}
		wantWord(t, "NecklaceOf", gotWord(impl.NecklaceOf(w)), wordResult{})
	}
	for x := range 256 {
		for _, w := range []string{"L" + string([]byte{byte(x)}), "LR" + string([]byte{byte(x)}), string([]byte{byte(x)}) + "RL"} {
			wantWord(t, "NecklaceOf", gotWord(impl.NecklaceOf(w)), plainNecklaceOf(w))
			if want := plainNecklaceOf(w) == (wordResult{w, true}); impl.NecklaceIn(w) != want {
				t.Errorf("NecklaceIn of %q is %v", w, !want)
			}
		}
	}
}

func TestNecklaceInValues(t *testing.T) {
	l20, r20 := strings.Repeat("L", 20), strings.Repeat("R", 20)
	for _, c := range []struct {
		w    string
		want bool
	}{
		{"LR", true},
		{"LLR", true},
		{"LRR", true},
		{"LRLR", true},
		{"LLRLR", true},
		{"LRLRR", true},
		{"LLRLLR", true},
		{strings.Repeat("LR", 20), true},
		{l20 + r20, true},
		{strings.Repeat("L", 39) + "R", true},
		{"L" + strings.Repeat("R", 39), true},
		{"RL", false},
		{"LRL", false},
		{"RLL", false},
		{"LRLL", false},
		{"LRLLR", false},
		{"LRLRL", false},
		{"LRRLR", false},
		{"LLRLLLR", false},
		{strings.Repeat("RL", 20), false},
		{r20 + l20, false},
		{"R" + strings.Repeat("L", 39), false},
		{l20 + r20 + "R", false},
		{"L" + l20 + r20, false},
		{strings.Repeat("LR", 20) + "R", false},
	} {
		if impl.NecklaceIn(c.w) != c.want {
			t.Errorf("NecklaceIn of %q is %v", c.w, !c.want)
		}
	}
}

func TestPromise26(t *testing.T) {
	held, unheld, told, untold := 0, 0, 0, 0
	for _, w := range mixedWords() {
		want := plainNecklaceOf(w) == wordResult{w, true}
		if impl.NecklaceIn(w) != want {
			t.Fatalf("NecklaceIn of %q is %v", w, !want)
		}
		if !want {
			unheld++
			continue
		}
		held++
		wantWord(t, "NecklaceOf", gotWord(impl.NecklaceOf(w)), wordResult{w, true})
		m := plainMat(w)
		if !rawIn(m) || m.A+m.D > 2000 {
			untold++
			wantWord(t, "NecklaceMat", gotWord(impl.NecklaceMat(m)), wordResult{})
			continue
		}
		told++
		wantWord(t, "NecklaceMat", gotWord(impl.NecklaceMat(m)), wordResult{w, true})
	}
	if held < 300 || unheld < 1000 || told < 250 || untold < 30 {
		t.Fatalf("%d are necklaces, %d are not; %d have a matrix, %d have none", held, unheld, told, untold)
	}
}

func TestNecklaceOfValues(t *testing.T) {
	for _, c := range []struct{ w, want string }{
		{"LR", "LR"},
		{"RL", "LR"},
		{"RLL", "LLR"},
		{"LRL", "LLR"},
		{"RLR", "LRR"},
		{"RLRL", "LRLR"},
		{"LRLLR", "LLRLR"},
		{"RLLRLL", "LLRLLR"},
		{"LLRLLLR", "LLLRLLR"},
		{"RRLRRLLR", "LLRRRLRR"},
		{strings.Repeat("RL", 20), strings.Repeat("LR", 20)},
		{strings.Repeat("L", 39) + "R", strings.Repeat("L", 39) + "R"},
		{strings.Repeat("R", 39) + "L", "L" + strings.Repeat("R", 39)},
		{"LLL" + strings.Repeat("R", 20) + strings.Repeat("L", 17), strings.Repeat("L", 20) + strings.Repeat("R", 20)},
	} {
		wantWord(t, "NecklaceOf "+c.w, gotWord(impl.NecklaceOf(c.w)), wordResult{c.want, true})
	}
}

func TestPromise27(t *testing.T) {
	for _, w := range sampleWords() {
		want := plainNecklaceOf(w)
		wantWord(t, "NecklaceOf "+w, gotWord(impl.NecklaceOf(w)), want)
		if !want.ok {
			continue
		}
		wantWord(t, "NecklaceOf", gotWord(impl.NecklaceOf(w[1:]+w[:1])), want)
		if !impl.NecklaceIn(want.w) {
			t.Fatalf("NecklaceIn does not hold for %q", want.w)
		}
	}
}

func TestNecklaceMatValues(t *testing.T) {
	l20, r20 := strings.Repeat("L", 20), strings.Repeat("R", 20)
	l39, r39 := strings.Repeat("L", 39), strings.Repeat("R", 39)
	for _, c := range []struct {
		m    impl.Mat
		want wordResult
	}{
		{mat(2, 1, 1, 1), wordResult{"LR", true}},
		{mat(1, 1, 1, 2), wordResult{"LR", true}},
		{mat(3, 2, 1, 1), wordResult{"LRR", true}},
		{mat(3, 1, 2, 1), wordResult{"LLR", true}},
		{mat(5, 3, 3, 2), wordResult{"LRLR", true}},
		// Negative numbers.
		{mat(2, -1, -1, 1), wordResult{"LR", true}},
		{mat(3, 1, -1, 0), wordResult{"LR", true}},
		{mat(0, 1, -1, 3), wordResult{"LR", true}},
		{mat(0, -1, 1, 3), wordResult{"LR", true}},
		{mat(4, -5, 1, -1), wordResult{"LR", true}},
		{mat(0, 1, -1, 4), wordResult{"LLR", true}},
		{mat(0, -1, 1, 4), wordResult{"LRR", true}},
		{mat(-996, -996997, 1, 1001), wordResult{"LRRR", true}},
		{mat(-996, 996997, -1, 1001), wordResult{"LLLR", true}},
		// The trace 2, both with an order and without one.
		{unit, wordResult{}},
		{mat(1, 1, 0, 1), wordResult{}},
		{mat(1, 0, 40, 1), wordResult{}},
		{mat(3, 4, -1, -1), wordResult{}},
		// The traces 1999, 2000 and 2001.
		{mat(104, 367, 537, 1895), wordResult{"LLLLLLLLRLRRRLLLLLRRRRRR", true}},
		{mat(73, 270, 521, 1927), wordResult{"LLLLLLLRRRRRRRLLLRRLRRR", true}},
		{mat(1927, -521, -270, 73), wordResult{"LLLLLLLRRRRRRRLLLRRLRRR", true}},
		{mat(35, 274, 251, 1965), wordResult{"LLLLLLLRRRRRLRRRRLRRRRRRR", true}},
		{mat(268, 1543, 301, 1733), wordResult{}},
		{mat(80, 227, 677, 1921), wordResult{}},
		// Negative traces, and those from 0 to 2.
		{mat(-2, -1, -1, -1), wordResult{}},
		{mat(-3, -2, -1, -1), wordResult{}},
		{mat(-73, -270, -521, -1927), wordResult{}},
		{mat(-1, 0, 0, -1), wordResult{}},
		{mat(0, -1, 1, 0), wordResult{}},
		{mat(0, -1, 1, 1), wordResult{}},
		{mat(0, -1, 1, -1), wordResult{}},
		{mat(-top, 1, -1, 0), wordResult{}},
		// 40 letters, and more than 40.
		{plainMat(l39 + "R"), wordResult{l39 + "R", true}},
		{plainMat(r39 + "L"), wordResult{"L" + r39, true}},
		{plainMat(r20 + l20), wordResult{l20 + r20, true}},
		{conjugated(plainMat(l20+r20), mat(7, -5, 10, -7)), wordResult{l20 + r20, true}},
		{plainMat(l39 + "LR"), wordResult{}},
		{plainMat(r39 + "RL"), wordResult{}},
		{plainMat(r20 + l20 + "L"), wordResult{}},
		{conjugated(plainMat(l20+"R"+r20), mat(7, -5, 10, -7)), wordResult{}},
		{mat(0, -1, 1, 41), wordResult{"L" + r39, true}},
		{mat(0, -1, 1, 42), wordResult{}},
		{mat(0, -1, 1, 2000), wordResult{}},
		{mat(1999, 1998, 1, 1), wordResult{}},
		{mat(1, 1998, 1, 1999), wordResult{}},
		{mat(1, top-1, 1, top), wordResult{}},
		{mat(top, 1, -1, 0), wordResult{}},
		// Matrices that are not even.
		{impl.Mat{}, wordResult{}},
		{mat(2, 0, 0, 2), wordResult{}},
		{mat(3, 1, 1, 0), wordResult{}},
		{mat(2, 1, 1, 2), wordResult{}},
		{mat(4, 0, 0, 0), wordResult{}},
		{mat(3, 0, 0, 1), wordResult{}},
		{mat(1000, 0, 0, 1000), wordResult{}},
	} {
		wantWord(t, "NecklaceMat", gotWord(impl.NecklaceMat(c.m)), c.want)
	}
	for _, m := range noMats() {
		wantWord(t, "NecklaceMat", gotWord(impl.NecklaceMat(m)), wordResult{})
	}
	for _, pair := range beyondMats() {
		wantWord(t, "NecklaceMat", gotWord(impl.NecklaceMat(pair[0])), wordResult{})
	}
	for _, m := range sampleMats() {
		wantWord(t, "NecklaceMat", gotWord(impl.NecklaceMat(m)), plainNecklaceMat(m))
	}
}

// All even matrices with a small C, and traces around the limits.
func TestNecklaceMatByTrace(t *testing.T) {
	told := 0
	for _, trace := range []int{-3, 2, 3, 4, 5, 17, 402, 1998, 1999, 2000, 2001} {
		for a := -300; a <= 300; a += 3 {
			product := a*(trace-a) - 1
			for c := -30; c <= 30; c++ {
				if c == 0 || product%c != 0 {
					continue
				}
				m := mat(a, product/c, c, trace-a)
				want := plainNecklaceMat(m)
				wantWord(t, "NecklaceMat", gotWord(impl.NecklaceMat(m)), want)
				if want.ok {
					told++
				}
			}
		}
	}
	if told < 1000 {
		t.Fatalf("only %d matrices have a necklace", told)
	}
}

// A matrix has the necklace of each word from whose matrix it is conjugated.
func TestNecklaceMatOfConjugates(t *testing.T) {
	told, greatest := 0, 0
	for i, w := range mixedWords() {
		m := plainMat(w)
		want := wordResult{}
		if m.A+m.D <= 2000 {
			want = plainNecklaceOf(w)
		}
		for j, x := range conjugators() {
			n := conjugated(m, x)
			if (i+j)%3 != 0 || !rawIn(n) {
				continue
			}
			wantWord(t, "NecklaceMat", gotWord(impl.NecklaceMat(n)), want)
			if want.ok {
				told++
				greatest = max(greatest, n.A, n.B, n.C, n.D)
			}
		}
	}
	if told < 10000 || greatest < top-1000 {
		t.Fatalf("%d matrices with numbers to %d", told, greatest)
	}
}

func TestPromise28(t *testing.T) {
	negative, untold := 0, 0
	for _, m := range necklaceMats() {
		want := plainNecklaceMat(m)
		wantWord(t, "NecklaceMat", gotWord(impl.NecklaceMat(m)), want)
		wantWord(t, "NecklaceMat by the turn", gotWord(impl.NecklaceMat(conjugated(m, mat(0, -1, 1, 0)))), want)
		if !want.ok {
			untold++
			continue
		}
		n, ok := impl.WordMat(want.w)
		if !ok || mustTrace(t, n) != mustTrace(t, m) {
			t.Fatalf("WordMat of %q, the necklace of %v, returned %v, %v", want.w, m, n, ok)
		}
		if min(m.A, m.B, m.C, m.D) < 0 {
			negative++
		}
	}
	if negative < 5000 || untold < 20 {
		t.Fatalf("%d matrices have negative numbers, %d have no necklace", negative, untold)
	}
}

func TestNecklaceAllValues(t *testing.T) {
	wantAll(t, 3, []string{"LR"}, true)
	wantAll(t, 4, []string{"LLR", "LRR"}, true)
	wantAll(t, 5, []string{"LLLR", "LRRR"}, true)
	wantAll(t, 6, []string{"LLRR", "LLLLR", "LRRRR"}, true)
	wantAll(t, 7, []string{"LRLR", "LLLLLR", "LRRRRR"}, true)
	wantAll(t, 8, []string{"LLLRR", "LLRRR", "LLLLLLR", "LRRRRRR"}, true)
	for _, trace := range []int{2, 1, 0, -1, -3, -30, 31, 32, 2000, top, 1 << 32, math.MaxInt, math.MinInt} {
		wantAll(t, trace, nil, false)
		wantNumber(t, "NecklaceCount", gotNumber(impl.NecklaceCount(trace)), numberResult{})
	}
}

func TestPromise29(t *testing.T) {
	for trace := 3; trace <= 30; trace++ {
		list, ok := impl.NecklaceAll(trace)
		n, nOk := impl.NecklaceCount(trace)
		if !ok || !nOk || len(list) != n {
			t.Fatalf("NecklaceAll and NecklaceCount of %d returned %q, %v and %d, %v", trace, list, ok, n, nOk)
		}
		for i, w := range list {
			m, ok := impl.WordMat(w)
			if !impl.NecklaceIn(w) || !ok || mustTrace(t, m) != trace {
				t.Fatalf("NecklaceAll of %d has %q", trace, w)
			}
			if i > 0 && !(len(list[i-1]) < len(w) || len(list[i-1]) == len(w) && list[i-1] < w) {
				t.Fatalf("NecklaceAll of %d has %q ahead of %q", trace, list[i-1], w)
			}
		}
		wantAll(t, trace, plainNecklaceAll(trace), true)
	}
}

// NecklaceAll has the necklaces of all matrices with the trace.
func TestNecklaceAllOfMats(t *testing.T) {
	met, all := map[string]bool{}, map[int][]string{}
	for trace := 3; trace <= 30; trace++ {
		all[trace], _ = impl.NecklaceAll(trace)
	}
	for _, m := range necklaceMats() {
		list := all[m.A+m.D]
		if m.A+m.D > 30 {
			continue
		}
		w, ok := impl.NecklaceMat(m)
		if !ok || !slices.Contains(list, w) {
			t.Fatalf("%v with the necklace %q is not among %q", m, w, list)
		}
		met[w] = true
	}
	if len(met) < 100 {
		t.Fatalf("only %d necklaces are met", len(met))
	}
}

func TestPromise30(t *testing.T) {
	for trace := 3; trace <= 30; trace++ {
		wantNumber(t, "NecklaceCount", gotNumber(impl.NecklaceCount(trace)), numberResult{necklaceCounts[trace-3], true})
		list, _ := impl.NecklaceAll(trace)
		if w := "L" + strings.Repeat("R", trace-2); len(list) == 0 || list[len(list)-1] != w {
			t.Fatalf("NecklaceAll of %d returned %q, which does not end with %q", trace, list, w)
		}
	}
}

func TestNecklaceByValues(t *testing.T) {
	lr, rl, great := mat(1, 1, 1, 2), mat(2, 1, 1, 1), mat(top, top-1, 1, 1)
	for _, c := range []struct {
		m, n, x impl.Mat
		want    bool
	}{
		{lr, lr, unit, true},
		{lr, lr, mat(-1, 0, 0, -1), true},
		{lr, lr, lr, true},
		{unit, unit, mat(5, 3, 3, 2), true},
		// L times RL is LR times L, and not RL times L.
		{lr, rl, mat(1, 0, 1, 1), true},
		{rl, lr, mat(1, 0, -1, 1), true},
		{rl, lr, mat(1, 0, 1, 1), false},
		{lr, rl, mat(1, 0, -1, 1), false},
		{lr, rl, unit, false},
		{lr, rl, mat(1, 1, 0, 1), false},
		// Negative traces, and such without a necklace.
		{mat(-1, -1, -1, -2), mat(-2, -1, -1, -1), mat(1, 0, 1, 1), true},
		{mat(-1, -1, -1, -2), rl, mat(1, 0, 1, 1), false},
		{mat(1, 5, 0, 1), mat(1, 0, 5, 1), mat(0, -1, 1, 0), false},
		{mat(1, 5, 0, 1), mat(1, 0, -5, 1), mat(0, 1, -1, 0), true},
		{mat(0, -1, 1, 0), mat(0, -1, 1, 0), mat(0, 1, -1, 0), true},
		{mat(0, -1, 1, 0), mat(0, 1, -1, 0), mat(0, 1, -1, 0), false},
		// Products beyond NumberMax.
		{great, great, great, true},
		{great, great, mat(1, 1-top, -1, top), true},
		{great, mat(1, top-1, 1, top), great, false},
		{mat(1, top, 0, 1), mat(1, top, 0, 1), mat(1, top, 0, 1), true},
		{mat(1, top, 0, 1), mat(1, top, 0, 1), mat(-1, -top, 0, -1), true},
		{mat(1, top, 0, 1), mat(1, top-1, 0, 1), mat(1, top, 0, 1), false},
		{mat(1, top, 0, 1), mat(1, top, 0, 1), mat(1, 0, top, 1), false},
		{mat(1, 0, top, 1), mat(1, 0, top, 1), mat(1, 0, top, 1), true},
		{mat(1, 0, top, 1), mat(1, top, 0, 1), mat(0, 1, -1, 0), false},
		{mat(1, 0, -top, 1), mat(1, top, 0, 1), mat(0, -1, 1, 0), true},
		{mat(1, 0, 1, 1), mat(1, top, 0, 1), mat(top, -1, 1, 0), false},
		// Products that differ in just one number.
		{mat(1, 0, 0, 1), mat(1, 0, 1, 1), unit, false},
		{mat(1, 0, 0, 1), mat(1, 1, 0, 1), unit, false},
		// Matrices that are not even, though both products are the same.
		{mat(2, 0, 0, 2), mat(2, 0, 0, 2), unit, false},
		{mat(0, 1, 1, 0), mat(0, 1, 1, 0), unit, false},
		{impl.Mat{}, impl.Mat{}, impl.Mat{}, false},
		{lr, lr, impl.Mat{}, false},
		{lr, lr, mat(2, 0, 0, 2), false},
		{lr, rl, mat(0, 1, 1, 0), false},
		{unit, unit, mat(1, 0, 0, -1), false},
		{mat(-1, 0, 0, 1), mat(-1, 0, 0, 1), unit, false},
	} {
		if impl.NecklaceBy(c.m, c.n, c.x) != c.want {
			t.Errorf("NecklaceBy of %v, %v and %v is %v", c.m, c.n, c.x, !c.want)
		}
	}
	for _, m := range noMats() {
		for _, list := range [][3]impl.Mat{{m, m, unit}, {m, m, m}, {unit, unit, m}, {unit, m, unit}, {m, unit, unit}, {m, unit, m}} {
			if impl.NecklaceBy(list[0], list[1], list[2]) {
				t.Errorf("NecklaceBy holds for %v", list)
			}
		}
	}
	// Both products are the same, but the one or the other is of no matrix.
	for _, pair := range beyondMats() {
		m, n, x := pair[0], mat(2, 1, 1, 1), pair[1]
		if rawTimes(x, m) != rawTimes(n, x) || impl.NecklaceBy(n, m, x) || impl.NecklaceBy(m, n, mat(x.D, -x.B, -x.C, x.A)) {
			t.Errorf("NecklaceBy holds for %v, %v and %v", n, m, x)
		}
	}
}

// NecklaceBy holds just if conjugating by the third matrix leads to the first one.
func TestNecklaceByConjugating(t *testing.T) {
	even := slices.DeleteFunc(smallMats(), func(m impl.Mat) bool { return rawDet(m) != 1 })
	held := 0
	for _, m := range even {
		for _, n := range even {
			for _, x := range even {
				want := conjugated(n, x) == m
				if impl.NecklaceBy(m, n, x) != want {
					t.Fatalf("NecklaceBy of %v, %v and %v is %v", m, n, x, !want)
				}
				if want {
					held++
				}
			}
		}
	}
	if held < 500 {
		t.Fatalf("NecklaceBy holds only %d times", held)
	}
}

// conjugates calls what is given with pairs of conjugate matrices and the third
// one that shows it. Some products of these are beyond NumberMax.
func conjugates(visit func(m, n, x impl.Mat)) {
	for i, n := range evenMats() {
		for j, x := range conjugators() {
			if m := conjugated(n, x); (i+j)%11 == 0 && rawIn(m) {
				visit(m, n, x)
			}
		}
	}
}

func TestPromise31(t *testing.T) {
	held, beyond := 0, 0
	conjugates(func(m, n, x impl.Mat) {
		if !impl.NecklaceBy(m, n, x) {
			t.Fatalf("NecklaceBy does not hold for %v, %v and %v", m, n, x)
		}
		held++
		if !rawIn(rawTimes(x, n)) {
			beyond++
		}
		if mustTrace(t, m) != mustTrace(t, n) {
			t.Fatalf("%v and %v have different traces", m, n)
		}
		if !impl.NecklaceBy(n, m, mustBack(t, x)) {
			t.Fatalf("NecklaceBy does not hold for %v, %v and %v turned back", n, m, x)
		}
	})
	if held < 10000 || beyond < 10 {
		t.Fatalf("NecklaceBy holds %d times, %d times beyond NumberMax", held, beyond)
	}
}

func TestNecklaceSameValues(t *testing.T) {
	forty := plainMat(strings.Repeat("L", 39) + "R")
	more := plainMat(strings.Repeat("L", 40) + "R")
	for _, c := range []struct {
		m, n impl.Mat
		want bool
	}{
		{mat(2, 1, 1, 1), mat(2, 1, 1, 1), true},
		{mat(2, 1, 1, 1), mat(1, 1, 1, 2), true},
		{mat(2, 1, 1, 1), mat(0, 1, -1, 3), true},
		{mat(2, 1, 1, 1), mat(1, -1, -1, 2), true},
		{mat(3, 1, 2, 1), mat(0, 1, -1, 4), true},
		{forty, forty, true},
		{forty, mat(0, 1, -1, 41), true},
		{mat(73, 270, 521, 1927), mat(1927, -521, -270, 73), true},
		// One trace, and not conjugate, though just turned.
		{mat(3, 2, 1, 1), mat(3, 1, 2, 1), false},
		{forty, mat(0, -1, 1, 41), false},
		{mat(0, -1, 1, 4), mat(0, 1, -1, 4), false},
		{mat(73, 270, 521, 1927), mat(73, 521, 270, 1927), false},
		{mat(5, 3, 3, 2), mat(0, -1, 1, 7), false},
		// Different traces.
		{mat(2, 1, 1, 1), mat(3, 2, 1, 1), false},
		{mat(2, 1, 1, 1), mat(5, 3, 3, 2), false},
		// NecklaceMat fails for one of both, or for both.
		{unit, unit, false},
		{mat(1, 1, 0, 1), mat(1, 1, 0, 1), false},
		{mat(-2, -1, -1, -1), mat(-2, -1, -1, -1), false},
		{mat(2, 1, 1, 1), mat(-2, -1, -1, -1), false},
		{mat(0, -1, 1, 0), mat(0, -1, 1, 0), false},
		{more, more, false},
		{more, forty, false},
		{mat(268, 1543, 301, 1733), mat(268, 1543, 301, 1733), false},
		{mat(2, 1, 1, 2), mat(2, 1, 1, 2), false},
		{impl.Mat{}, impl.Mat{}, false},
		{mat(2, 1, 1, 1), impl.Mat{}, false},
	} {
		wantSame(t, c.m, c.n, c.want)
	}
	for _, m := range noMats() {
		wantSame(t, m, m, false)
		wantSame(t, m, mat(2, 1, 1, 1), false)
	}
	for _, pair := range beyondMats() {
		wantSame(t, pair[0], mat(2, 1, 1, 1), false)
		wantSame(t, pair[0], pair[0], false)
	}
}

// Among the matrices of one trace those are conjugate that have one necklace.
func TestPromise32(t *testing.T) {
	list := slices.DeleteFunc(necklaceMats(), func(m impl.Mat) bool { return m.A+m.D > 9 && m.A+m.D != 27 })
	held, unheld := 0, 0
	for i, m := range list {
		for _, n := range list[i:min(i+150, len(list))] {
			want := plainNecklaceMat(m).w == plainNecklaceMat(n).w
			wantSame(t, m, n, want)
			if !want {
				if m.A+m.D == n.A+n.D {
					unheld++
				}
				continue
			}
			held++
			if mustTrace(t, m) != mustTrace(t, n) {
				t.Fatalf("NecklaceSame holds for %v and %v", m, n)
			}
		}
	}
	if held < 10000 || unheld < 1000 {
		t.Fatalf("NecklaceSame holds for %d, and not for %d of one trace", held, unheld)
	}
}

func TestPromise33(t *testing.T) {
	same, untold := 0, 0
	conjugates(func(m, n, x impl.Mat) {
		_, want := impl.NecklaceMat(m)
		if want != plainNecklaceMat(m).ok {
			t.Fatalf("NecklaceMat of %v is told: %v", m, want)
		}
		if impl.NecklaceBy(m, n, x) {
			wantSame(t, m, n, want)
		}
		if want {
			same++
		} else {
			untold++
		}
	})
	if same < 1000 || untold < 1000 {
		t.Fatalf("%d are the same, %d are not told", same, untold)
	}
}

// A result is new memory: what is done to it is not seen by the next call, and
// an answer has nothing of the one ahead.
func TestNecklacesAreNew(t *testing.T) {
	for _, trace := range []int{30, 8, 3, 29, 4, 30} {
		first, _ := impl.NecklaceAll(trace)
		for i := range first[:cap(first)] {
			first[:cap(first)][i] = "X"
		}
		wantAll(t, trace, plainNecklaceAll(trace), true)
	}
}
