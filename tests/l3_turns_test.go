package tests

import (
	"math"
	"slices"
	"testing"

	"loop.example/tworows/impl"
)

// numberResult is what a function returns that makes a number.
type numberResult struct {
	n  int
	ok bool
}

func gotNumber(n int, ok bool) numberResult {
	return numberResult{n, ok}
}

func wantNumber(t *testing.T, what string, got, want numberResult) {
	t.Helper()
	if got != want {
		t.Fatalf("%s returned %v, want %v", what, got, want)
	}
}

// listResult is what TurnList returns.
type listResult struct {
	q    []int
	sign int
	ok   bool
}

func gotList(q []int, sign int, ok bool) listResult {
	return listResult{q, sign, ok}
}

func wantList(t *testing.T, m impl.Mat, want listResult) {
	t.Helper()
	got := gotList(impl.TurnList(m))
	if !slices.Equal(got.q, want.q) || got.sign != want.sign || got.ok != want.ok {
		t.Fatalf("TurnList of %v returned %v, want %v", m, got, want)
	}
}

// smallLists returns all lists of 1 to n numbers from -2 to 2.
func smallLists(n int) [][]int {
	list := [][]int{nil}
	for i := 0; len(list[i]) < n; i++ {
		for x := -2; x <= 2; x++ {
			list = append(list, append(slices.Clone(list[i]), x))
		}
	}
	return list[1:]
}

// longLists returns lists of up to 20 numbers: of numbers that come again and
// again, of numbers at the limits, and of numbers without a rule.
func longLists() [][]int {
	var list [][]int
	pieces := [][]int{
		{0}, {1}, {-1}, {2}, {-2}, {0, 1}, {0, 7, 0, -7}, {2, -2}, {-2, 2}, {3}, {-3}, {4, -3, 2}, {1, 2, 1}, {1, 1, 5},
		{1000, 0, -1000, 0}, {0, 1000}, {1000, 1}, {-1000}, {999, 2}, {-1000, 0, 0}, {1000, -1000},
	}
	for n := 1; n <= 20; n++ {
		for _, p := range pieces {
			list = append(list, slices.Repeat(p, n)[:n])
		}
		for seed := range 60 {
			list = append(list, rulelessList(seed, n, 3), rulelessList(seed, n, 30), rulelessList(seed, n, 1000))
		}
	}
	return list
}

// rulelessList returns a list of n numbers from -limit to limit, another one for another seed.
func rulelessList(seed, n, limit int) []int {
	q := make([]int, n)
	x := uint32(seed*1021 + n*40 + limit)
	for i := range q {
		x = x*1664525 + 1013904223
		q[i] = int(x>>8)%(2*limit+1) - limit
	}
	return q
}

// sampleLists returns the lists on which the promises are tried.
func sampleLists() [][]int {
	return append(smallLists(5), longLists()...)
}

// noLists returns what is no list: no number, too many, or one beyond the limits.
func noLists() [][]int {
	list := [][]int{nil, {}, make([]int, 21), slices.Repeat([]int{2}, 21), slices.Repeat([]int{1, 0}, 11), make([]int, 100000)}
	for _, x := range []int{1001, -1001, top, -top, 1 << 32, math.MaxInt, math.MinInt} {
		list = append(list, []int{x}, []int{x, 0}, []int{0, x}, []int{0, x, 0}, []int{3, 3, x, 3}, append(make([]int, 19), x))
	}
	return list
}

// plainIn tells a list by its limits.
func plainIn(q []int) bool {
	return 1 <= len(q) && len(q) <= 20 && slices.Min(q) >= -1000 && slices.Max(q) <= 1000
}

// plainTurnOf is what TurnOf returns: each turn and shift puts, in each row,
// the second number times the shift less the first one behind the second one.
func plainTurnOf(q []int) matResult {
	if !plainIn(q) {
		return matResult{}
	}
	m := mat(1, q[0], 0, 1)
	for _, x := range q[1:] {
		m = mat(m.B, x*m.B-m.A, m.D, x*m.D-m.C)
		if !rawIn(m) {
			return matResult{}
		}
	}
	return matResult{m, true}
}

// plainTurnList is what TurnList returns, the whole numbers next to others being tried.
func plainTurnList(m impl.Mat) listResult {
	if !rawIn(m) || rawDet(m) != 1 {
		return listResult{}
	}
	var q []int
	for m.C != 0 {
		x := nearestTried(m.A, m.C)
		q = append(q, x)
		m = mat(m.C, m.D, x*m.C-m.A, x*m.D-m.B)
	}
	if q = append(q, m.B/m.D); !plainIn(q) {
		return listResult{}
	}
	return listResult{q, m.D, true}
}

// nearestTried is the whole number next to a over c, of two equally near ones the greater one.
func nearestTried(a, c int) int {
	far := func(x int) int { return max(a-x*c, x*c-a) }
	best := a/c - 2
	for x := best; x <= a/c+2; x++ {
		if far(x) <= far(best) {
			best = x
		}
	}
	return best
}

// opposite is a matrix with all signs turned.
func opposite(m impl.Mat) impl.Mat {
	return mat(-m.A, -m.B, -m.C, -m.D)
}

// rotated is a list with its first n numbers taken to the end.
func rotated(q []int, n int) []int {
	return slices.Concat(q[n:], q[:n])
}

// evenMats returns even matrices with both signs: small ones, those at the
// limits, and those of lists.
func evenMats() []impl.Mat {
	var list []impl.Mat
	for _, m := range sampleMats() {
		if rawDet(m) == 1 {
			list = append(list, m)
		}
	}
	for _, q := range sampleLists() {
		if m, ok := impl.TurnOf(q); ok {
			list = append(list, m, opposite(m))
		}
	}
	for _, w := range sampleWords() {
		if m, ok := impl.WordMat(w); ok {
			list = append(list, m, mat(-m.A, m.B, m.C, -m.D))
		}
	}
	return list
}

func TestNoList(t *testing.T) {
	for _, q := range noLists() {
		wantMat(t, "TurnOf", gotMat(impl.TurnOf(q)), matResult{})
		wantNumber(t, "TurnTrace", gotNumber(impl.TurnTrace(q)), numberResult{})
		if impl.TurnPlain(q) {
			t.Errorf("TurnPlain holds for %.100v", q)
		}
		if impl.TurnRound(q) {
			t.Errorf("TurnRound holds for %.100v", q)
		}
	}
}

// What is no even matrix has neither a list nor an order.
func TestNoEvenMatrix(t *testing.T) {
	list := append(noMats(), sampleMats()...)
	list = append(list, mat(1, 0, 0, -1), mat(0, 1, 1, 0), mat(-1, 5, 0, 1), mat(2, 3, 1, 1), mat(2, 0, 0, 2), mat(3, 1, 1, 1))
	for _, m := range list {
		if rawIn(m) && rawDet(m) == 1 {
			continue
		}
		wantList(t, m, listResult{})
		wantNumber(t, "TurnOrder", gotNumber(impl.TurnOrder(m)), numberResult{})
	}
}

func TestListsOfOneNumber(t *testing.T) {
	for x := -1005; x <= 1005; x++ {
		in := -1000 <= x && x <= 1000
		q := []int{x}
		want, list, back, trace := matResult{}, listResult{}, listResult{}, numberResult{}
		if in {
			want, trace = matResult{mat(1, x, 0, 1), true}, numberResult{2, true}
			list, back = listResult{q, 1, true}, listResult{[]int{-x}, -1, true}
		}
		wantMat(t, "TurnOf", gotMat(impl.TurnOf(q)), want)
		wantNumber(t, "TurnTrace", gotNumber(impl.TurnTrace(q)), trace)
		wantList(t, mat(1, x, 0, 1), list)
		wantList(t, mat(-1, x, 0, -1), back)
		if impl.TurnPlain(q) != in || impl.TurnRound(q) != in {
			t.Errorf("TurnPlain and TurnRound of %v are %v and %v", q, impl.TurnPlain(q), impl.TurnRound(q))
		}
	}
}

func TestTurnOfValues(t *testing.T) {
	for _, c := range []struct {
		q    []int
		want matResult
	}{
		{[]int{0}, matResult{unit, true}},
		{[]int{0, 0}, matResult{mat(0, -1, 1, 0), true}},
		{[]int{0, 0, 0}, matResult{mat(-1, 0, 0, -1), true}},
		{[]int{2, 3}, matResult{mat(2, 5, 1, 3), true}},
		{[]int{3, 2}, matResult{mat(3, 5, 1, 2), true}},
		{[]int{2, 3, 4}, matResult{mat(5, 18, 3, 11), true}},
		{[]int{1, 1, 1}, matResult{mat(0, -1, 1, 0), true}},
		{[]int{-2, 3}, matResult{mat(-2, -7, 1, 3), true}},
		{make([]int, 20), matResult{mat(0, 1, -1, 0), true}},
		{slices.Repeat([]int{1}, 20), matResult{mat(1, 0, 1, 1), true}},
		{slices.Repeat([]int{2}, 20), matResult{mat(20, 21, 19, 20), true}},
		{make([]int, 21), matResult{}},
		{slices.Repeat([]int{2}, 21), matResult{}},
		{[]int{1000, 1000}, matResult{mat(1000, 999999, 1, 1000), true}},
		{[]int{-1000, -1000}, matResult{mat(-1000, 999999, 1, -1000), true}},
		{[]int{-1, 1000, -999}, matResult{mat(-1001, top, 1000, -999001), true}},
		{[]int{1, -1000, 999}, matResult{mat(-1001, -top, -1000, -999001), true}},
		{[]int{1001}, matResult{}},
		{[]int{-1001}, matResult{}},
		{[]int{1001, 1}, matResult{}},
		{[]int{1, -1001}, matResult{}},
		// The last product is no matrix.
		{[]int{1000, -1000}, matResult{}},
		{[]int{-1, 999, -1000}, matResult{}},
		{[]int{1, -999, 1000}, matResult{}},
		{[]int{1000, 1000, 1000}, matResult{}},
		// A matrix on the way is none, although the last one is one.
		{[]int{1000, -1000, 0, 1000}, matResult{}},
		{[]int{0, 1000, -1000, 0, 1000, 0}, matResult{}},
		// These numbers are in another order, and all matrices on the way are told.
		{[]int{1000, 0, -1000, 1000}, matResult{mat(0, 1, -1, -1000), true}},
	} {
		wantMat(t, "TurnOf", gotMat(impl.TurnOf(c.q)), c.want)
	}
}

// The matrix of a list is the product of its shifts and turns.
func TestTurnOfIsTheProduct(t *testing.T) {
	for _, q := range sampleLists() {
		want, ok := mat(1, q[0], 0, 1), true
		for _, x := range q[1:] {
			for _, n := range []impl.Mat{mat(0, -1, 1, 0), mat(1, x, 0, 1)} {
				if ok {
					want, ok = impl.MatTimes(want, n)
				}
			}
		}
		wantMat(t, "TurnOf", gotMat(impl.TurnOf(q)), matResult{want, ok})
	}
}

func TestPromise20(t *testing.T) {
	told, untold := 0, 0
	for _, q := range sampleLists() {
		m, ok := impl.TurnOf(q)
		wantMat(t, "TurnOf", matResult{m, ok}, plainTurnOf(q))
		want := matResult{}
		if !ok {
			untold++
		} else {
			told++
			if !impl.MatEven(m) {
				t.Fatalf("TurnOf of %v is %v, not even", q, m)
			}
			if len(q) <= 18 {
				want = matResult{opposite(m), true}
			}
		}
		wantMat(t, "TurnOf with 0, 0 in front", gotMat(impl.TurnOf(append([]int{0, 0}, q...))), want)
	}
	if told < 4000 || untold < 1000 {
		t.Fatalf("%d lists are told, %d are not", told, untold)
	}
}

func TestTurnListValues(t *testing.T) {
	for _, c := range []struct {
		m    impl.Mat
		want listResult
	}{
		{unit, listResult{[]int{0}, 1, true}},
		{mat(-1, 0, 0, -1), listResult{[]int{0}, -1, true}},
		{mat(0, -1, 1, 0), listResult{[]int{0, 0}, 1, true}},
		{mat(0, 1, -1, 0), listResult{[]int{0, 0}, -1, true}},
		{mat(2, 5, 1, 3), listResult{[]int{2, 3}, 1, true}},
		{mat(-2, -5, -1, -3), listResult{[]int{2, 3}, -1, true}},
		{mat(2, 1, 1, 1), listResult{[]int{2, 1}, 1, true}},
		{mat(0, 1, -1, 5), listResult{[]int{0, -5}, -1, true}},
		// With C as 0.
		{mat(1, 7, 0, 1), listResult{[]int{7}, 1, true}},
		{mat(-1, 7, 0, -1), listResult{[]int{-7}, -1, true}},
		{mat(-1, -7, 0, -1), listResult{[]int{7}, -1, true}},
		{mat(1, 1000, 0, 1), listResult{[]int{1000}, 1, true}},
		{mat(-1, 1000, 0, -1), listResult{[]int{-1000}, -1, true}},
		{mat(1, 1001, 0, 1), listResult{}},
		{mat(1, -1001, 0, 1), listResult{}},
		{mat(-1, 1001, 0, -1), listResult{}},
		{mat(1, top, 0, 1), listResult{}},
		// Two whole numbers are equally near.
		{mat(5, 2, 2, 1), listResult{[]int{3, 2, 1}, 1, true}},
		{mat(-5, -2, -2, -1), listResult{[]int{3, 2, 1}, -1, true}},
		{mat(-5, 2, 2, -1), listResult{[]int{-2, 2, 0}, 1, true}},
		{mat(5, -2, -2, 1), listResult{[]int{-2, 2, 0}, -1, true}},
		{mat(1, 0, 2, 1), listResult{[]int{1, 2, 1}, 1, true}},
		{mat(-1, 0, 2, -1), listResult{[]int{0, 2, 0}, 1, true}},
		{mat(-1999, -1000, 2, 1), listResult{[]int{-999, 2, 1}, 1, true}},
		// Negative quotients.
		{mat(-7, -5, 3, 2), listResult{[]int{-2, 3, 1}, 1, true}},
		{mat(-8, -3, 3, 1), listResult{[]int{-3, -3, 0}, -1, true}},
		// Numbers at 1000, and just beyond.
		{mat(1000, 999, 1, 1), listResult{[]int{1000, 1}, 1, true}},
		{mat(1001, 1000, 1, 1), listResult{}},
		{mat(-1000, -1001, 1, 1), listResult{[]int{-1000, 1}, 1, true}},
		{mat(-1001, -1002, 1, 1), listResult{}},
		{mat(1999, 999, 2, 1), listResult{[]int{1000, 2, 1}, 1, true}},
		{mat(2001, 1000, 2, 1), listResult{}},
		{mat(-2001, -1001, 2, 1), listResult{[]int{-1000, 2, 1}, 1, true}},
		{mat(-2003, -1002, 2, 1), listResult{}},
		{mat(2, 1999, 1, 1000), listResult{[]int{2, 1000}, 1, true}},
		{mat(2, 2001, 1, 1001), listResult{}},
		{mat(0, -1, 1, 1000), listResult{[]int{0, 1000}, 1, true}},
		{mat(0, -1, 1, 1001), listResult{}},
		{mat(1, 0, 1000, 1), listResult{[]int{0, -1000, 0}, -1, true}},
		{mat(1, 0, 1001, 1), listResult{}},
		{mat(1, 0, -1000, 1), listResult{[]int{0, 1000, 0}, -1, true}},
		{mat(1, 0, -1001, 1), listResult{}},
		{mat(top, top-1, 1, 1), listResult{}},
		{mat(1, 0, top, 1), listResult{}},
		{mat(top, 1, -1, 0), listResult{}},
	} {
		wantList(t, c.m, c.want)
	}
}

// pellList returns the list of n numbers, 2 and -2 by turns between two numbers
// 0, with 2 ahead of the last one: no list of so many numbers that TurnList
// returns is of a matrix with a lesser C, without its sign.
func pellList(n int) []int {
	q := make([]int, n)
	for i, x := n-2, 2; i >= 1; i, x = i-1, -x {
		q[i] = x
	}
	return q
}

// Without its sign, each C is at least the next one twice and the one after
// that: 17 numbers are the most that matrices up to NumberMax need, so that no
// even matrix needs more than 20.
func TestLongestLists(t *testing.T) {
	for n := 2; n <= 17; n++ {
		q := pellList(n)
		m, ok := impl.TurnOf(q)
		if !ok {
			t.Fatalf("TurnOf of %v failed", q)
		}
		wantList(t, m, listResult{q, 1, true})
		wantList(t, opposite(m), listResult{q, -1, true})
	}
	wantMat(t, "TurnOf", gotMat(impl.TurnOf(pellList(18))), matResult{})
	for c := 1; c <= 300; c++ {
		longest := 1
		for x, y := 1, 0; x <= c; x, y = 2*x+y, x {
			longest++
		}
		for _, m := range matsWithC(c) {
			wantList(t, m, plainTurnList(m))
			if q, _, ok := impl.TurnList(m); !ok || len(q) > longest {
				t.Fatalf("TurnList of %v returned %v, %v", m, q, ok)
			}
		}
	}
}

// matsWithC returns all even matrices with A from -c to c, this C and D from 0 to c - 1.
func matsWithC(c int) []impl.Mat {
	var list []impl.Mat
	for a := -c; a <= c; a++ {
		for d := range c {
			if (a*d-1)%c == 0 {
				list = append(list, mat(a, (a*d-1)/c, c, d))
			}
		}
	}
	return list
}

func TestPromise21(t *testing.T) {
	told, untold, negative := 0, 0, 0
	for _, m := range evenMats() {
		q, sign, ok := impl.TurnList(m)
		wantList(t, m, plainTurnList(m))
		if !ok {
			untold++
			continue
		}
		told++
		n, ok := impl.TurnOf(q)
		if !ok {
			t.Fatalf("TurnOf of %v, the list of %v, failed", q, m)
		}
		if sign == -1 {
			negative++
			n = opposite(n)
		}
		if n != m || sign != 1 && sign != -1 {
			t.Fatalf("TurnList of %v returned %v and %d", m, q, sign)
		}
		if !impl.TurnPlain(q) {
			t.Fatalf("TurnList of %v returned %v, not plain", m, q)
		}
	}
	if told < 5000 || untold < 20 || negative < 2000 {
		t.Fatalf("%d lists are told, %d of them with the sign -1, %d are not", told, negative, untold)
	}
}

// Plain lists whose numbers between are less near to 0 than 2 and -2 lead back to themselves.
func TestTurnListOfTurnOf(t *testing.T) {
	told := 0
	for seed := range 500 {
		for n := 1; n <= 8; n++ {
			q := rulelessList(seed, n, 40)
			for i := 1; i < n-1; i++ {
				if q[i] >= 0 {
					q[i] += 3
				} else {
					q[i] -= 3
				}
			}
			if m, ok := impl.TurnOf(q); ok {
				told++
				wantList(t, m, listResult{q, 1, true})
				wantList(t, opposite(m), listResult{q, -1, true})
			}
		}
	}
	if told < 1000 {
		t.Fatalf("only %d lists have a matrix", told)
	}
}

func TestTurnOrderValues(t *testing.T) {
	for _, c := range []struct {
		m    impl.Mat
		want numberResult
	}{
		{unit, numberResult{1, true}},
		{mat(-1, 0, 0, -1), numberResult{2, true}},
		{mat(0, -1, 1, -1), numberResult{3, true}},
		{mat(-1, 1, -1, 0), numberResult{3, true}},
		{mat(999, 1, -999001, -1000), numberResult{3, true}},
		{mat(0, -1, 1, 0), numberResult{4, true}},
		{mat(0, 1, -1, 0), numberResult{4, true}},
		{mat(2, -5, 1, -2), numberResult{4, true}},
		{mat(1000, 101, -9901, -1000), numberResult{4, true}},
		{mat(0, -1, 1, 1), numberResult{6, true}},
		{mat(1, 1, -1, 0), numberResult{6, true}},
		{mat(1000, 1, -999001, -999), numberResult{6, true}},
		// No order: the traces 2 and -2 of other matrices, and traces beyond.
		{mat(1, 1, 0, 1), numberResult{}},
		{mat(1, 0, -1, 1), numberResult{}},
		{mat(1, top, 0, 1), numberResult{}},
		{mat(3, 4, -1, -1), numberResult{}},
		{mat(-1, 1, 0, -1), numberResult{}},
		{mat(-1, 0, top, -1), numberResult{}},
		{mat(-3, -4, 1, 1), numberResult{}},
		{mat(2, 1, 1, 1), numberResult{}},
		{mat(-2, 1, 1, -1), numberResult{}},
		{mat(0, 1, -1, 3), numberResult{}},
		{mat(top, 1, -1, 0), numberResult{}},
		{mat(top, top-1, 1, 1), numberResult{}},
		// Matrices with such traces that are not even.
		{mat(1, 0, 0, -1), numberResult{}},
		{mat(0, 1, 1, 0), numberResult{}},
		{mat(0, 1, 1, 1), numberResult{}},
		{mat(0, 1, 1, -1), numberResult{}},
		{mat(0, 2, -2, 0), numberResult{}},
		{impl.Mat{}, numberResult{}},
	} {
		wantNumber(t, "TurnOrder", gotNumber(impl.TurnOrder(c.m)), c.want)
	}
}

func TestPromise22(t *testing.T) {
	traces := map[int]int{1: 2, 2: -2, 3: -1, 4: 0, 6: 1}
	told, untold := map[int]int{}, 0
	for _, m := range evenMats() {
		want := numberResult{}
		for k := 1; k <= 50 && !want.ok; k++ {
			if p, ok := impl.MatPower(m, k); ok && p == unit {
				want = numberResult{k, true}
			}
		}
		k, ok := impl.TurnOrder(m)
		wantNumber(t, "TurnOrder", numberResult{k, ok}, want)
		if !ok {
			untold++
			continue
		}
		told[k]++
		wantMat(t, "MatPower", gotMat(impl.MatPower(m, k)), matResult{unit, true})
		if trace, ok := traces[k]; !ok || mustTrace(t, m) != trace {
			t.Fatalf("TurnOrder of %v returned %d", m, k)
		}
	}
	if len(told) != 5 || told[3] < 20 || told[4] < 20 || told[6] < 20 || untold < 1000 {
		t.Fatalf("the orders told are %v, %d are not", told, untold)
	}
}

func TestTurnPlainValues(t *testing.T) {
	for _, c := range []struct {
		q    []int
		want bool
	}{
		{[]int{0}, true},
		{[]int{0, 1}, true},
		{[]int{-1, 1}, true},
		{[]int{1, 2, -1}, true},
		{[]int{0, -2, 0}, true},
		{[]int{5, 2, -2, 3, 0}, true},
		{[]int{0, 1000, -1000, 0}, true},
		{[]int{1000, 1000, 1000}, true},
		{append(append([]int{0}, slices.Repeat([]int{2}, 18)...), 0), true},
		{[]int{2, 1, 2}, false},
		{[]int{2, 0, 2}, false},
		{[]int{2, -1, 2}, false},
		{[]int{3, 1, 3, 3}, false},
		{[]int{3, 3, -1, 3}, false},
		{[]int{5, 2, 0, 2, 5}, false},
		{make([]int, 20), false},
		{append(append([]int{0}, slices.Repeat([]int{2}, 19)...), 0), false},
		{[]int{1001}, false},
		{[]int{-1001, 2}, false},
		{[]int{2, 1001, 2}, false},
		{nil, false},
	} {
		if impl.TurnPlain(c.q) != c.want {
			t.Errorf("TurnPlain of %v is %v", c.q, !c.want)
		}
	}
}

func TestPromise23(t *testing.T) {
	plain := 0
	for _, q := range sampleLists() {
		want := true
		for i, x := range q {
			want = want && (i == 0 || i == len(q)-1 || x*x >= 4)
		}
		back, turned := slices.Clone(q), make([]int, len(q))
		slices.Reverse(back)
		for i, x := range q {
			turned[i] = -x
		}
		if want {
			plain++
		}
		for _, list := range [][]int{q, back, turned} {
			if impl.TurnPlain(list) != want {
				t.Fatalf("TurnPlain of %v is %v", list, !want)
			}
		}
	}
	if plain < 500 {
		t.Fatalf("only %d lists are plain", plain)
	}
}

func TestPromise24(t *testing.T) {
	wantNumber(t, "TurnTrace", gotNumber(impl.TurnTrace([]int{2, 3})), numberResult{5, true})
	wantNumber(t, "TurnTrace", gotNumber(impl.TurnTrace([]int{-1, 1000, -999})), numberResult{-1000002, true})
	wantNumber(t, "TurnTrace", gotNumber(impl.TurnTrace(make([]int, 20))), numberResult{0, true})
	wantNumber(t, "TurnTrace", gotNumber(impl.TurnTrace([]int{1000, -1000})), numberResult{})
	wantNumber(t, "TurnTrace", gotNumber(impl.TurnTrace([]int{1000, -1000, 0, 1000})), numberResult{})
	for _, q := range sampleLists() {
		want := numberResult{}
		if m, ok := impl.TurnOf(q); ok {
			want = gotNumber(impl.MatTrace(m))
		}
		wantNumber(t, "TurnTrace", gotNumber(impl.TurnTrace(q)), want)
	}
}

func TestTurnRoundValues(t *testing.T) {
	for _, c := range []struct {
		q    []int
		want bool
	}{
		{[]int{0}, true},
		{[]int{1000}, true},
		{[]int{2, 3}, true},
		{[]int{2, 3, 4}, true},
		{[]int{1000, 1000}, true},
		{make([]int, 20), true},
		{slices.Repeat([]int{2}, 20), true},
		{append(slices.Repeat([]int{1, 2}, 9), 5, 0), true},
		{make([]int, 21), false},
		// TurnOf succeeds for this list, but not for all that come from it.
		{[]int{1000, 0, -1000}, false},
		{[]int{1000, 0, -1000, 1000}, false},
		// TurnOf does not succeed for this list, but for one that comes from it.
		{[]int{0, -1000, 1000}, false},
		{[]int{1000, -1000, 0}, false},
		// TurnOf succeeds for none of them.
		{[]int{1000, -1000}, false},
		{[]int{1000, 1000, 1000}, false},
	} {
		if impl.TurnRound(c.q) != c.want {
			t.Errorf("TurnRound of %v is %v", c.q, !c.want)
		}
	}
}

func TestPromise25(t *testing.T) {
	held, unheld := 0, 0
	for _, q := range sampleLists() {
		want := true
		var traces []int
		for n := range q {
			r := rotated(q, n)
			m, ok := impl.TurnOf(r)
			want = want && ok
			if ok {
				traces = append(traces, mustTrace(t, mustTimes(t, m, mat(0, -1, 1, 0))))
			}
		}
		if impl.TurnRound(q) != want {
			t.Fatalf("TurnRound of %v is %v", q, !want)
		}
		if !want {
			unheld++
			continue
		}
		held++
		if len(slices.Compact(traces)) != 1 {
			t.Fatalf("%v has the traces %v", q, traces)
		}
	}
	if held < 3000 || unheld < 1000 {
		t.Fatalf("TurnRound holds for %d lists, and not for %d", held, unheld)
	}
}

// Lists are neither changed, nor is what lies behind them.
func TestListsAreNotChanged(t *testing.T) {
	for _, q := range append(longLists(), noLists()...) {
		whole := append(slices.Clone(q), 77, 78, 79)
		want := slices.Clone(whole)
		given := whole[:len(q)]
		impl.TurnOf(given)
		impl.TurnPlain(given)
		impl.TurnTrace(given)
		impl.TurnRound(given)
		if !slices.Equal(whole, want) {
			t.Fatalf("%v is %v now", want, whole)
		}
	}
}

// A result is new memory: what is done to it is not seen by the next call.
func TestTurnListsAreNew(t *testing.T) {
	for _, m := range []impl.Mat{unit, mat(2, 5, 1, 3), mat(5, 2, 2, 1), mat(-8, -3, 3, 1)} {
		first := gotList(impl.TurnList(m))
		want := listResult{slices.Clone(first.q), first.sign, first.ok}
		for i := range first.q[:cap(first.q)] {
			first.q[:cap(first.q)][i] = -77
		}
		wantList(t, m, want)
	}
}
