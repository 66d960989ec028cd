package tests

import (
	"cmp"
	"math"
	"slices"
	"testing"

	"loop.example/tworows/impl"
)

// most is the greatest number of a form.
const most = 10000

// turnMat is the turn.
var turnMat = mat(0, -1, 1, 0)

// form builds a form from its numbers.
func form(a, b, c int) impl.Form {
	return impl.Form{A: a, B: b, C: c}
}

// formResult is what FormMoved and FormShort return.
type formResult struct {
	f  impl.Form
	ok bool
}

func gotForm(f impl.Form, ok bool) formResult {
	return formResult{f, ok}
}

func wantMoved(t *testing.T, f impl.Form, m impl.Mat, want formResult) {
	t.Helper()
	if got := gotForm(impl.FormMoved(f, m)); got != want {
		t.Fatalf("FormMoved of %v by %v returned %v, want %v", f, m, got, want)
	}
}

func wantShortForm(t *testing.T, f impl.Form, want formResult) {
	t.Helper()
	if got := gotForm(impl.FormShort(f)); got != want {
		t.Fatalf("FormShort of %v returned %v, want %v", f, got, want)
	}
}

func wantValue(t *testing.T, f impl.Form, x, y int, want numberResult) {
	t.Helper()
	if got := gotNumber(impl.FormValue(f, x, y)); got != want {
		t.Fatalf("FormValue of %v for %d and %d returned %v, want %v", f, x, y, got, want)
	}
}

func wantDisc(t *testing.T, f impl.Form, want numberResult) {
	t.Helper()
	if got := gotNumber(impl.FormDisc(f)); got != want {
		t.Fatalf("FormDisc of %v returned %v, want %v", f, got, want)
	}
}

func wantCount(t *testing.T, f impl.Form, n int, want numberResult) {
	t.Helper()
	if got := gotNumber(impl.FormCount(f, n)); got != want {
		t.Fatalf("FormCount of %v and %d returned %v, want %v", f, n, got, want)
	}
}

// wantFormSame checks what FormSame reports of two forms, in both orders.
func wantFormSame(t *testing.T, f, g impl.Form, want bool) {
	t.Helper()
	if impl.FormSame(f, g) != want || impl.FormSame(g, f) != want {
		t.Fatalf("FormSame of %v and %v is %v, exchanged %v, want %v", f, g, impl.FormSame(f, g), impl.FormSame(g, f), want)
	}
}

// wantFormAll checks what FormAll returns.
func wantFormAll(t *testing.T, d int, want []impl.Form, wantOk bool) {
	t.Helper()
	if got, ok := impl.FormAll(d); ok != wantOk || !slices.Equal(got, want) {
		t.Fatalf("FormAll of %d returned %v, %v, want %v, %v", d, got, ok, want, wantOk)
	}
}

// plainFormIn tells a form by its limits.
func plainFormIn(f impl.Form) bool {
	for _, x := range [3]int{f.A, f.B, f.C} {
		if x < -10000 || x > 10000 {
			return false
		}
	}
	return true
}

// rawValue is the value of a form: the product of the pair, the matrix with half
// of B at both sides, and the pair, doubled so that all of it is whole.
func rawValue(f impl.Form, x, y int) int {
	u, v := rawMove(mat(2*f.A, f.B, f.B, 2*f.C), x, y)
	return (x*u + y*v) / 2
}

// rawDisc is the discriminant: the determinant of the same matrix, its sign turned.
func rawDisc(f impl.Form) int {
	return -rawDet(mat(2*f.A, f.B, f.B, 2*f.C))
}

// plainPositive tells a positive form. The values for 1, 0 and for B, -2 A then
// are at least 1.
func plainPositive(f impl.Form) bool {
	return plainFormIn(f) && f.A > 0 && f.A*rawDisc(f) < 0
}

// rawMoved is the form moved by a matrix, whose numbers may be beyond the
// limits: the matrix of the form between that of the move turned and that itself.
func rawMoved(f impl.Form, m impl.Mat) impl.Form {
	turned := mat(m.A, m.C, m.B, m.D)
	g := rawTimes(turned, rawTimes(mat(2*f.A, f.B, f.B, 2*f.C), m))
	return form(g.A/2, g.B, g.D/2)
}

// plainMoved is what FormMoved returns.
func plainMoved(f impl.Form, m impl.Mat) formResult {
	if !plainFormIn(f) || !rawIn(m) || rawDet(m) != 1 {
		return formResult{}
	}
	g := rawMoved(f, m)
	if !plainFormIn(g) {
		return formResult{}
	}
	return formResult{g, true}
}

// isShortForm tells a short form, condition by condition.
func isShortForm(f impl.Form) bool {
	switch {
	case signless(f.B) > f.A, f.A > f.C:
		return false
	case f.A == f.C && f.B < 0, signless(f.B) == f.A && f.B < 0:
		return false
	}
	return true
}

// plainFormShort is what FormShort returns: shifts are made one by one.
func plainFormShort(f impl.Form) formResult {
	if !plainPositive(f) {
		return formResult{}
	}
	for !isShortForm(f) {
		switch {
		case f.A > f.C || f.A == f.C && f.B < 0:
			f = form(f.C, -f.B, f.A)
		case f.B > f.A:
			f = form(f.A, f.B-2*f.A, f.A-f.B+f.C)
		default:
			f = form(f.A, f.B+2*f.A, f.A+f.B+f.C)
		}
	}
	return formResult{f, true}
}

// leastForm is the short form of a positive form, told by its least values for
// pairs with numbers from -n to n: A is the least one, C the least one for a
// pair that makes an even matrix with one for A, and B the greatest one then.
func leastForm(f impl.Form, n int) impl.Form {
	pairs := smallPairs(n)
	least := form(math.MaxInt, 0, math.MaxInt)
	for _, p := range pairs {
		if p != (impl.Pair{}) {
			least.A = min(least.A, rawValue(f, p.X, p.Y))
		}
	}
	for _, p := range pairs {
		if rawValue(f, p.X, p.Y) != least.A {
			continue
		}
		for _, q := range pairs {
			if p.X*q.Y-p.Y*q.X != 1 {
				continue
			}
			c := rawValue(f, q.X, q.Y)
			b := rawValue(f, p.X+q.X, p.Y+q.Y) - least.A - c
			if c < least.C || c == least.C && b > least.B {
				least.B, least.C = b, c
			}
		}
	}
	return least
}

// plainForms returns what FormAll returns for each d to 400: all forms with
// numbers that short ones may have are put behind their discriminants.
func plainForms() map[int][]impl.Form {
	all := map[int][]impl.Form{}
	for c := 1; c <= 120; c++ {
		for b := -20; b <= 20; b++ {
			for a := 1; a <= 20; a++ {
				f := form(a, b, c)
				if d := -rawDisc(f); isShortForm(f) && divisorOf(a, b, c) == 1 && d <= 400 {
					all[d] = append(all[d], f)
				}
			}
		}
	}
	for _, list := range all {
		slices.SortFunc(list, func(f, g impl.Form) int {
			return cmp.Or(cmp.Compare(f.A, g.A), cmp.Compare(f.B, g.B))
		})
	}
	return all
}

// plainCount is what FormCount returns: for each x, both y that may have the
// value are found by the root of a discriminant.
func plainCount(f impl.Form, n int) numberResult {
	if !plainPositive(f) || n < 0 || n > 400 {
		return numberResult{}
	}
	count := 0
	for x := -40; x <= 40; x++ {
		// C y y + (B x) y + (A x x - n) is 0.
		square := f.B*x*f.B*x - 4*f.C*(f.A*x*x-n)
		if square < 0 {
			continue
		}
		root := int(math.Round(math.Sqrt(float64(square))))
		if root*root != square {
			continue
		}
		roots := []int{-f.B*x + root, -f.B*x - root}
		for _, y := range slices.Compact(roots) {
			if y%(2*f.C) == 0 && signless(y/(2*f.C)) <= 40 {
				count++
			}
		}
	}
	return numberResult{count, true}
}

// smallForms returns all forms with numbers from -n to n.
func smallForms(n int) []impl.Form {
	var list []impl.Form
	for _, p := range smallPairs(n) {
		for c := -n; c <= n; c++ {
			list = append(list, form(p.X, p.Y, c))
		}
	}
	return list
}

// greatForms returns forms with greater numbers, also at both limits.
func greatForms() []impl.Form {
	var list []impl.Form
	for _, x := range []int{most, -most, most - 1, 1 - most, 0} {
		for _, y := range []int{most, -most, 1, 0} {
			for _, z := range []int{most, -most, 9998, -1, 0} {
				list = append(list, form(x, y, z), form(y, x, z))
			}
		}
	}
	for seed := range 60 {
		q := rulelessList(seed, 3, most)
		list = append(list, form(q[0], q[1], q[2]), form(signless(q[0])+1, q[1]%101, signless(q[2])+1))
		r := rulelessList(seed, 3, 300)
		list = append(list, form(r[0], r[1], r[2]), form(signless(r[0])+1, r[1]/10, signless(r[2])+1))
	}
	return slices.DeleteFunc(list, func(f impl.Form) bool { return !plainFormIn(f) })
}

// longWayForms returns positive forms that are short only after many steps or
// a great one: short forms moved by even matrices with greater numbers.
func longWayForms() []impl.Form {
	short := []impl.Form{
		form(1, 0, 1), form(1, 1, 1), form(2, 1, 3), form(2, -1, 3), form(2, 2, 3), form(3, 1, 3), form(2, 0, 2), form(1, 0, 5), form(2, 2, 2), form(5, 5, 5),
		form(4, -3, 7), form(1, 1, 41), form(6, 5, 8), form(6, -5, 8), form(10, 10, 11), form(1, 0, 1000),
	}
	var list []impl.Form
	for _, m := range movers() {
		for _, f := range short {
			if g := rawMoved(f, m); plainFormIn(g) {
				list = append(list, g)
			}
		}
	}
	return list
}

// sampleForms returns the forms on which the promises are tried.
func sampleForms() []impl.Form {
	return slices.Concat(smallForms(4), greatForms(), longWayForms())
}

// positiveForms returns those of the samples that are positive, and some more.
func positiveForms() []impl.Form {
	list := slices.Concat(sampleForms(), smallForms(7))
	for _, f := range []impl.Form{
		form(2501, most, most), form(most, most, 2501), form(2501, -most, most), form(most, -most, 2501), form(most, most, most), form(most, -most, most),
		form(most, 9999, most), form(most, -9999, most), form(most, 1, 1), form(1, 1, most), form(1, 199, most), form(1, -199, most), form(most, 199, 1), form(most, -199, 1),
		form(5000, 9999, 5000), form(5000, -9999, 5000), form(4900, 9900, 5001), form(most, 6180, 955), form(9901, -9701, 2377),
	} {
		list = append(list, f)
	}
	return slices.DeleteFunc(list, func(f impl.Form) bool { return !plainPositive(f) })
}

// noForms returns three numbers that are no form: one of them or all are beyond.
func noForms() []impl.Form {
	var list []impl.Form
	for _, x := range append(beyondNumbers(), most+1, -most-1, top, -top) {
		list = append(list, form(x, 0, 0), form(0, x, 0), form(0, 0, x), form(x, x, x), form(x, 0, 1), form(1, x, 1), form(1, 0, x), form(x, 1, most), form(most, most, x))
	}
	return list
}

// flatForms returns forms that are not positive: A is 0 or negative, or the
// discriminant is 0 or greater.
func flatForms() []impl.Form {
	list := []impl.Form{
		// A is 0.
		{}, form(0, 0, 1), form(0, 0, -1), form(0, 1, 0), form(0, -1, 1), form(0, most, most), form(0, 0, most), form(0, 5, -7),
		// A is negative, with the discriminant negative, too, and others.
		form(-1, 0, -1), form(-1, 1, -1), form(-2, 1, -3), form(-most, 0, -most), form(-most, most, -most), form(-1, 0, -most), form(-1, 0, 1), form(-1, 2, -1), form(-1, 0, 0), form(-most, most, most),
		// The discriminant is 0.
		form(1, 0, 0), form(1, 2, 1), form(1, -2, 1), form(2, 4, 2), form(4, 4, 1), form(1, -4, 4), form(9, 12, 4), form(most, 0, 0), form(2500, most, most), form(5000, most, 5000), form(5000, -most, 5000), form(most, most, 2500),
		// The discriminant is greater: 1, 4, 5, 8 and so on.
		form(1, 1, 0), form(1, 3, 2), form(1, 2, 0), form(1, 1, -1), form(1, 3, 1), form(1, 0, -2), form(1, 0, -1), form(2, 5, 3), form(most, 1, 0), form(most, 0, -most), form(1, most, 1), form(most, most, -most), form(2499, most, most), form(4999, most, 5000),
	}
	for _, f := range sampleForms() {
		if !plainPositive(f) {
			list = append(list, f)
		}
	}
	return list
}

// movers returns even matrices with small and with great numbers.
func movers() []impl.Mat {
	return append(conjugators(), turnMat, mat(1, 40, 0, 1), mat(1, -99, 0, 1), mat(1, 0, 57, 1), mat(34, 21, 21, 13), mat(55, -34, -34, 21), mat(89, 55, 55, 34),
		mat(29, 12, 12, 5), mat(7, -16, -10, 23), mat(1, top, 0, 1), mat(top, top-1, 1, 1))
}

// wantNotPositive checks that nothing is told of what is no positive form.
func wantNotPositive(t *testing.T, f impl.Form) {
	t.Helper()
	wantShortForm(t, f, formResult{})
	for _, g := range []impl.Form{f, {}, form(1, 0, 1), form(2, 1, 3), form(most, most, most), form(0, 0, most+1)} {
		wantFormSame(t, f, g, false)
	}
	for _, n := range []int{0, 1, 2, 25, 400, 401, -1, f.A, f.C} {
		wantCount(t, f, n, numberResult{})
	}
}

// What is no form has no result.
func TestNoForm(t *testing.T) {
	mats := append(movers(), impl.Mat{}, mat(1, 0, 0, -1))
	for _, f := range noForms() {
		if impl.FormIn(f) {
			t.Fatalf("FormIn holds for %v", f)
		}
		for _, p := range append(smallPairs(1), pair(1000, -1000), pair(1001, 0)) {
			wantValue(t, f, p.X, p.Y, numberResult{})
		}
		wantDisc(t, f, numberResult{})
		for _, m := range mats {
			wantMoved(t, f, m, formResult{})
		}
		wantNotPositive(t, f)
	}
}

// Forms that are not positive have values, but no short form.
func TestNotPositive(t *testing.T) {
	for _, f := range flatForms() {
		if !impl.FormIn(f) || plainPositive(f) {
			t.Fatalf("FormIn of %v is %v", f, impl.FormIn(f))
		}
		wantNotPositive(t, f)
		wantValue(t, f, 1, -2, numberResult{rawValue(f, 1, -2), true})
		wantDisc(t, f, numberResult{rawDisc(f), true})
		wantMoved(t, f, unit, formResult{f, true})
		wantMoved(t, f, turnMat, formResult{form(f.C, -f.B, f.A), true})
	}
}

func TestFormInLimits(t *testing.T) {
	for _, f := range []impl.Form{{}, form(1, 2, 3), form(-1, -2, -3), form(most, most, most), form(-most, -most, -most), form(most, -most, 0), form(0, most, -most), form(-most, 0, most)} {
		if !impl.FormIn(f) {
			t.Errorf("FormIn does not hold for %v", f)
		}
	}
	for _, x := range []int{most, -most} {
		for _, far := range []int{x + x/most, 2 * x, x << 32, x * most * 100} {
			for _, f := range []impl.Form{form(far, 0, 0), form(0, far, 0), form(0, 0, far), form(far, x, x), form(x, far, x), form(x, x, far), form(far, -x, far)} {
				if impl.FormIn(f) {
					t.Errorf("FormIn holds for %v", f)
				}
			}
		}
	}
}

func TestPromise59(t *testing.T) {
	for _, f := range sampleForms() {
		if !impl.FormIn(f) {
			t.Fatalf("FormIn does not hold for %v", f)
		}
		wantValue(t, f, 1, 0, numberResult{f.A, true})
		wantValue(t, f, 0, 1, numberResult{f.C, true})
		wantValue(t, f, 1, 1, numberResult{f.A + f.B + f.C, true})
		wantValue(t, f, 0, 0, numberResult{0, true})
	}
}

func TestFormValueValues(t *testing.T) {
	for _, c := range []struct {
		f          impl.Form
		x, y, want int
	}{
		{form(1, 2, 3), 5, 7, 25 + 70 + 147},
		{form(1, 2, 3), 7, 5, 49 + 70 + 75},
		{form(1, 2, 3), -5, 7, 25 - 70 + 147},
		{form(1, -1, 1), 3, 2, 7},
		{form(1, 0, -2), 3, 2, 1},
		{form(-1, 0, -1), 3, 4, -25},
		{form(0, 1, 0), -3, 4, -12},
		{impl.Form{}, 1000, -1000, 0},
		// The limits, with values far beyond those of a form and a matrix.
		{form(1, 0, 0), 1000, 0, 1000000},
		{form(0, 0, 1), 0, -1000, 1000000},
		{form(most, most, most), 1000, 1000, 30000000000},
		{form(most, most, most), -1000, -1000, 30000000000},
		{form(most, most, most), 1000, -1000, 10000000000},
		{form(most, -most, most), -1000, 1000, 30000000000},
		{form(-most, -most, -most), 1000, 1000, -30000000000},
		{form(most, 0, -most), 1000, 999, 19990000},
		{form(1, 1, 1), 1000, -1000, 1000000},
	} {
		wantValue(t, c.f, c.x, c.y, numberResult{c.want, true})
	}
	for _, f := range []impl.Form{{}, form(1, 0, 1), form(-1, 2, 3), form(most, most, most)} {
		for _, x := range append(beyondNumbers(), 1001, -1001, most, top) {
			for _, y := range []int{0, 1, -1000, 1000, x} {
				wantValue(t, f, x, y, numberResult{})
				wantValue(t, f, y, x, numberResult{})
			}
		}
	}
}

func TestPromise60(t *testing.T) {
	pairs := append(smallPairs(3), pair(1000, 0), pair(-1000, 1000), pair(1000, 1000), pair(0, -1000), pair(999, -998), pair(17, 400))
	for _, f := range sampleForms() {
		for _, p := range pairs {
			value, ok := impl.FormValue(f, p.X, p.Y)
			wantValue(t, f, p.X, p.Y, numberResult{rawValue(f, p.X, p.Y), true})
			wantValue(t, f, -p.X, -p.Y, numberResult{value, ok})
			g, moved := impl.FormMoved(f, turnMat)
			if !moved {
				t.Fatalf("FormMoved of %v by the turn failed", f)
			}
			wantValue(t, g, p.Y, -p.X, numberResult{value, ok})
		}
	}
}

func TestFormDiscValues(t *testing.T) {
	for f, want := range map[impl.Form]int{
		{}: 0, form(1, 0, 1): -4, form(1, 1, 1): -3, form(1, -1, 1): -3, form(2, 1, 3): -23, form(2, 5, 4): -7, form(1, 1, -1): 5, form(1, 0, -2): 8, form(1, 2, 1): 0, form(0, 3, 7): 9, form(-1, 0, -1): -4,
		form(most, most, most): -300000000, form(most, -most, most): -300000000, form(most, 0, most): -400000000, form(most, most, -most): 500000000, form(-most, most, most): 500000000,
		form(-most, 0, -most): -400000000, form(0, -most, 0): 100000000, form(2500, most, most): 0, form(2501, most, most): -40000, form(2499, most, most): 40000,
	} {
		wantDisc(t, f, numberResult{want, true})
	}
}

func TestPromise61(t *testing.T) {
	same := 0
	for _, f := range sampleForms() {
		disc, ok := impl.FormDisc(f)
		wantDisc(t, f, numberResult{rawDisc(f), true})
		if rest := plainRest(disc, 4); !ok || rest > 1 {
			t.Fatalf("FormDisc of %v returned %d, %v", f, disc, ok)
		}
		if g, ok := impl.FormMoved(f, mat(2, 1, 1, 1)); ok {
			same++
			wantDisc(t, g, numberResult{disc, true})
		}
	}
	if same < 1000 {
		t.Fatalf("only %d forms are moved", same)
	}
}

func TestFormMovedValues(t *testing.T) {
	for _, c := range []struct {
		f    impl.Form
		m    impl.Mat
		want formResult
	}{
		{form(1, 2, 3), unit, formResult{form(1, 2, 3), true}},
		{form(1, 2, 3), mat(-1, 0, 0, -1), formResult{form(1, 2, 3), true}},
		{form(1, 2, 3), turnMat, formResult{form(3, -2, 1), true}},
		{form(1, 2, 3), mat(1, 1, 0, 1), formResult{form(1, 4, 6), true}},
		{form(1, 2, 3), mat(1, 0, 1, 1), formResult{form(6, 8, 3), true}},
		{form(1, 2, 3), mat(2, 1, 1, 1), formResult{form(11, 16, 6), true}},
		{form(1, 2, 3), mat(1, 1, 1, 2), formResult{form(6, 20, 17), true}},
		{form(2, 5, 4), mat(1, -1, 0, 1), formResult{form(2, 1, 1), true}},
		{form(1, 0, -2), mat(3, 4, 2, 3), formResult{form(1, 0, -2), true}},
		{form(0, 1, 0), mat(3, 4, 2, 3), formResult{form(6, 17, 12), true}},
		{form(-1, 0, -1), mat(1, 3, 0, 1), formResult{form(-1, -6, -10), true}},
		{impl.Form{}, mat(top, top-1, 1, 1), formResult{impl.Form{}, true}},
		// The limit of each number of the moved form, and beyond it.
		{form(1, 0, 0), mat(100, 99, 1, 1), formResult{}},
		{form(0, 1, 0), mat(1, most, 0, 1), formResult{form(0, 1, most), true}},
		{form(0, 1, 0), mat(1, most+1, 0, 1), formResult{}},
		{form(0, 1, 0), mat(1, -most, 0, 1), formResult{form(0, 1, -most), true}},
		{form(0, 1, 0), mat(1, -most-1, 0, 1), formResult{}},
		{form(0, 1, 0), mat(1, 0, most, 1), formResult{form(most, 1, 0), true}},
		{form(0, 1, 0), mat(1, 0, most+1, 1), formResult{}},
		{form(0, 1, 0), mat(1, 0, -most-1, 1), formResult{}},
		{form(1, 0, 0), mat(100, -1, 1, 0), formResult{form(most, -200, 1), true}},
		{form(1, 0, 0), mat(101, -1, 1, 0), formResult{}},
		{form(0, 0, 1), mat(0, -1, 1, 101), formResult{}},
		{form(50, 0, 0), mat(10, 9, 1, 1), formResult{form(5000, 9000, 4050), true}},
		{form(most, 0, -most), mat(1, 1, 0, 1), formResult{}},
		{form(-2500, most, -most), mat(1, 1, 0, 1), formResult{form(-2500, 5000, -2500), true}},
		{form(most, -most, 1), mat(1, 1, 0, 1), formResult{form(most, most, 1), true}},
		{form(most, -9999, 1), mat(1, 1, 0, 1), formResult{}},
		{form(-most, 9999, 0), mat(1, 1, 0, 1), formResult{}},
		{form(most, most, most), mat(1, -1, 0, 1), formResult{form(most, -most, most), true}},
		// Great matrices that make small forms, and great ones.
		{form(1, -2, 1), mat(top, 1, top-1, 1), formResult{form(1, 0, 0), true}},
		{form(4, -4, 1), mat(1, 0, 2, 1), formResult{form(0, 0, 1), true}},
		{form(0, 0, most), mat(1, top, 0, 1), formResult{form(0, 0, most), true}},
		{form(-most, 0, 0), mat(1, 0, -top, 1), formResult{form(-most, 0, 0), true}},
		{form(0, 0, 1), mat(1, 0, top, 1), formResult{}},
		{form(most, most, most), mat(top, top-1, 1, 1), formResult{}},
		{form(-most, -most, -most), mat(top, top-1, 1, 1), formResult{}},
		// Matrices that are not even, and four numbers that are none.
		{form(1, 2, 3), mat(1, 0, 0, -1), formResult{}},
		{form(1, 2, 3), mat(0, 1, 1, 0), formResult{}},
		{form(1, 2, 3), impl.Mat{}, formResult{}},
		{form(1, 2, 3), mat(2, 0, 0, 1), formResult{}},
		{form(1, 2, 3), mat(1, 1, 1, 1), formResult{}},
		{form(0, 0, 1), mat(1, top+1, 0, 1), formResult{}},
		{form(1, 0, 0), mat(1, 0, -top-1, 1), formResult{}},
		{impl.Form{}, mat(1, math.MaxInt, 0, 1), formResult{}},
		{impl.Form{}, mat(math.MinInt, -1, 1, 0), formResult{}},
	} {
		wantMoved(t, c.f, c.m, c.want)
	}
}

// Only even matrices move forms, and what is moved has the values for what MatMove returns.
func TestFormMovedByMats(t *testing.T) {
	made := 0
	mats := slices.Concat(sampleMats(), noMats(), movers())
	for _, f := range append(smallForms(2), form(most, most, most), form(most, 0, 0), form(0, -most, 0), form(7, -11, 13)) {
		for _, m := range mats {
			g, ok := impl.FormMoved(f, m)
			wantMoved(t, f, m, plainMoved(f, m))
			if ok && !impl.MatEven(m) {
				t.Fatalf("FormMoved by %v succeeded", m)
			}
			if !ok {
				continue
			}
			for _, p := range smallPairs(1) {
				x, y, moves := impl.MatMove(m, p.X, p.Y)
				if value, told := impl.FormValue(f, x, y); moves && told {
					made++
					wantValue(t, g, p.X, p.Y, numberResult{value, true})
				}
			}
		}
	}
	if made < 20000 {
		t.Fatalf("only %d values are compared", made)
	}
}

func TestPromise62(t *testing.T) {
	made, beyond := 0, 0
	even := movers()
	for _, f := range sampleForms() {
		for _, m := range even {
			g, ok := impl.FormMoved(f, m)
			wantMoved(t, f, m, plainMoved(f, m))
			if !ok {
				beyond++
				continue
			}
			made++
			wantMoved(t, g, mustBack(t, m), formResult{f, true})
		}
	}
	if made < 20000 || beyond < 1000 {
		t.Fatalf("%d forms are moved, %d are not", made, beyond)
	}
}

func TestFormShortValues(t *testing.T) {
	for _, c := range []struct{ f, want impl.Form }{
		// Short already.
		{form(1, 0, 1), form(1, 0, 1)},
		{form(1, 1, 1), form(1, 1, 1)},
		{form(2, 1, 3), form(2, 1, 3)},
		{form(2, -1, 3), form(2, -1, 3)},
		{form(2, 0, 5), form(2, 0, 5)},
		{form(3, 2, 3), form(3, 2, 3)},
		{form(3, 3, 4), form(3, 3, 4)},
		{form(most, 0, most), form(most, 0, most)},
		{form(most, most, most), form(most, most, most)},
		{form(9999, -9998, most), form(9999, -9998, most)},
		// B without its sign is A.
		{form(1, -1, 1), form(1, 1, 1)},
		{form(3, -3, 4), form(3, 3, 4)},
		{form(2, -2, 9), form(2, 2, 9)},
		{form(9999, -9999, most), form(9999, 9999, most)},
		{form(most, -most, most), form(most, most, most)},
		{form(3, 9, 10), form(3, 3, 4)},
		{form(3, -9, 10), form(3, 3, 4)},
		// A is C.
		{form(3, -2, 3), form(3, 2, 3)},
		{form(5, -1, 5), form(5, 1, 5)},
		{form(most, -1, most), form(most, 1, most)},
		{form(most, -9999, most), form(most, 9999, most)},
		{form(3, 4, 4), form(3, 2, 3)},
		{form(3, -4, 4), form(3, 2, 3)},
		// A is greater than C, so that the sign of B is turned.
		{form(3, 1, 2), form(2, -1, 3)},
		{form(3, -1, 2), form(2, 1, 3)},
		{form(5, 0, 2), form(2, 0, 5)},
		{form(4, 3, 3), form(3, 3, 4)},
		{form(4, -3, 3), form(3, 3, 4)},
		{form(most, 1, 1), form(1, 1, most)},
		// B without its sign is greater than A.
		{form(2, 5, 4), form(1, 1, 2)},
		{form(2, -5, 4), form(1, 1, 2)},
		{form(2, 3, 4), form(2, -1, 3)},
		{form(2, -3, 4), form(2, 1, 3)},
		{form(5, -7, 5), form(3, 3, 5)},
		{form(5, 7, 5), form(3, 3, 5)},
		{form(1, 80, 1601), form(1, 0, 1)},
		{form(1, 199, most), form(1, 1, 100)},
		{form(1, -199, most), form(1, 1, 100)},
		// Many steps.
		{form(5000, 9999, 5000), form(1, 1, 5000)},
		{form(5000, -9999, 5000), form(1, 1, 5000)},
		{form(2501, most, most), form(4, 4, 2501)},
		{form(most, -most, 2501), form(4, 4, 2501)},
		{rawMoved(form(2, -1, 3), mat(34, 21, 21, 13)), form(2, -1, 3)},
		{rawMoved(form(2, 1, 3), mat(-13, 21, 21, -34)), form(2, 1, 3)},
		// A common divisor stays.
		{form(4, 10, 8), form(2, 2, 4)},
		{form(6, -3, 6), form(6, 3, 6)},
	} {
		wantShortForm(t, c.f, formResult{c.want, true})
	}
}

func TestPromise63(t *testing.T) {
	negative, already := 0, 0
	for _, f := range positiveForms() {
		short, ok := impl.FormShort(f)
		wantShortForm(t, f, plainFormShort(f))
		if !ok || !isShortForm(short) || !plainPositive(short) {
			t.Fatalf("FormShort of %v returned %v, %v", f, short, ok)
		}
		wantShortForm(t, short, formResult{short, true})
		wantDisc(t, short, numberResult{rawDisc(f), true})
		wantFormSame(t, f, short, true)
		if short.B < 0 {
			negative++
		}
		if short == f {
			already++
		}
	}
	if negative < 100 || already < 200 {
		t.Fatalf("%d short forms have a negative B, %d forms are short already", negative, already)
	}
}

// A short form is told by the least values of the form.
func TestFormShortOfLeastValues(t *testing.T) {
	for _, f := range smallForms(6) {
		if plainPositive(f) {
			wantShortForm(t, f, formResult{leastForm(f, 8), true})
		}
	}
	for d, list := range plainForms() {
		if d%5 == 0 {
			for _, f := range list {
				g := rawMoved(f, mat(2, 1, 1, 1))
				wantShortForm(t, g, formResult{leastForm(g, 3), true})
			}
		}
	}
}

func TestFormSameValues(t *testing.T) {
	for _, c := range []struct {
		f, g impl.Form
		want bool
	}{
		{form(1, 0, 1), form(1, 0, 1), true},
		{form(1, 0, 1), form(2, 2, 1), true},
		{form(1, 0, 1), form(1, 80, 1601), true},
		{form(1, 1, 1), form(1, -1, 1), true},
		{form(3, 2, 3), form(3, -2, 3), true},
		{form(2, 5, 4), form(1, 1, 2), true},
		{form(2, 5, 4), form(2, -5, 4), true},
		{form(3, 1, 2), form(2, -1, 3), true},
		{form(2501, most, most), form(4, 4, 2501), true},
		// One discriminant, but other short forms.
		{form(2, 1, 3), form(2, -1, 3), false},
		{form(2, 1, 3), form(3, 1, 2), false},
		{form(2, 1, 3), form(1, 1, 6), false},
		{form(1, 0, 5), form(2, 2, 3), false},
		{form(1, 0, 4), form(2, 0, 2), false},
		{form(2501, most, most), form(1, 0, most), false},
		{form(2501, most, most), form(100, 0, 100), false},
		// Other discriminants.
		{form(1, 0, 1), form(1, 1, 1), false},
		{form(1, 0, 1), form(2, 0, 2), false},
		{form(1, 0, 1), form(1, 0, 2), false},
		{form(most, most, most), form(most, 0, most), false},
		// Forms that are not positive, and no forms.
		{form(1, 0, 1), form(-1, 0, -1), false},
		{form(-1, 0, -1), form(-1, 0, -1), false},
		{form(1, 2, 1), form(1, 2, 1), false},
		{form(1, 0, 0), form(1, 2, 1), false},
		{form(1, 1, -1), form(1, 1, -1), false},
		{impl.Form{}, impl.Form{}, false},
		{form(most+1, 0, 1), form(1, 0, most+1), false},
		{form(1, 0, most+1), form(1, 0, most+1), false},
		{form(1, 0, most), form(1, 0, most), true},
	} {
		wantFormSame(t, c.f, c.g, c.want)
	}
}

func TestPromise64(t *testing.T) {
	list := positiveForms()
	same, others := 0, 0
	for i, f := range list {
		for j := i % 7; j < len(list); j += 7 {
			g := list[j]
			want := plainFormShort(f) == plainFormShort(g)
			wantFormSame(t, f, g, want)
			if !want {
				others++
				continue
			}
			same++
			disc, ok := impl.FormDisc(f)
			wantDisc(t, g, numberResult{disc, ok})
		}
	}
	if same < 3000 || others < 50000 {
		t.Fatalf("%d pairs of forms are the same, %d are not", same, others)
	}
}

// A moved form has the same short form.
func TestFormSameOfMoved(t *testing.T) {
	same := 0
	even := movers()
	for _, f := range positiveForms() {
		for _, m := range even {
			if g, ok := impl.FormMoved(f, m); ok {
				same++
				wantFormSame(t, f, g, true)
			}
		}
	}
	if same < 10000 {
		t.Fatalf("only %d forms are moved", same)
	}
}

func TestFormAllValues(t *testing.T) {
	for d, want := range map[int][]impl.Form{
		1: nil, 2: nil, 5: nil, 6: nil, 398: nil, 397: nil,
		3:  {form(1, 1, 1)},
		4:  {form(1, 0, 1)},
		7:  {form(1, 1, 2)},
		8:  {form(1, 0, 2)},
		11: {form(1, 1, 3)},
		// In 2, 2, 2 and in 2, 0, 2 all numbers have a common divisor.
		12:  {form(1, 0, 3)},
		16:  {form(1, 0, 4)},
		15:  {form(1, 1, 4), form(2, 1, 2)},
		20:  {form(1, 0, 5), form(2, 2, 3)},
		23:  {form(1, 1, 6), form(2, -1, 3), form(2, 1, 3)},
		32:  {form(1, 0, 8), form(3, 2, 3)},
		39:  {form(1, 1, 10), form(2, -1, 5), form(2, 1, 5), form(3, 3, 4)},
		47:  {form(1, 1, 12), form(2, -1, 6), form(2, 1, 6), form(3, -1, 4), form(3, 1, 4)},
		48:  {form(1, 0, 12), form(3, 0, 4)},
		163: {form(1, 1, 41)},
		300: {form(1, 0, 75), form(3, 0, 25), form(4, -2, 19), form(4, 2, 19), form(7, -6, 12), form(7, 6, 12)},
		399: {
			form(1, 1, 100), form(2, -1, 50), form(2, 1, 50), form(3, 3, 34), form(4, -1, 25), form(4, 1, 25), form(5, -1, 20), form(5, 1, 20),
			form(6, -3, 17), form(6, 3, 17), form(7, 7, 16), form(8, -7, 14), form(8, 7, 14), form(10, -9, 12), form(10, 1, 10), form(10, 9, 12),
		},
		400: {form(1, 0, 100), form(4, 0, 25), form(8, -4, 13), form(8, 4, 13)},
	} {
		wantFormAll(t, d, want, true)
	}
	for _, d := range append(beyondNumbers(), 0, -1, -3, -4, -23, -400, 401, 403, 404, 1000, 1<<32+3, -1<<32+4) {
		wantFormAll(t, d, nil, false)
	}
}

func TestPromise65(t *testing.T) {
	all, count := plainForms(), 0
	for d := 1; d <= 400; d++ {
		list, ok := impl.FormAll(d)
		wantFormAll(t, d, all[d], true)
		if !ok || (len(list) > 0) != (d%4 == 0 || d%4 == 3) {
			t.Fatalf("FormAll of %d returned %v, %v", d, list, ok)
		}
		for i, f := range list {
			count++
			wantShortForm(t, f, formResult{f, true})
			wantDisc(t, f, numberResult{-d, true})
			if divisorOf(f.A, f.B, f.C) != 1 {
				t.Fatalf("FormAll of %d has %v", d, f)
			}
			if i > 0 && (list[i-1].A > f.A || list[i-1].A == f.A && list[i-1].B >= f.B) {
				t.Fatalf("FormAll of %d has %v behind %v", d, f, list[i-1])
			}
		}
	}
	if count != 1108 {
		t.Fatalf("there are %d forms", count)
	}
}

// residue is 1, 0 or -1, as the numbers with the discriminant -d have two, one
// or no root by a prime.
func residue(d, p int) int {
	roots := 0
	for x := range p {
		if (x*x-x*(d%2)+(d+d%2)/4)%p == 0 {
			roots++
		}
	}
	return roots - 1
}

// residues is the product of residue over the primes of n, each as often as it divides n.
func residues(d, n int) int {
	product := 1
	for _, p := range primesOf(n) {
		for ; n%p == 0; n /= p {
			product *= residue(d, p)
		}
	}
	return product
}

// formsByResidues is the number of plain short forms with the discriminant -d,
// told by a sum over residues for the least d that differs from it by a square.
func formsByResidues(d int) int {
	least, root := d, 1
	for r := 2; r*r <= d; r++ {
		if rest := d / (r * r) % 4; d%(r*r) == 0 && (rest == 0 || rest == 3) {
			least, root = d/(r*r), r
		}
	}
	sum := 0
	for k := range least {
		sum += k * residues(least, k)
	}
	// 1, 1, 1 and 1, 0, 1 have more even matrices that leave them as they are.
	own := cmp.Or(map[int]int{3: 3, 4: 2}[least], 1)
	count := own * signless(sum) / least
	if root == 1 {
		return count
	}
	times := root
	for _, p := range primesOf(root) {
		times = times / p * (p - residue(least, p))
	}
	return count * times / own
}

func TestFormAllByResidues(t *testing.T) {
	for d := 3; d <= 400; d++ {
		if d%4 != 0 && d%4 != 3 {
			continue
		}
		if list, _ := impl.FormAll(d); len(list) != formsByResidues(d) {
			t.Fatalf("FormAll of %d returned %d forms, by residues %d", d, len(list), formsByResidues(d))
		}
	}
}

// The short forms of all plain forms with a discriminant are those that FormAll returns.
func TestFormAllOfForms(t *testing.T) {
	for d := 3; d <= 120; d++ {
		met := map[impl.Form]bool{}
		for b := -d; b <= d; b++ {
			for a := 1; a <= 30; a++ {
				f := form(a, b, (b*b+d)/(4*a))
				if -rawDisc(f) == d && divisorOf(a, b, f.C) == 1 {
					short, _ := impl.FormShort(f)
					met[short] = true
				}
			}
		}
		list, _ := impl.FormAll(d)
		for _, f := range list {
			if !met[f] {
				t.Fatalf("FormAll of %d has %v", d, f)
			}
		}
		if len(met) != len(list) {
			t.Fatalf("FormAll of %d returned %v, the forms lead to %v", d, list, met)
		}
	}
}

func TestFormCountValues(t *testing.T) {
	for _, c := range []struct {
		f       impl.Form
		n, want int
	}{
		{form(1, 0, 1), 0, 1},
		{form(1, 0, 1), 1, 4},
		{form(1, 0, 1), 3, 0},
		{form(1, 0, 1), 25, 12},
		{form(1, 0, 1), 325, 24},
		{form(1, 0, 1), 399, 0},
		{form(1, 0, 1), 400, 12},
		{form(1, 1, 1), 1, 6},
		{form(1, -1, 1), 7, 12},
		{form(1, 1, 1), 400, 6},
		{form(2, 1, 3), 2, 2},
		{form(2, 1, 3), 1, 0},
		{form(1, 0, 400), 400, 4},
		{form(1, 0, 401), 400, 2},
		{form(400, 0, 400), 400, 4},
		{form(401, 0, 401), 400, 0},
		{form(most, 0, most), 0, 1},
		{form(most, most, most), 400, 0},
		{form(1, 199, most), 0, 1},
		// Pairs with a number 39, 40 and 41, with either sign.
		{form(1, 78, 1522), 1, 4},
		{form(1, 80, 1601), 1, 4},
		{form(1, -80, 1601), 1, 4},
		{form(1, 82, 1682), 1, 2},
		{form(1, -82, 1682), 1, 2},
		{form(1601, 80, 1), 1, 4},
		{form(1601, -80, 1), 1, 4},
		{form(1682, 82, 1), 1, 2},
		{form(1682, -82, 1), 1, 2},
		{form(1522, -3122, 1601), 1, 4},
		{form(1601, -3122, 1522), 1, 4},
		{form(1601, -3282, 1682), 1, 2},
		{form(1682, 3282, 1601), 1, 2},
	} {
		wantCount(t, c.f, c.n, numberResult{c.want, true})
	}
	for _, f := range []impl.Form{form(1, 0, 1), form(1, 1, 1), form(2, -1, 3), form(401, 0, 1), form(most, most, most)} {
		for _, n := range append(beyondNumbers(), -1, -2, -400, 401, 402, 1000, most, 1<<32+25) {
			wantCount(t, f, n, numberResult{})
		}
	}
}

func TestPromise66(t *testing.T) {
	some := 0
	for i, f := range positiveForms() {
		for _, n := range []int{0, 1, 2, 7, 399, 400, f.A, f.C, f.A + f.B + f.C, 4*f.A - 2*f.B + f.C, i % 401} {
			count, ok := impl.FormCount(f, n)
			wantCount(t, f, n, plainCount(f, n))
			if ok != (n >= 0 && n <= 400) {
				t.Fatalf("FormCount of %v and %d is %v", f, n, ok)
			}
			if ok && n == 0 && count != 1 || n != 0 && count%2 != 0 {
				t.Fatalf("FormCount of %v and %d returned %d", f, n, count)
			}
			if n > 0 && count > 0 {
				some++
			}
		}
	}
	if some < 3000 {
		t.Fatalf("only %d forms have a value", some)
	}
}

// byDivisors is the sum, over all divisors of n, of what stands behind their rest by some number.
func byDivisors(n int, signs []int) int {
	sum := 0
	for k := 1; k <= n; k++ {
		if n%k == 0 {
			sum += signs[k%len(signs)]
		}
	}
	return sum
}

// Some forms have each value as often as the divisors of it tell.
func TestFormCountByDivisors(t *testing.T) {
	for n := 1; n <= 400; n++ {
		wantCount(t, form(1, 0, 1), n, numberResult{4 * byDivisors(n, []int{0, 1, 0, -1}), true})
		wantCount(t, form(1, 1, 1), n, numberResult{6 * byDivisors(n, []int{0, 1, -1}), true})
		wantCount(t, form(1, 0, 2), n, numberResult{2 * byDivisors(n, []int{0, 1, 0, 1, 0, -1, 0, -1}), true})
		wantCount(t, form(1, 1, 2), n, numberResult{2 * byDivisors(n, []int{0, 1, 1, -1, 1, -1, -1}), true})
		wantCount(t, form(2, 1, 3), n, plainCount(form(2, 1, 3), n))
		wantCount(t, form(5, -9, 5), n, plainCount(form(5, -9, 5), n))
	}
}

// A result is new memory: what is done to it is not seen by the next call.
func TestFormsAreNew(t *testing.T) {
	for _, d := range []int{3, 23, 47, 399, 400} {
		first, _ := impl.FormAll(d)
		want := slices.Clone(first)
		for i := range first[:cap(first)] {
			first[:cap(first)][i] = form(-1, -1, -1)
		}
		wantFormAll(t, d, want, true)
	}
}
