package tests

import (
	"math"
	"testing"

	"loop.example/tworows/impl"
)

// matResult is what a function returns that makes a matrix.
type matResult struct {
	m  impl.Mat
	ok bool
}

func gotMat(m impl.Mat, ok bool) matResult {
	return matResult{m, ok}
}

func wantMat(t *testing.T, what string, got, want matResult) {
	t.Helper()
	if got != want {
		t.Fatalf("%s returned %v, want %v", what, got, want)
	}
}

func mustTimes(t *testing.T, m, n impl.Mat) impl.Mat {
	t.Helper()
	p, ok := impl.MatTimes(m, n)
	if !ok {
		t.Fatalf("MatTimes of %v and %v failed", m, n)
	}
	return p
}

func mustDet(t *testing.T, m impl.Mat) int {
	t.Helper()
	d, ok := impl.MatDet(m)
	if !ok {
		t.Fatalf("MatDet of %v failed", m)
	}
	return d
}

func mustTrace(t *testing.T, m impl.Mat) int {
	t.Helper()
	s, ok := impl.MatTrace(m)
	if !ok {
		t.Fatalf("MatTrace of %v failed", m)
	}
	return s
}

func mustTurned(t *testing.T, m impl.Mat) impl.Mat {
	t.Helper()
	r, ok := impl.MatTurned(m)
	if !ok {
		t.Fatalf("MatTurned of %v failed", m)
	}
	return r
}

func mustMirror(t *testing.T, m impl.Mat) impl.Mat {
	t.Helper()
	r, ok := impl.MatMirror(m)
	if !ok {
		t.Fatalf("MatMirror of %v failed", m)
	}
	return r
}

func mustBack(t *testing.T, m impl.Mat) impl.Mat {
	t.Helper()
	r, ok := impl.MatBack(m)
	if !ok {
		t.Fatalf("MatBack of %v failed", m)
	}
	return r
}

func TestNumberMax(t *testing.T) {
	if impl.NumberMax != 1000000 {
		t.Fatalf("NumberMax is %d", impl.NumberMax)
	}
}

func TestMatInAtTheLimits(t *testing.T) {
	for _, m := range sampleMats() {
		if !impl.MatIn(m) {
			t.Errorf("MatIn does not hold for %v", m)
		}
	}
	for _, m := range noMats() {
		if impl.MatIn(m) {
			t.Errorf("MatIn holds for %v", m)
		}
	}
}

// Four numbers that are no matrix: every function fails with zero values.
func TestNoMatrix(t *testing.T) {
	fail := matResult{}
	for _, m := range noMats() {
		wantMat(t, "MatTurned", gotMat(impl.MatTurned(m)), fail)
		wantMat(t, "MatMirror", gotMat(impl.MatMirror(m)), fail)
		wantMat(t, "MatBack", gotMat(impl.MatBack(m)), fail)
		for _, k := range []int{-51, -50, -2, -1, 0, 1, 2, 50, 51} {
			wantMat(t, "MatPower", gotMat(impl.MatPower(m, k)), fail)
		}
		for _, n := range []impl.Mat{{}, unit, mat(1, 1, 0, 0), mat(0, 0, 1, 1), mat(2, 1, 1, 1), m} {
			wantMat(t, "MatTimes", gotMat(impl.MatTimes(m, n)), fail)
			wantMat(t, "MatTimes", gotMat(impl.MatTimes(n, m)), fail)
		}
		if d, ok := impl.MatDet(m); d != 0 || ok {
			t.Errorf("MatDet of %v returned %d, %v", m, d, ok)
		}
		if s, ok := impl.MatTrace(m); s != 0 || ok {
			t.Errorf("MatTrace of %v returned %d, %v", m, s, ok)
		}
		for _, p := range [][2]int{{0, 0}, {1, 0}, {0, 1}, {1, 1}, {top, -top}} {
			if x, y, ok := impl.MatMove(m, p[0], p[1]); x != 0 || y != 0 || ok {
				t.Errorf("MatMove of %v by %v returned %d, %d, %v", m, p, x, y, ok)
			}
		}
		if impl.MatEven(m) {
			t.Errorf("MatEven holds for %v", m)
		}
	}
}

func TestPromise1(t *testing.T) {
	for _, m := range sampleMats() {
		wantMat(t, "MatTimes by the unit", gotMat(impl.MatTimes(m, unit)), matResult{m, true})
		wantMat(t, "MatTimes of the unit", gotMat(impl.MatTimes(unit, m)), matResult{m, true})
	}
}

func TestMatTimesValues(t *testing.T) {
	for _, c := range []struct {
		m, n impl.Mat
		want matResult
	}{
		{mat(2, 1, 1, 1), mat(2, 1, 1, 1), matResult{mat(5, 3, 3, 2), true}},
		{mat(1, 2, 3, 4), mat(5, 6, 7, 8), matResult{mat(19, 22, 43, 50), true}},
		{mat(5, 6, 7, 8), mat(1, 2, 3, 4), matResult{mat(23, 34, 31, 46), true}},
		{mat(1000, 0, 0, -1000), mat(1000, 0, 0, 1000), matResult{mat(top, 0, 0, -top), true}},
		{mat(0, 1000, 1000, 0), mat(1000, 0, 0, -1000), matResult{mat(0, -top, top, 0), true}},
		{mat(top, top, 0, 0), mat(top, 0, 1-top, 0), matResult{mat(top, 0, 0, 0), true}},
		{mat(1000, 1, 0, 0), mat(1000, 0, 1, 0), matResult{}},
		{mat(1000, 1, 0, 0), mat(0, 1000, 0, 1), matResult{}},
		{mat(0, 0, 1000, 1), mat(1000, 0, 1, 0), matResult{}},
		{mat(0, 0, 1000, 1), mat(0, 1000, 0, 1), matResult{}},
		{mat(-1000, -1, 0, 0), mat(1000, 0, 1, 0), matResult{}},
		{mat(top, top, top, top), mat(top, top, top, top), matResult{}},
	} {
		wantMat(t, "MatTimes", gotMat(impl.MatTimes(c.m, c.n)), c.want)
	}
}

func TestPromise2(t *testing.T) {
	list, told := sampleMats(), 0
	for _, m := range list {
		for _, n := range list {
			p, ok := impl.MatTimes(m, n)
			want := matResult{}
			if raw := rawTimes(m, n); rawIn(raw) {
				want = matResult{raw, true}
			}
			wantMat(t, "MatTimes", matResult{p, ok}, want)
			if !ok {
				continue
			}
			if mustDet(t, p) != mustDet(t, m)*mustDet(t, n) {
				t.Fatalf("MatDet of %v times %v is not that of both", m, n)
			}
			if q, ok := impl.MatTimes(n, m); ok {
				told++
				if mustTrace(t, p) != mustTrace(t, q) {
					t.Fatalf("MatTrace of %v and %v depends on their order", m, n)
				}
			}
		}
	}
	if told < len(smallMats()) {
		t.Fatalf("only %d products are told in both orders", told)
	}
}

func TestMatDetAndMatTraceValues(t *testing.T) {
	for _, c := range []struct {
		m          impl.Mat
		det, trace int
	}{
		{unit, 1, 2},
		{impl.Mat{}, 0, 0},
		{mat(1, 2, 3, 5), -1, 6},
		{mat(7, -11, 13, 4), 171, 11},
		{mat(top, -top, top, top), 2000000000000, 2000000},
		{mat(-top, top, top, top), -2000000000000, 0},
		{mat(-top, 0, 0, -top), 1000000000000, -2000000},
		{mat(0, 1001, 1000, 0), -1001000, 0},
		{mat(top, 0, 0, 1), 1000000, 1000001},
	} {
		if mustDet(t, c.m) != c.det || mustTrace(t, c.m) != c.trace {
			t.Errorf("%v has %d and %d, want %d and %d", c.m, mustDet(t, c.m), mustTrace(t, c.m), c.det, c.trace)
		}
	}
}

func TestPromise3(t *testing.T) {
	for _, m := range sampleMats() {
		d := mustDet(t, m)
		if d != rawDet(m) {
			t.Errorf("MatDet of %v is %d", m, d)
		}
		if mustDet(t, mustTurned(t, m)) != d {
			t.Errorf("MatDet of %v turned is not %d", m, d)
		}
		if mustDet(t, mustMirror(t, m)) != d {
			t.Errorf("MatDet of the mirror of %v is not %d", m, d)
		}
	}
}

func TestPromise4(t *testing.T) {
	told := 0
	for _, m := range sampleMats() {
		p, ok := impl.MatPower(m, 2)
		if !ok {
			continue
		}
		told++
		s, d := mustTrace(t, m), mustDet(t, m)
		if want := mat(s*m.A-d, s*m.B, s*m.C, s*m.D-d); p != want {
			t.Errorf("MatPower of %v and 2 is %v, want %v", m, p, want)
		}
	}
	if told < len(smallMats()) {
		t.Fatalf("only %d squares are told", told)
	}
}

func TestPromise5(t *testing.T) {
	list := sampleMats()
	for _, m := range list {
		for _, n := range list {
			if p, ok := impl.MatTimes(m, n); ok {
				if mustTurned(t, p) != mustTimes(t, mustTurned(t, n), mustTurned(t, m)) {
					t.Fatalf("MatTurned of %v times %v is not the product of both turned", m, n)
				}
			}
		}
	}
}

func TestPromise6(t *testing.T) {
	wantMat(t, "MatTurned", gotMat(impl.MatTurned(mat(1, 2, 3, 4))), matResult{mat(1, 3, 2, 4), true})
	wantMat(t, "MatTurned", gotMat(impl.MatTurned(mat(top, -top, 0, -top))), matResult{mat(top, 0, -top, -top), true})
	wantMat(t, "MatTurned", gotMat(impl.MatTurned(unit)), matResult{unit, true})
	for _, m := range sampleMats() {
		r := mustTurned(t, m)
		if mustTurned(t, r) != m {
			t.Errorf("MatTurned of %v does not lead back", m)
		}
		if mustTrace(t, r) != mustTrace(t, m) {
			t.Errorf("MatTurned of %v has another trace", m)
		}
	}
}

func TestPromise7(t *testing.T) {
	wantMat(t, "MatBack", gotMat(impl.MatBack(unit)), matResult{unit, true})
	wantMat(t, "MatBack", gotMat(impl.MatBack(mat(5, 2, 2, 1))), matResult{mat(1, -2, -2, 5), true})
	wantMat(t, "MatBack", gotMat(impl.MatBack(mat(1, 2, 3, 5))), matResult{mat(-5, 2, 3, -1), true})
	wantMat(t, "MatBack", gotMat(impl.MatBack(mat(1, top, 0, -1))), matResult{mat(1, top, 0, -1), true})
	wantMat(t, "MatBack", gotMat(impl.MatBack(mat(1, top, 0, 1))), matResult{mat(1, -top, 0, 1), true})
	for _, m := range sampleMats() {
		d := rawDet(m)
		r, ok := impl.MatBack(m)
		if d != 1 && d != -1 {
			wantMat(t, "MatBack of no whole matrix", matResult{r, ok}, matResult{})
			continue
		}
		if !ok || mustTimes(t, m, r) != unit || mustTimes(t, r, m) != unit {
			t.Errorf("MatBack of %v is %v, %v", m, r, ok)
		}
		if mustBack(t, r) != m {
			t.Errorf("MatBack of %v does not lead back", m)
		}
	}
}

func TestMatPowerValues(t *testing.T) {
	onTheWay := mat(1004, 503006, -2, -1002)
	for _, c := range []struct {
		m    impl.Mat
		k    int
		want matResult
	}{
		{mat(1, 1, 0, 1), 50, matResult{mat(1, 50, 0, 1), true}},
		{mat(1, 1, 0, 1), -50, matResult{mat(1, -50, 0, 1), true}},
		{mat(1, 1, 0, 1), 51, matResult{}},
		{mat(1, 1, 0, 1), -51, matResult{}},
		{unit, 51, matResult{}},
		{unit, -51, matResult{}},
		{unit, math.MaxInt, matResult{}},
		{unit, math.MinInt, matResult{}},
		{unit, 50, matResult{unit, true}},
		{unit, -50, matResult{unit, true}},
		{mat(1, 20000, 0, 1), 50, matResult{mat(1, top, 0, 1), true}},
		{mat(1, 20000, 0, 1), -50, matResult{mat(1, -top, 0, 1), true}},
		{mat(1, 20001, 0, 1), 50, matResult{}},
		{mat(1, 20001, 0, 1), -50, matResult{}},
		{mat(1, 20001, 0, 1), -49, matResult{mat(1, -980049, 0, 1), true}},
		{mat(10, 0, 0, -10), 6, matResult{mat(top, 0, 0, top), true}},
		{mat(10, 0, 0, -10), 7, matResult{}},
		{mat(-10, 0, 0, 1), 7, matResult{}},
		{mat(2, 1, 1, 1), 3, matResult{mat(13, 8, 8, 5), true}},
		{mat(2, 1, 1, 1), -3, matResult{mat(5, -8, -8, 13), true}},
		{mat(1, 1, 1, 0), 5, matResult{mat(8, 5, 5, 3), true}},
		{mat(1, 1, 1, 0), -5, matResult{mat(-3, 5, 5, -8), true}},
		{mat(2, 1, 1, 1), 14, matResult{mat(514229, 317811, 317811, 196418), true}},
		{mat(2, 1, 1, 1), 15, matResult{}},
		{mat(2, 1, 1, 1), -15, matResult{}},
		{mat(0, -1, 1, 0), 50, matResult{mat(-1, 0, 0, -1), true}},
		{mat(0, -1, 1, 0), -49, matResult{mat(0, 1, -1, 0), true}},
		{mat(0, 1, 0, 0), 50, matResult{impl.Mat{}, true}},
		{mat(1, 1, 0, 0), 50, matResult{mat(1, 1, 0, 0), true}},
		{impl.Mat{}, 0, matResult{unit, true}},
		{impl.Mat{}, 50, matResult{impl.Mat{}, true}},
		{impl.Mat{}, -1, matResult{}},
		{mat(2, 0, 0, 1), -1, matResult{}},
		{mat(top, top, top, top), 0, matResult{unit, true}},
		{mat(top, top, top, top), 1, matResult{mat(top, top, top, top), true}},
		{mat(top, top, top, top), 2, matResult{}},
		{mat(top, top, top, top), -1, matResult{}},
		// Its square is no matrix, although its third power is -8 times the unit.
		{onTheWay, 1, matResult{onTheWay, true}},
		{onTheWay, 2, matResult{}},
		{onTheWay, 3, matResult{}},
		{onTheWay, 6, matResult{}},
	} {
		wantMat(t, "MatPower", gotMat(impl.MatPower(c.m, c.k)), c.want)
	}
}

// The matrix of TestMatPowerValues is what it is told to be.
func TestThirdPowerIsAMatrixAgain(t *testing.T) {
	m := mat(1004, 503006, -2, -1002)
	square := rawTimes(m, m)
	if cube := rawTimes(square, m); rawIn(square) || cube != mat(-8, 0, 0, -8) {
		t.Fatalf("%v has the powers %v and %v", m, square, cube)
	}
}

func TestPromise8(t *testing.T) {
	for _, m := range sampleMats() {
		p, ok := unit, true
		for k := 0; k <= 50; k++ {
			wantMat(t, "MatPower", gotMat(impl.MatPower(m, k)), matResult{p, ok})
			if !ok {
				continue
			}
			if p, ok = impl.MatTimes(p, m); !ok {
				p = impl.Mat{}
			}
		}
		for _, k := range []int{51, 100, math.MaxInt, -51, -100, math.MinInt} {
			wantMat(t, "MatPower", gotMat(impl.MatPower(m, k)), matResult{})
		}
	}
}

func TestPromise8Negative(t *testing.T) {
	for _, m := range sampleMats() {
		d := rawDet(m)
		for k := 1; k <= 50; k++ {
			want := matResult{}
			if p, ok := impl.MatPower(m, k); ok && (d == 1 || d == -1) {
				want = gotMat(impl.MatBack(p))
			}
			wantMat(t, "MatPower", gotMat(impl.MatPower(m, -k)), want)
		}
	}
	for _, m := range wholeMats() {
		wantMat(t, "MatPower", gotMat(impl.MatPower(m, -1)), matResult{mustBack(t, m), true})
	}
}

// moveResult is what MatMove returns.
type moveResult struct {
	x, y int
	ok   bool
}

func gotMove(x, y int, ok bool) moveResult {
	return moveResult{x, y, ok}
}

func TestMatMoveValues(t *testing.T) {
	for _, c := range []struct {
		m    impl.Mat
		x, y int
		want moveResult
	}{
		{unit, 3, -4, moveResult{3, -4, true}},
		{unit, top, -top, moveResult{top, -top, true}},
		{unit, -top, top, moveResult{-top, top, true}},
		{mat(1, 2, 3, 4), 5, 6, moveResult{17, 39, true}},
		{mat(1, 2, 3, 4), 0, 0, moveResult{0, 0, true}},
		{impl.Mat{}, top, top, moveResult{0, 0, true}},
		{mat(1, 1, 0, 1), top - 1, 1, moveResult{top, 1, true}},
		{mat(1, 1, 0, 1), top, 1, moveResult{}},
		{mat(1, 1, 0, 1), -top, -1, moveResult{}},
		{mat(1, 0, 1, 1), 1, top - 1, moveResult{1, top, true}},
		{mat(1, 0, 1, 1), 1, top, moveResult{}},
		{mat(1, 0, 1, 1), -1, -top, moveResult{}},
		{mat(top, -top, top, -top), top, top, moveResult{0, 0, true}},
		{mat(top, top, top, top), top, top, moveResult{}},
	} {
		if got := gotMove(impl.MatMove(c.m, c.x, c.y)); got != c.want {
			t.Errorf("MatMove of %v by %d, %d returned %v, want %v", c.m, c.x, c.y, got, c.want)
		}
	}
	for _, x := range beyondNumbers() {
		for _, m := range []impl.Mat{{}, unit, mat(1, 0, 1, 0), mat(0, 1, 0, 1)} {
			for _, p := range [][2]int{{x, 0}, {0, x}, {x, x}, {x, 1}, {1, x}} {
				if got := gotMove(impl.MatMove(m, p[0], p[1])); got != (moveResult{}) {
					t.Errorf("MatMove of %v by %v returned %v", m, p, got)
				}
			}
		}
	}
}

func TestPromise9(t *testing.T) {
	numbers := []int{-top, -1000, -7, -1, 0, 1, 2, 13, 999, top}
	told := 0
	for _, m := range sampleMats() {
		square, squareOk := impl.MatPower(m, 2)
		for _, x := range numbers {
			for _, y := range numbers {
				u, v, ok := impl.MatMove(m, x, y)
				want := moveResult{}
				if a, b := rawMove(m, x, y); rawIn(mat(a, b, 0, 0)) {
					want = moveResult{a, b, true}
				}
				if got := (moveResult{u, v, ok}); got != want {
					t.Fatalf("MatMove of %v by %d, %d returned %v, want %v", m, x, y, got, want)
				}
				if !ok || !squareOk {
					continue
				}
				if twice := gotMove(impl.MatMove(m, u, v)); twice.ok {
					told++
					if got := gotMove(impl.MatMove(square, x, y)); got != twice {
						t.Fatalf("%v moves %d, %d twice to %v, its square to %v", m, x, y, twice, got)
					}
				}
			}
		}
	}
	if told < len(smallMats()) {
		t.Fatalf("only %d pairs are moved twice", told)
	}
}

func TestPromise10(t *testing.T) {
	wantMat(t, "MatMirror", gotMat(impl.MatMirror(unit)), matResult{unit, true})
	wantMat(t, "MatMirror", gotMat(impl.MatMirror(mat(1, 2, 3, 4))), matResult{mat(4, -2, -3, 1), true})
	wantMat(t, "MatMirror", gotMat(impl.MatMirror(mat(top, top, -top, -top))), matResult{mat(-top, -top, top, top), true})
	told := 0
	for _, m := range sampleMats() {
		r := mustMirror(t, m)
		if mustMirror(t, r) != m {
			t.Errorf("MatMirror of %v does not lead back", m)
		}
		d := mustDet(t, m)
		for _, p := range []matResult{gotMat(impl.MatTimes(m, r)), gotMat(impl.MatTimes(r, m))} {
			if p.ok != (-top <= d && d <= top) {
				t.Errorf("%v by its mirror: %v, with the determinant %d", m, p, d)
			}
			if !p.ok {
				continue
			}
			told++
			if p.m != mat(d, 0, 0, d) {
				t.Errorf("%v by its mirror is %v", m, p.m)
			}
		}
	}
	if told < len(smallMats()) {
		t.Fatalf("only %d products are told", told)
	}
}

func TestPromise11(t *testing.T) {
	for _, m := range []impl.Mat{unit, mat(-1, 0, 0, -1), mat(2, 1, 1, 1), mat(0, -1, 1, 0), mat(1, top, 0, 1), mat(top, top-1, 1, 1)} {
		if !impl.MatEven(m) {
			t.Errorf("MatEven does not hold for %v", m)
		}
	}
	for _, m := range []impl.Mat{{}, mat(1, 0, 0, -1), mat(0, 1, 1, 0), mat(2, 0, 0, 1), mat(1, top, 0, -1)} {
		if impl.MatEven(m) {
			t.Errorf("MatEven holds for %v", m)
		}
	}
	for _, m := range sampleMats() {
		if impl.MatEven(m) != (rawDet(m) == 1) {
			t.Errorf("MatEven of %v is %v", m, impl.MatEven(m))
		}
		if !impl.MatEven(m) {
			continue
		}
		if r := mustBack(t, m); r != mustMirror(t, m) || !impl.MatEven(r) {
			t.Errorf("MatBack of the even matrix %v is %v", m, r)
		}
	}
}
