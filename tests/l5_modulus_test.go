package tests

import (
	"math"
	"runtime"
	"slices"
	"sync"
	"testing"
	"time"

	"loop.example/tworows/impl"
)

// restCounts are the numbers of even rest matrices for the moduli from 2 to 12.
var restCounts = []int{6, 24, 48, 120, 144, 336, 384, 648, 720, 1320, 1152}

// restPoints are the numbers of points for the moduli from 2 to 12.
var restPoints = []int{3, 4, 6, 6, 12, 8, 12, 12, 18, 12, 24}

// noModuli returns numbers that are no modulus.
func noModuli() []int {
	return []int{1, 0, -1, -2, -5, -12, -13, 13, 14, 24, 100, 1 << 32, -1 << 32, 1<<32 + 5, math.MaxInt, math.MinInt}
}

// plainRest is the rest of x by n, the number that is left of it from 0 to n - 1.
func plainRest(x, n int) int {
	return x - n*int(math.Floor(float64(x)/float64(n)))
}

// plainRestOf is what RestOf returns.
func plainRestOf(m impl.Mat, n int) matResult {
	if n < 2 || n > 12 || !rawIn(m) {
		return matResult{}
	}
	return matResult{rawRests(m, n), true}
}

// rawRests has the rests of the numbers of m.
func rawRests(m impl.Mat, n int) impl.Mat {
	return mat(plainRest(m.A, n), plainRest(m.B, n), plainRest(m.C, n), plainRest(m.D, n))
}

// plainRestEven is what RestEven reports: of all the numbers that n divides one
// is the determinant less 1.
func plainRestEven(m impl.Mat, n int) bool {
	if n < 2 || n > 12 {
		return false
	}
	for _, x := range []int{m.A, m.B, m.C, m.D} {
		if x < 0 || x >= n {
			return false
		}
	}
	for x := -n * n; x <= n*n; x += n {
		if rawDet(m)-1 == x {
			return true
		}
	}
	return false
}

// restMats returns all even rest matrices by n, and all that are not even.
func restMats(n int) (even, others []impl.Mat) {
	for a := range n {
		for b := range n {
			for c := range n {
				for d := range n {
					if m := mat(a, b, c, d); plainRestEven(m, n) {
						even = append(even, m)
					} else {
						others = append(others, m)
					}
				}
			}
		}
	}
	return even, others
}

// eachRestMat visits all even rest matrices by all moduli.
func eachRestMat(visit func(m impl.Mat, n int)) {
	for n := 2; n <= 12; n++ {
		even, _ := restMats(n)
		for _, m := range even {
			visit(m, n)
		}
	}
}

// noRestMats returns what is no even rest matrix by n: others, among them those
// with the numbers of an even one and n, more, or a negative number.
func noRestMats(n int) []impl.Mat {
	even, list := restMats(n)
	for _, x := range []int{n, -n, 2 * n} {
		for i, m := range even {
			if i%17 < 4 {
				list = append(list, mat(m.A+x, m.B, m.C, m.D), mat(m.A, m.B+x, m.C, m.D), mat(m.A, m.B, m.C+x, m.D), mat(m.A, m.B, m.C, m.D+x))
			}
		}
	}
	list = append(list, mat(-1, 0, 0, -1), mat(1, -1, 0, 1), mat(1, 0, -1, 1), mat(n+1, 0, 0, n+1), mat(1, n, 0, 1), mat(1, 0, n, 1), mat(n-1, 0, 0, -1))
	list = append(list, mat(top, 1, -1, 0), mat(1, top, 0, 1), mat(1, math.MinInt, 0, 1), mat(math.MaxInt, 0, 0, math.MaxInt))
	return append(list, noMats()...)
}

// units returns the rests by n which times another one have the rest 1.
func units(n int) []int {
	var list []int
	for u := range n {
		for v := range n {
			if u*v%n == 1 {
				list = append(list, u)
			}
		}
	}
	return list
}

// primesOf returns the primes that divide n.
func primesOf(n int) []int {
	var list []int
	for p := 2; p <= n; p++ {
		if n%p != 0 {
			continue
		}
		list = append(list, p)
		for n%p == 0 {
			n /= p
		}
	}
	return list
}

// plainPoint is what RestPoint returns for a pair: the least of its products
// with units. A pair is a point if whole numbers times both add up to 1, by n.
func plainPoint(n, x, y int) moveResult {
	if n < 2 || n > 12 || x < 0 || x >= n || y < 0 || y >= n {
		return moveResult{}
	}
	point := false
	for a := range n {
		for b := range n {
			point = point || (a*x+b*y)%n == 1
		}
	}
	if !point {
		return moveResult{}
	}
	first := moveResult{x, y, true}
	for _, u := range units(n) {
		if v, w := u*x%n, u*y%n; v < first.x || v == first.x && w < first.y {
			first = moveResult{v, w, true}
		}
	}
	return first
}

// pointTable tells plainPoint of all pairs by n.
func pointTable(n int) map[[2]int]moveResult {
	table := map[[2]int]moveResult{}
	for x := range n {
		for y := range n {
			table[[2]int{x, y}] = plainPoint(n, x, y)
		}
	}
	return table
}

// wantPoint checks the first pair of a point.
func wantPoint(t *testing.T, what string, got, want moveResult) {
	t.Helper()
	if got != want {
		t.Fatalf("%s returned %v, want %v", what, got, want)
	}
}

// restPower is the power of a rest matrix, by squares.
func restPower(m impl.Mat, k, n int) impl.Mat {
	if k == 0 {
		return unit
	}
	p := restPower(m, k/2, n)
	p = rawRests(rawTimes(p, p), n)
	if k%2 == 1 {
		p = rawRests(rawTimes(p, m), n)
	}
	return p
}

// plainRestOrder is what RestOrder returns for an even rest matrix: the least
// divisor of the number of them whose power is the unit.
func plainRestOrder(m impl.Mat, n int) numberResult {
	for k := 1; k <= restCounts[n-2]; k++ {
		if restCounts[n-2]%k == 0 && restPower(m, k, n) == unit {
			return numberResult{k, true}
		}
	}
	return numberResult{}
}

// plainOrbits is what RestOrbits returns for an even rest matrix: for each
// number k of points as many k as all points that come round first after k moves.
func plainOrbits(m impl.Mat, n int, table map[[2]int]moveResult) []int {
	var list []int
	for x := range n {
		for y := range n {
			first := table[[2]int{x, y}]
			if first != (moveResult{x, y, true}) {
				continue
			}
			k, u, v := 0, x, y
			for {
				u, v = rawMove(m, u, v)
				u, v, k = plainRest(u, n), plainRest(v, n), k+1
				if table[[2]int{u, v}] == first {
					break
				}
			}
			list = append(list, k)
		}
	}
	slices.Sort(list)
	var orbits []int
	for i := 0; i < len(list); i += list[i] {
		orbits = append(orbits, list[i])
	}
	return orbits
}

// wantOrbits checks what RestOrbits returns.
func wantOrbits(t *testing.T, m impl.Mat, n int, want []int, wantOk bool) {
	t.Helper()
	got, ok := impl.RestOrbits(m, n)
	if !slices.Equal(got, want) || ok != wantOk {
		t.Fatalf("RestOrbits of %v by %d returned %v, %v, want %v, %v", m, n, got, ok, want, wantOk)
	}
}

// liftTable has for the rests of even matrices with numbers from 0 to 30 the
// first of these. With A as 0 there are none, and otherwise D is told by the others.
func liftTable(n int) map[impl.Mat]impl.Mat {
	table := map[impl.Mat]impl.Mat{}
	for a := 1; a <= 30; a++ {
		for b := 0; b <= 30; b++ {
			for c := 0; c <= 30; c++ {
				d := (b*c + 1) / a
				if d*a != b*c+1 || d > 30 {
					continue
				}
				rests := mat(a%n, b%n, c%n, d%n)
				if _, ok := table[rests]; !ok {
					table[rests] = mat(a, b, c, d)
				}
			}
		}
	}
	return table
}

// What is no modulus has nothing.
func TestNoModulus(t *testing.T) {
	for _, n := range noModuli() {
		wantNumber(t, "RestCount", gotNumber(impl.RestCount(n)), numberResult{})
		wantNumber(t, "RestPoints", gotNumber(impl.RestPoints(n)), numberResult{})
		for _, x := range []int{0, 1, 2, n - 1, n, -1} {
			wantPoint(t, "RestPoint", gotMove(impl.RestPoint(n, x, 1)), moveResult{})
			wantPoint(t, "RestPoint", gotMove(impl.RestPoint(n, 1, x)), moveResult{})
			wantPoint(t, "RestMove", gotMove(impl.RestMove(unit, n, x, 1)), moveResult{})
		}
		for _, m := range append(sampleMats(), noMats()...) {
			wantMat(t, "RestOf", gotMat(impl.RestOf(m, n)), matResult{})
			if impl.RestEven(m, n) {
				t.Fatalf("RestEven holds for %v by %d", m, n)
			}
			wantNumber(t, "RestOrder", gotNumber(impl.RestOrder(m, n)), numberResult{})
			wantPoint(t, "RestMove", gotMove(impl.RestMove(m, n, 0, 1)), moveResult{})
			wantOrbits(t, m, n, nil, false)
			wantMat(t, "RestLift", gotMat(impl.RestLift(m, n)), matResult{})
		}
	}
}

// What is no even rest matrix has only rests, and these only if it is a matrix.
func TestNoEvenRestMatrix(t *testing.T) {
	for n := 2; n <= 12; n++ {
		for _, m := range noRestMats(n) {
			if impl.RestEven(m, n) {
				t.Fatalf("RestEven holds for %v by %d", m, n)
			}
			wantNumber(t, "RestOrder", gotNumber(impl.RestOrder(m, n)), numberResult{})
			wantPoint(t, "RestMove", gotMove(impl.RestMove(m, n, 1, 0)), moveResult{})
			wantPoint(t, "RestMove", gotMove(impl.RestMove(m, n, 0, 1)), moveResult{})
			wantOrbits(t, m, n, nil, false)
			wantMat(t, "RestLift", gotMat(impl.RestLift(m, n)), matResult{})
			wantMat(t, "RestOf", gotMat(impl.RestOf(m, n)), plainRestOf(m, n))
		}
	}
}

// What is no pair of rests, or has a common divisor with the modulus, is no point.
func TestNoPoint(t *testing.T) {
	for n := 2; n <= 12; n++ {
		outside := []int{n, n + 1, 2*n + 1, -1, 1 - n, -n, top, math.MaxInt, math.MinInt}
		for _, x := range outside {
			for _, y := range append(outside, 0, 1, n-1) {
				for _, p := range [][2]int{{x, y}, {y, x}} {
					wantPoint(t, "RestPoint", gotMove(impl.RestPoint(n, p[0], p[1])), moveResult{})
					wantPoint(t, "RestMove", gotMove(impl.RestMove(unit, n, p[0], p[1])), moveResult{})
				}
			}
		}
		for _, p := range primesOf(n) {
			for x := 0; x < n; x += p {
				for y := 0; y < n; y += p {
					wantPoint(t, "RestPoint", gotMove(impl.RestPoint(n, x, y)), moveResult{})
					wantPoint(t, "RestMove", gotMove(impl.RestMove(unit, n, x, y)), moveResult{})
					wantPoint(t, "RestMove", gotMove(impl.RestMove(mat(1, 1, 0, 1), n, x, y)), moveResult{})
				}
			}
		}
	}
}

func TestRestOfValues(t *testing.T) {
	for _, c := range []struct {
		m    impl.Mat
		n    int
		want matResult
	}{
		{mat(2, 5, 1, 3), 2, matResult{mat(0, 1, 1, 1), true}},
		{mat(2, 5, 1, 3), 3, matResult{mat(2, 2, 1, 0), true}},
		{mat(2, 5, 1, 3), 5, matResult{mat(2, 0, 1, 3), true}},
		{mat(2, 5, 1, 3), 12, matResult{mat(2, 5, 1, 3), true}},
		{mat(2, 5, 1, 3), 1, matResult{}},
		{mat(2, 5, 1, 3), 13, matResult{}},
		{mat(2, 5, 1, 3), -5, matResult{}},
		{mat(0, -1, 1, 0), 2, matResult{mat(0, 1, 1, 0), true}},
		{mat(0, -1, 1, 0), 12, matResult{mat(0, 11, 1, 0), true}},
		{mat(-1, -2, -3, -4), 2, matResult{mat(1, 0, 1, 0), true}},
		{mat(-1, -2, -3, -4), 4, matResult{mat(3, 2, 1, 0), true}},
		{mat(-11, -12, -13, -24), 12, matResult{mat(1, 0, 11, 0), true}},
		{mat(12, 13, 24, 11), 12, matResult{mat(0, 1, 0, 11), true}},
		{unit, 2, matResult{unit, true}},
		{unit, 12, matResult{unit, true}},
		{impl.Mat{}, 7, matResult{impl.Mat{}, true}},
		{mat(top, -top, top-1, 1-top), 7, matResult{mat(1, 6, 0, 0), true}},
		{mat(top, -top, top-1, 1-top), 12, matResult{mat(4, 8, 3, 9), true}},
		{mat(top+1, 0, 0, 1), 7, matResult{}},
		{mat(1, 0, -top-1, 1), 7, matResult{}},
	} {
		wantMat(t, "RestOf", gotMat(impl.RestOf(c.m, c.n)), c.want)
	}
}

func TestPromise34(t *testing.T) {
	even := evenMats()
	for n := 2; n <= 12; n++ {
		for _, m := range append(sampleMats(), even...) {
			r, ok := impl.RestOf(m, n)
			wantMat(t, "RestOf", matResult{r, ok}, plainRestOf(m, n))
			wantMat(t, "RestOf", gotMat(impl.RestOf(r, n)), matResult{r, true})
			if rawDet(m) == 1 && !impl.RestEven(r, n) {
				t.Fatalf("RestEven does not hold for %v, the rests of %v by %d", r, m, n)
			}
		}
		for _, m := range noMats() {
			wantMat(t, "RestOf", gotMat(impl.RestOf(m, n)), matResult{})
		}
	}
}

func TestRestEvenValues(t *testing.T) {
	for _, c := range []struct {
		m    impl.Mat
		n    int
		want bool
	}{
		{unit, 2, true},
		{unit, 12, true},
		{unit, 1, false},
		{unit, 13, false},
		{unit, -2, false},
		{unit, 0, false},
		// By 2, the determinant -1 has the rest 1.
		{mat(0, 1, 1, 0), 2, true},
		{mat(0, 1, 1, 1), 2, true},
		{mat(1, 1, 1, 0), 2, true},
		{mat(1, 1, 1, 1), 2, false},
		{impl.Mat{}, 2, false},
		{mat(0, 1, 1, 0), 3, false},
		{mat(0, 2, 1, 0), 3, true},
		{mat(2, 0, 0, 2), 3, true},
		{mat(1, 0, 0, 2), 3, false},
		{mat(0, 11, 1, 0), 12, true},
		{mat(5, 0, 0, 5), 12, true},
		{mat(7, 0, 0, 7), 12, true},
		{mat(5, 0, 0, 7), 12, false},
		{mat(11, 11, 11, 0), 12, false},
		{mat(11, 11, 1, 0), 12, true},
		// Even matrices that have a number equal to the modulus, or a negative one.
		{mat(1, 2, 0, 1), 2, false},
		{mat(1, 5, 0, 1), 5, false},
		{mat(1, 4, 0, 1), 5, true},
		{mat(1, 0, 5, 1), 5, false},
		{mat(5, 4, 1, 1), 5, false},
		{mat(1, 1, 4, 5), 5, false},
		{mat(1, -1, 0, 1), 5, false},
		{mat(-1, 0, 0, -1), 5, false},
	} {
		if impl.RestEven(c.m, c.n) != c.want {
			t.Errorf("RestEven of %v by %d is %v", c.m, c.n, !c.want)
		}
	}
}

func TestPromise35(t *testing.T) {
	for n := 2; n <= 12; n++ {
		even, others := restMats(n)
		for _, m := range even {
			if !impl.RestEven(m, n) {
				t.Fatalf("RestEven does not hold for %v by %d", m, n)
			}
			mirror, mirrorOk := impl.RestOf(mustMirror(t, m), n)
			square, squareOk := impl.RestOf(mustTimes(t, m, m), n)
			if !mirrorOk || !squareOk || !impl.RestEven(mirror, n) || !impl.RestEven(square, n) {
				t.Fatalf("by %d, RestEven of %v, made of %v, is %v; of %v %v", n, mirror, m, impl.RestEven(mirror, n), square, impl.RestEven(square, n))
			}
		}
		for _, m := range others {
			if impl.RestEven(m, n) {
				t.Fatalf("RestEven holds for %v by %d", m, n)
			}
		}
	}
}

// The number of even rest matrices is n three times, over all primes p that
// divide n, 1 less 1 over the square of p; and as many are found.
func TestRestCountValues(t *testing.T) {
	for n := 2; n <= 12; n++ {
		count := n * n * n
		for _, p := range primesOf(n) {
			count = count / (p * p) * (p*p - 1)
		}
		even, _ := restMats(n)
		if count != restCounts[n-2] || len(even) != count {
			t.Fatalf("by %d there are %d, %d and %d even rest matrices", n, count, restCounts[n-2], len(even))
		}
		wantNumber(t, "RestCount", gotNumber(impl.RestCount(n)), numberResult{count, true})
	}
}

func TestRestOrderValues(t *testing.T) {
	for n := 2; n <= 12; n++ {
		wantNumber(t, "RestOrder of the unit", gotNumber(impl.RestOrder(unit, n)), numberResult{1, true})
		wantNumber(t, "RestOrder of a shift", gotNumber(impl.RestOrder(mat(1, 1, 0, 1), n)), numberResult{n, true})
		wantNumber(t, "RestOrder of a shift", gotNumber(impl.RestOrder(mat(1, 0, n-1, 1), n)), numberResult{n, true})
	}
	for _, c := range []struct {
		m    impl.Mat
		n    int
		want numberResult
	}{
		// By 2, the turn is one of order 2, and the unit is its own opposite.
		{mat(0, 1, 1, 0), 2, numberResult{2, true}},
		{mat(0, 1, 1, 1), 2, numberResult{3, true}},
		{mat(1, 1, 1, 0), 2, numberResult{3, true}},
		{mat(1, 1, 1, 1), 2, numberResult{}},
		{mat(0, 2, 1, 0), 3, numberResult{4, true}},
		{mat(2, 0, 0, 2), 3, numberResult{2, true}},
		{mat(0, 11, 1, 0), 12, numberResult{4, true}},
		{mat(0, 11, 1, 1), 12, numberResult{6, true}},
		{mat(5, 0, 0, 5), 12, numberResult{2, true}},
		{mat(1, 6, 0, 1), 12, numberResult{2, true}},
		{mat(2, 1, 1, 1), 5, numberResult{10, true}},
		{mat(2, 1, 1, 1), 10, numberResult{30, true}},
		{mat(2, 1, 1, 1), 11, numberResult{5, true}},
		{mat(3, 0, 0, 5), 7, numberResult{6, true}},
		{mat(3, 0, 0, 4), 11, numberResult{5, true}},
		{mat(1, 12, 0, 1), 12, numberResult{}},
		{mat(1, -1, 0, 1), 12, numberResult{}},
		{unit, 1, numberResult{}},
		{unit, 13, numberResult{}},
		{unit, -3, numberResult{}},
	} {
		wantNumber(t, "RestOrder", gotNumber(impl.RestOrder(c.m, c.n)), c.want)
	}
}

func TestPromise36(t *testing.T) {
	eachRestMat(func(m impl.Mat, n int) {
		k, ok := impl.RestOrder(m, n)
		wantNumber(t, "RestOrder", numberResult{k, ok}, plainRestOrder(m, n))
		if count, ok := impl.RestCount(n); !ok || k < 1 || count%k != 0 {
			t.Fatalf("RestOrder of %v by %d is %d, RestCount %d, %v", m, n, k, count, ok)
		}
	})
}

func TestRestPointValues(t *testing.T) {
	for _, c := range []struct {
		n, x, y int
		want    moveResult
	}{
		{2, 0, 1, moveResult{0, 1, true}},
		{2, 1, 0, moveResult{1, 0, true}},
		{2, 1, 1, moveResult{1, 1, true}},
		{2, 0, 0, moveResult{}},
		{2, 0, 2, moveResult{}},
		{2, 2, 1, moveResult{}},
		{2, -1, 1, moveResult{}},
		{3, 2, 1, moveResult{1, 2, true}},
		{5, 0, 3, moveResult{0, 1, true}},
		{5, 3, 0, moveResult{1, 0, true}},
		{5, 3, 4, moveResult{1, 3, true}},
		{4, 2, 1, moveResult{2, 1, true}},
		{4, 2, 3, moveResult{2, 1, true}},
		{4, 3, 2, moveResult{1, 2, true}},
		{4, 2, 2, moveResult{}},
		{4, 0, 2, moveResult{}},
		{6, 4, 3, moveResult{2, 3, true}},
		{6, 3, 4, moveResult{3, 2, true}},
		{6, 3, 3, moveResult{}},
		{6, 4, 2, moveResult{}},
		{6, 5, 4, moveResult{1, 2, true}},
		{12, 0, 11, moveResult{0, 1, true}},
		{12, 11, 0, moveResult{1, 0, true}},
		{12, 8, 9, moveResult{4, 3, true}},
		{12, 10, 3, moveResult{2, 3, true}},
		{12, 6, 11, moveResult{6, 1, true}},
		{12, 9, 6, moveResult{}},
		{12, 8, 2, moveResult{}},
		{12, 0, 5, moveResult{0, 1, true}},
		{12, 0, 3, moveResult{}},
		{12, 0, 0, moveResult{}},
		{12, 12, 1, moveResult{}},
		{12, 1, 12, moveResult{}},
		{12, 1, -1, moveResult{}},
		{13, 1, 0, moveResult{}},
		{1, 0, 0, moveResult{}},
		{-5, 0, 1, moveResult{}},
	} {
		wantPoint(t, "RestPoint", gotMove(impl.RestPoint(c.n, c.x, c.y)), c.want)
	}
}

func TestPromise37(t *testing.T) {
	for n := 2; n <= 12; n++ {
		for x := -n; x <= 2*n; x++ {
			for y := -n; y <= 2*n; y++ {
				u, v, ok := impl.RestPoint(n, x, y)
				wantPoint(t, "RestPoint", moveResult{u, v, ok}, plainPoint(n, x, y))
				if !ok {
					continue
				}
				wantPoint(t, "RestPoint", gotMove(impl.RestPoint(n, u, v)), moveResult{u, v, true})
				if u > x || u == x && v > y || (x*v-y*u)%n != 0 {
					t.Fatalf("RestPoint of %d, %d by %d returned %d, %d", x, y, n, u, v)
				}
			}
		}
	}
}

// Two points have the same first pair exactly if they are one.
func TestRestPointsThatAreOne(t *testing.T) {
	for n := 2; n <= 12; n++ {
		table := pointTable(n)
		for p, first := range table {
			for q, other := range table {
				if !first.ok || !other.ok {
					continue
				}
				one := (p[0]*q[1]-p[1]*q[0])%n == 0
				if same := gotMove(impl.RestPoint(n, p[0], p[1])) == gotMove(impl.RestPoint(n, q[0], q[1])); same != one {
					t.Fatalf("the first pairs of %v and %v by %d are the same: %v", p, q, n, same)
				}
			}
		}
	}
}

func TestPromise38(t *testing.T) {
	for n := 2; n <= 12; n++ {
		want := n
		for _, p := range primesOf(n) {
			want = want / p * (p + 1)
		}
		firsts := map[moveResult]bool{}
		for _, first := range pointTable(n) {
			if first.ok {
				firsts[first] = true
			}
		}
		if want != restPoints[n-2] || len(firsts) != want {
			t.Fatalf("by %d there are %d, %d and %d points", n, want, restPoints[n-2], len(firsts))
		}
		k, ok := impl.RestPoints(n)
		wantNumber(t, "RestPoints", numberResult{k, ok}, numberResult{want, true})
		if prime := primesOf(n)[0] == n; k <= n || prime != (k == n+1) {
			t.Fatalf("RestPoints of %d is %d", n, k)
		}
	}
}

func TestRestMoveValues(t *testing.T) {
	for _, c := range []struct {
		m       impl.Mat
		n, x, y int
		want    moveResult
	}{
		{mat(1, 1, 0, 1), 2, 0, 1, moveResult{1, 1, true}},
		{mat(1, 1, 0, 1), 2, 1, 1, moveResult{0, 1, true}},
		{mat(1, 1, 0, 1), 2, 1, 0, moveResult{1, 0, true}},
		{mat(0, 1, 1, 0), 2, 1, 0, moveResult{0, 1, true}},
		{mat(0, 1, 1, 0), 2, 0, 1, moveResult{1, 0, true}},
		{unit, 5, 3, 4, moveResult{1, 3, true}},
		{mat(0, 4, 1, 0), 5, 1, 2, moveResult{1, 2, true}},
		{mat(0, 4, 1, 0), 5, 1, 1, moveResult{1, 4, true}},
		{mat(0, 4, 1, 0), 5, 0, 2, moveResult{1, 0, true}},
		{mat(0, 4, 1, 0), 5, 2, 0, moveResult{0, 1, true}},
		{mat(2, 1, 1, 1), 4, 1, 0, moveResult{2, 1, true}},
		{mat(2, 1, 1, 1), 4, 2, 3, moveResult{1, 3, true}},
		{mat(0, 11, 1, 0), 12, 2, 3, moveResult{3, 2, true}},
		{mat(0, 11, 1, 0), 12, 8, 9, moveResult{3, 4, true}},
		// Pairs that are no points.
		{unit, 4, 2, 2, moveResult{}},
		{unit, 4, 0, 0, moveResult{}},
		{unit, 4, 4, 1, moveResult{}},
		{unit, 4, 1, 4, moveResult{}},
		{unit, 4, 1, -1, moveResult{}},
		// Matrices that are no even rest matrices.
		{mat(1, 4, 0, 1), 4, 1, 0, moveResult{}},
		{mat(1, -1, 0, 1), 4, 1, 0, moveResult{}},
		{mat(0, 1, 1, 0), 4, 1, 0, moveResult{}},
		{mat(1, 1, 0, 1), 1, 0, 0, moveResult{}},
		{mat(1, 1, 0, 1), 13, 1, 0, moveResult{}},
	} {
		wantPoint(t, "RestMove", gotMove(impl.RestMove(c.m, c.n, c.x, c.y)), c.want)
	}
}

func TestPromise39(t *testing.T) {
	moved := 0
	for n := 2; n <= 12; n++ {
		table := pointTable(n)
		even, _ := restMats(n)
		for i, m := range even {
			mirror := rawRests(mustMirror(t, m), n)
			for p, first := range table {
				if n > 6 && (i+p[0]+p[1])%5 != 0 {
					continue
				}
				x, y, ok := impl.RestMove(m, n, p[0], p[1])
				if !first.ok {
					wantPoint(t, "RestMove", moveResult{x, y, ok}, moveResult{})
					continue
				}
				moved++
				u, v := rawMove(m, p[0], p[1])
				wantPoint(t, "RestMove", moveResult{x, y, ok}, table[[2]int{u % n, v % n}])
				wantPoint(t, "RestMove by the mirror", gotMove(impl.RestMove(mirror, n, x, y)), first)
				wantPoint(t, "RestPoint", gotMove(impl.RestPoint(n, p[0], p[1])), first)
			}
		}
	}
	if moved < 50000 {
		t.Fatalf("only %d points are moved", moved)
	}
}

func TestRestOrbitsValues(t *testing.T) {
	for _, c := range []struct {
		m    impl.Mat
		n    int
		want []int
	}{
		{unit, 2, []int{1, 1, 1}},
		{mat(1, 1, 0, 1), 2, []int{1, 2}},
		{mat(0, 1, 1, 0), 2, []int{1, 2}},
		{mat(0, 1, 1, 1), 2, []int{3}},
		{unit, 3, []int{1, 1, 1, 1}},
		{mat(2, 0, 0, 2), 3, []int{1, 1, 1, 1}},
		{mat(0, 2, 1, 0), 3, []int{2, 2}},
		{mat(1, 1, 0, 1), 4, []int{1, 1, 4}},
		{mat(1, 2, 0, 1), 4, []int{1, 1, 2, 2}},
		{mat(1, 1, 0, 1), 5, []int{1, 5}},
		{mat(0, 4, 1, 0), 5, []int{1, 1, 2, 2}},
		{mat(1, 1, 0, 1), 6, []int{1, 2, 3, 6}},
		{mat(1, 1, 0, 1), 12, []int{1, 1, 3, 3, 4, 12}},
		{unit, 12, slices.Repeat([]int{1}, 24)},
		{mat(7, 0, 0, 7), 12, slices.Repeat([]int{1}, 24)},
	} {
		wantOrbits(t, c.m, c.n, c.want, true)
	}
	wantOrbits(t, mat(1, 1, 1, 1), 2, nil, false)
	wantOrbits(t, mat(1, 5, 0, 1), 5, nil, false)
	wantOrbits(t, mat(1, -4, 0, 1), 5, nil, false)
	wantOrbits(t, unit, 1, nil, false)
	wantOrbits(t, unit, 13, nil, false)
	wantOrbits(t, unit, -5, nil, false)
}

func TestPromise40(t *testing.T) {
	tables := map[int]map[[2]int]moveResult{}
	for n := 2; n <= 12; n++ {
		tables[n] = pointTable(n)
	}
	eachRestMat(func(m impl.Mat, n int) {
		wantOrbits(t, m, n, plainOrbits(m, n, tables[n]), true)
		list, _ := impl.RestOrbits(m, n)
		order, _ := impl.RestOrder(m, n)
		sum := 0
		for _, k := range list {
			sum += k
			if k < 1 || order%k != 0 {
				t.Fatalf("RestOrbits of %v by %d returned %v, RestOrder %d", m, n, list, order)
			}
		}
		if points, ok := impl.RestPoints(n); !ok || sum != points || !slices.IsSorted(list) {
			t.Fatalf("RestOrbits of %v by %d returned %v for %d points", m, n, list, points)
		}
	})
}

func TestRestLiftValues(t *testing.T) {
	for n := 2; n <= 12; n++ {
		wantMat(t, "RestLift", gotMat(impl.RestLift(unit, n)), matResult{unit, true})
		wantMat(t, "RestLift", gotMat(impl.RestLift(mat(1, n-1, 0, 1), n)), matResult{mat(1, n-1, 0, 1), true})
	}
	for _, c := range []struct {
		m    impl.Mat
		n    int
		want matResult
	}{
		{mat(0, 1, 1, 1), 2, matResult{mat(2, 1, 1, 1), true}},
		{mat(1, 1, 1, 0), 2, matResult{mat(1, 1, 1, 2), true}},
		// Numbers greater than the modulus.
		{mat(0, 1, 1, 0), 2, matResult{mat(2, 1, 3, 2), true}},
		{mat(0, 1, 2, 0), 3, matResult{mat(3, 1, 8, 3), true}},
		{mat(0, 1, 4, 0), 5, matResult{mat(5, 1, 24, 5), true}},
		{mat(0, 1, 5, 0), 6, matResult{mat(6, 7, 5, 6), true}},
		{mat(0, 1, 9, 3), 10, matResult{mat(10, 1, 29, 3), true}},
		{mat(0, 1, 9, 2), 10, matResult{mat(10, 1, 19, 2), true}},
		{mat(0, 1, 10, 10), 11, matResult{mat(11, 23, 10, 21), true}},
		{mat(0, 1, 11, 0), 12, matResult{mat(12, 13, 11, 12), true}},
		{mat(0, 1, 11, 6), 12, matResult{mat(24, 13, 11, 6), true}},
		// No even matrix up to 30 has these rests.
		{mat(6, 0, 0, 6), 7, matResult{}},
		{mat(3, 0, 0, 3), 8, matResult{}},
		{mat(0, 1, 8, 4), 9, matResult{}},
		{mat(0, 1, 9, 4), 10, matResult{}},
		{mat(11, 0, 0, 11), 12, matResult{}},
		// No even rest matrices.
		{mat(1, 1, 1, 1), 2, matResult{}},
		{mat(1, 2, 0, 1), 2, matResult{}},
		{mat(2, 1, 1, 1), 2, matResult{}},
		{mat(0, -1, 1, 0), 5, matResult{}},
		{mat(0, 1, 1, 0), 5, matResult{}},
		{unit, 1, matResult{}},
		{unit, 13, matResult{}},
		{unit, -2, matResult{}},
	} {
		wantMat(t, "RestLift", gotMat(impl.RestLift(c.m, c.n)), c.want)
	}
}

func TestPromise41(t *testing.T) {
	tables := map[int]map[impl.Mat]impl.Mat{}
	for n := 2; n <= 12; n++ {
		tables[n] = liftTable(n)
	}
	greater, none := 0, 0
	eachRestMat(func(m impl.Mat, n int) {
		want, wantOk := tables[n][m]
		l, ok := impl.RestLift(m, n)
		wantMat(t, "RestLift", matResult{l, ok}, matResult{want, wantOk})
		if !ok {
			none++
			return
		}
		if max(l.A, l.B, l.C, l.D) > n {
			greater++
		}
		if !impl.MatEven(l) || min(l.A, l.B, l.C, l.D) < 0 || max(l.A, l.B, l.C, l.D) > 30 {
			t.Fatalf("RestLift of %v by %d returned %v", m, n, l)
		}
		wantMat(t, "RestOf", gotMat(impl.RestOf(l, n)), matResult{m, true})
	})
	if greater < 2000 || none < 1000 {
		t.Fatalf("%d lifted matrices have numbers greater than the modulus, %d are none", greater, none)
	}
}

// A result is new memory: what is done to it is not seen by the next call.
func TestOrbitsAreNew(t *testing.T) {
	for _, n := range []int{12, 2, 7, 12} {
		m := mat(1, 1, 0, 1)
		first, _ := impl.RestOrbits(m, n)
		want := slices.Clone(first)
		for i := range first[:cap(first)] {
			first[:cap(first)][i] = -77
		}
		wantOrbits(t, m, n, want, true)
	}
}

// Calls at the same time do not see each other.
func TestModulusAtTheSameTime(t *testing.T) {
	var group sync.WaitGroup
	for i := range 200 {
		group.Add(1)
		go func() {
			defer group.Done()
			n := 2 + i%11
			if k, ok := impl.RestPoints(n); !ok || k != restPoints[n-2] {
				t.Errorf("RestPoints of %d returned %d, %v", n, k, ok)
			}
			want := slices.Repeat([]int{1}, restPoints[n-2])
			if list, ok := impl.RestOrbits(unit, n); !ok || !slices.Equal(list, want) {
				t.Errorf("RestOrbits of the unit by %d returned %v, %v", n, list, ok)
			}
		}()
	}
	group.Wait()
}

// No goroutine is left behind. A joined one may need a moment more to be gone.
func TestNoGoroutineIsLeft(t *testing.T) {
	before := runtime.NumGoroutine()
	for i := range 100 {
		impl.RestPoints(i % 14)
		impl.RestOrbits(mat(1, 1, 0, 1), i%14)
	}
	for range 1000 {
		if runtime.NumGoroutine() <= before {
			return
		}
		time.Sleep(time.Millisecond)
	}
	t.Fatalf("there were %d goroutines, and there are %d", before, runtime.NumGoroutine())
}
