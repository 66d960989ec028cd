package tests

import (
	"math"
	"slices"
	"testing"

	"loop.example/tworows/impl"
)

// far is the greatest number of a pair.
const far = 10000

// pair builds a pair from its numbers.
func pair(x, y int) impl.Pair {
	return impl.Pair{X: x, Y: y}
}

// baseResult is what ShortBase returns.
type baseResult struct {
	p, q impl.Pair
	ok   bool
}

func gotBase(p, q impl.Pair, ok bool) baseResult {
	return baseResult{p, q, ok}
}

func wantBase(t *testing.T, p, q impl.Pair, want baseResult) {
	t.Helper()
	if got := gotBase(impl.ShortBase(p, q)); got != want {
		t.Fatalf("ShortBase of %v and %v returned %v, want %v", p, q, got, want)
	}
}

// gcdResult is what ShortGcd returns.
type gcdResult struct {
	g, u, v int
	ok      bool
}

func gotGcd(g, u, v int, ok bool) gcdResult {
	return gcdResult{g, u, v, ok}
}

func wantGcd(t *testing.T, p impl.Pair, want gcdResult) {
	t.Helper()
	if got := gotGcd(impl.ShortGcd(p)); got != want {
		t.Fatalf("ShortGcd of %v returned %v, want %v", p, got, want)
	}
}

// wantShort checks what ShortIs reports.
func wantShort(t *testing.T, p, q impl.Pair, want bool) {
	t.Helper()
	if impl.ShortIs(p, q) != want {
		t.Fatalf("ShortIs of %v and %v is %v", p, q, !want)
	}
}

func wantLeast(t *testing.T, p, q impl.Pair, want numberResult) {
	t.Helper()
	if got := gotNumber(impl.ShortLeast(p, q)); got != want {
		t.Fatalf("ShortLeast of %v and %v returned %v, want %v", p, q, got, want)
	}
}

func wantFull(t *testing.T, p impl.Pair, want matResult) {
	t.Helper()
	if got := gotMat(impl.ShortFull(p)); got != want {
		t.Fatalf("ShortFull of %v returned %v, want %v", p, got, want)
	}
}

func wantArea(t *testing.T, list []impl.Pair, want moveResult) {
	t.Helper()
	if got := gotMove(impl.ShortArea(list)); got != want {
		t.Fatalf("ShortArea of %v returned %v, want %v", list, got, want)
	}
}

// rowsOf returns the matrix with two pairs as its rows.
func rowsOf(p, q impl.Pair) impl.Mat {
	return mat(p.X, p.Y, q.X, q.Y)
}

// plainPairIn tells a pair by its limits.
func plainPairIn(p impl.Pair) bool {
	for _, x := range [2]int{p.X, p.Y} {
		if x < -10000 || x > 10000 {
			return false
		}
	}
	return true
}

// plainIsBase tells a base.
func plainIsBase(p, q impl.Pair) bool {
	return plainPairIn(p) && plainPairIn(q) && rawDet(rowsOf(p, q)) != 0
}

// rawLength is the length of a pair: the determinant of it and of it turned by a right angle.
func rawLength(p impl.Pair) int {
	return rawDet(mat(p.X, p.Y, -p.Y, p.X))
}

// rawProduct is the product of two pairs, told by the lengths of both and of their sum.
func rawProduct(p, q impl.Pair) int {
	return (rawLength(pair(p.X+q.X, p.Y+q.Y)) - rawLength(p) - rawLength(q)) / 2
}

// rawShortened is the short base that comes from a base, and may have numbers
// beyond those of a pair: the whole number is found by rounding floats, which
// have room for all the numbers here.
func rawShortened(p, q impl.Pair) (impl.Pair, impl.Pair) {
	for {
		if rawLength(q) < rawLength(p) {
			p, q = q, p
		}
		k := int(math.Floor(float64(2*rawProduct(p, q)+rawLength(p)) / float64(2*rawLength(p))))
		q = pair(q.X-k*p.X, q.Y-k*p.Y)
		if rawLength(q) >= rawLength(p) {
			return p, q
		}
	}
}

// plainBase is what ShortBase returns.
func plainBase(p, q impl.Pair) baseResult {
	if !plainIsBase(p, q) {
		return baseResult{}
	}
	p, q = rawShortened(p, q)
	if !plainPairIn(p) || !plainPairIn(q) {
		return baseResult{}
	}
	return baseResult{p, q, true}
}

// plainShort is what ShortIs reports: neither the sum nor the difference is
// less long than the second pair, and this is not less long than the first one.
func plainShort(p, q impl.Pair) bool {
	if !plainIsBase(p, q) || rawLength(q) < rawLength(p) {
		return false
	}
	sum, difference := pair(p.X+q.X, p.Y+q.Y), pair(p.X-q.X, p.Y-q.Y)
	return rawLength(sum) >= rawLength(q) && rawLength(difference) >= rawLength(q)
}

// plainLeast is the least length of two numbers from -n to n in the lattice of a
// base that are not 0, 0.
func plainLeast(p, q impl.Pair, n int) int {
	least := math.MaxInt
	for x := range n + 1 {
		for y := -n; y <= n; y++ {
			if (x != 0 || y != 0) && plainHas(rowsOf(p, q), x, y) {
				least = min(least, rawLength(pair(x, y)))
			}
		}
	}
	return least
}

// plainGcd is what ShortGcd returns. Each row has a number and how often both
// numbers of the pair are in it.
func plainGcd(p impl.Pair) gcdResult {
	if !plainPairIn(p) {
		return gcdResult{}
	}
	row, next := [3]int{p.X, 1, 0}, [3]int{p.Y, 0, 1}
	for next[0] != 0 {
		k := int(math.Trunc(float64(row[0]) / float64(next[0])))
		for i := range 3 {
			row[i], next[i] = next[i], row[i]-k*next[i]
		}
	}
	if row[0] < 0 {
		row = [3]int{-row[0], -row[1], -row[2]}
	}
	return gcdResult{row[0], row[1], row[2], true}
}

// plainPrime is what ShortPrime returns for n from 1 on: all pairs, less those
// that a prime divides, and again those that two primes divide, and so on.
func plainPrime(n int) int {
	count := 0
	for d := 1; d <= n; d++ {
		sign, product := 1, 1
		for _, p := range primesOf(d) {
			sign, product = -sign, product*p
		}
		if product == d {
			count += sign * (n / d) * (n / d)
		}
	}
	return count
}

// plainFull is what ShortFull returns: D is tried from 0 on.
func plainFull(p impl.Pair) matResult {
	if !plainPairIn(p) || divisorOf(p.X, p.Y) != 1 {
		return matResult{}
	}
	if p.Y == 0 {
		return matResult{mat(p.X, 0, 0, p.X), true}
	}
	d := 0
	for (p.X*d-1)%p.Y != 0 {
		d++
	}
	return matResult{mat(p.X, p.Y, (p.X*d-1)/p.Y, d), true}
}

// onEdge counts the whole pairs on the way from one pair to another one, the first one left out.
func onEdge(p, q impl.Pair) int {
	x, y := q.X-p.X, q.Y-p.Y
	n := max(signless(x), signless(y))
	count := 0
	for k := 1; k <= n; k++ {
		if k*x%n == 0 && k*y%n == 0 {
			count++
		}
	}
	return count
}

// plainShortArea is what ShortArea returns: each edge has a part of the area between itself and one line.
func plainShortArea(list []impl.Pair) moveResult {
	if len(list) < 3 || len(list) > 10 || slices.ContainsFunc(list, func(p impl.Pair) bool { return !plainPairIn(p) }) {
		return moveResult{}
	}
	area, edges := 0, 0
	for i, p := range list {
		next := list[(i+1)%len(list)]
		area += (p.X - next.X) * (p.Y + next.Y)
		edges += onEdge(p, next)
	}
	return moveResult{signless(area), edges, true}
}

// smallPairs returns all pairs with numbers from -n to n.
func smallPairs(n int) []impl.Pair {
	var list []impl.Pair
	for x := -n; x <= n; x++ {
		for y := -n; y <= n; y++ {
			list = append(list, pair(x, y))
		}
	}
	return list
}

// greatPairs returns pairs with greater numbers, also at both limits, or with a number 0.
func greatPairs() []impl.Pair {
	var list []impl.Pair
	for _, p := range []impl.Pair{
		pair(far, 0), pair(far, 1), pair(far, far), pair(far, far-1), pair(far, 5000), pair(far-1, far-2), pair(far-1, 1), pair(far, 6180), pair(9941, 9973),
		pair(6000, 8000), pair(6000, 9000), pair(4500, 9900), pair(8660, 5000), pair(7071, 7071), pair(7000, 7142), pair(6765, 4181), pair(5741, 2378),
		pair(4096, 6561), pair(720, 5040), pair(1000, 999), pair(1000, 0), pair(1001, 77), pair(360, 84), pair(123, 456), pair(97, 0), pair(60, 7), pair(17, 12),
	} {
		list = append(list, p, pair(-p.X, p.Y), pair(p.Y, p.X), pair(-p.Y, -p.X))
	}
	for seed := range 40 {
		q := rulelessList(seed, 2, far)
		list = append(list, pair(q[0], q[1]))
	}
	return list
}

// samplePairs returns the pairs on which the promises are tried.
func samplePairs() []impl.Pair {
	return append(smallPairs(4), greatPairs()...)
}

// noPairs returns two numbers that are no pair: one of them or both are beyond.
func noPairs() []impl.Pair {
	var list []impl.Pair
	for _, x := range append(beyondNumbers(), far+1, -far-1, top, -top) {
		list = append(list, pair(x, 0), pair(0, x), pair(x, 1), pair(-1, x), pair(x, x), pair(x, far), pair(-far, x))
	}
	return list
}

// thinPairs returns bases made from two short pairs by matrices that make other
// rows of their lattice.
func thinPairs() [][2]impl.Pair {
	var list [][2]impl.Pair
	short := []impl.Mat{
		unit, mat(2, 1, 1, -2), mat(1, 0, 0, 7), mat(0, 3, 5, 1), mat(3, 0, 1, 4), mat(-1, 1, 1, 1), mat(2, 0, 1, 5), mat(2, 0, -1, 5), mat(7, -2, 3, 8), mat(12, 5, -5, 12),
	}
	for _, x := range wholeRows() {
		for _, m := range short {
			n := rawTimes(x, m)
			list = append(list, [2]impl.Pair{pair(n.A, n.B), pair(n.C, n.D)})
		}
	}
	return list
}

// twoPairs returns two pairs at a time, most of them bases.
func twoPairs() [][2]impl.Pair {
	list := thinPairs()
	for _, p := range smallPairs(3) {
		for _, q := range smallPairs(3) {
			list = append(list, [2]impl.Pair{p, q})
		}
	}
	great := samplePairs()
	for i, p := range great {
		for j := i % 3; j < len(great); j += 3 {
			list = append(list, [2]impl.Pair{p, great[j]})
		}
	}
	return list
}

// noBases returns two pairs at a time with the area 0.
func noBases() [][2]impl.Pair {
	list := [][2]impl.Pair{
		{pair(2, 4), pair(3, 6)}, {pair(-2, 4), pair(3, -6)}, {pair(5000, 2500), pair(far, 5000)}, {pair(far, -far), pair(-far, far)}, {pair(1, 1), pair(-far, -far)},
		{pair(0, 3), pair(0, -far)}, {pair(-7, 0), pair(far, 0)},
	}
	for _, p := range samplePairs() {
		list = append(list, [2]impl.Pair{p, p}, [2]impl.Pair{p, pair(-p.X, -p.Y)}, [2]impl.Pair{p, {}}, [2]impl.Pair{{}, p})
	}
	return list
}

// wantNoBase checks that two pairs have neither a short base nor a least length.
func wantNoBase(t *testing.T, p, q impl.Pair) {
	t.Helper()
	wantBase(t, p, q, baseResult{})
	wantShort(t, p, q, false)
	wantLeast(t, p, q, numberResult{})
}

// What is no pair has no result, wherever it stands.
func TestNoPair(t *testing.T) {
	for _, p := range noPairs() {
		wantNumber(t, "ShortLength", gotNumber(impl.ShortLength(p)), numberResult{})
		wantGcd(t, p, gcdResult{})
		wantFull(t, p, matResult{})
		for _, q := range []impl.Pair{pair(1, 0), pair(0, 1), pair(3, -2), pair(far, far), {}, p, noPairs()[0]} {
			wantNoBase(t, p, q)
			wantNoBase(t, q, p)
		}
		for n := 3; n <= 10; n++ {
			list := make([]impl.Pair, n)
			for i := range list {
				list[i] = p
				wantArea(t, list, moveResult{})
				list[i] = pair(i, i*i)
			}
			wantArea(t, list, plainShortArea(list))
		}
	}
}

// Two pairs with the area 0 are no base.
func TestNoBase(t *testing.T) {
	for _, b := range noBases() {
		wantNoBase(t, b[0], b[1])
	}
}

// The pair 0, 0 is one, but it is in no base, and in no even matrix.
func TestPairOfZeros(t *testing.T) {
	wantNumber(t, "ShortLength", gotNumber(impl.ShortLength(impl.Pair{})), numberResult{0, true})
	wantGcd(t, impl.Pair{}, gcdResult{0, 1, 0, true})
	wantFull(t, impl.Pair{}, matResult{})
	wantNoBase(t, impl.Pair{}, impl.Pair{})
	for n := 3; n <= 10; n++ {
		wantArea(t, make([]impl.Pair, n), moveResult{0, 0, true})
	}
}

// The numbers of points and of even rest matrices by a modulus lead to each other.
func TestPromise50(t *testing.T) {
	for n := -1; n <= 14; n++ {
		count, ok := impl.RestCount(n)
		points, pointsOk := impl.RestPoints(n)
		if ok != (n >= 2 && n <= 12) || pointsOk != ok {
			t.Fatalf("RestCount of %d is %v, RestPoints %v", n, ok, pointsOk)
		}
		if count != points*n*len(units(n)) {
			t.Fatalf("RestCount of %d returned %d, RestPoints %d", n, count, points)
		}
	}
	for n, want := range map[int]int{2: 6, 3: 24, 4: 48, 5: 120, 6: 144, 7: 336, 8: 384, 9: 648, 10: 720, 11: 1320, 12: 1152} {
		wantNumber(t, "RestCount", gotNumber(impl.RestCount(n)), numberResult{want, true})
	}
}

func TestShortLengthValues(t *testing.T) {
	for p, want := range map[impl.Pair]int{
		{}: 0, pair(1, 0): 1, pair(0, -1): 1, pair(1, 1): 2, pair(-2, 1): 5, pair(3, 4): 25, pair(-3, -4): 25,
		pair(far, 0): 100000000, pair(0, -far): 100000000, pair(far, far): 200000000, pair(-far, far): 200000000, pair(far, -9999): 199980001,
	} {
		wantNumber(t, "ShortLength", gotNumber(impl.ShortLength(p)), numberResult{want, true})
	}
}

func TestPromise51(t *testing.T) {
	for _, p := range samplePairs() {
		length, ok := impl.ShortLength(p)
		wantNumber(t, "ShortLength", numberResult{length, ok}, numberResult{rawLength(p), true})
		wantNumber(t, "ShortLength", gotNumber(impl.ShortLength(pair(p.Y, p.X))), numberResult{length, true})
		if (length == 0) != (p == impl.Pair{}) {
			t.Fatalf("ShortLength of %v returned %d", p, length)
		}
	}
}

func TestShortBaseValues(t *testing.T) {
	for _, c := range []struct{ p, q, first, second impl.Pair }{
		// Short at first, and not exchanged where both are equally long.
		{pair(1, 0), pair(0, 1), pair(1, 0), pair(0, 1)},
		{pair(0, 1), pair(1, 0), pair(0, 1), pair(1, 0)},
		{pair(2, 1), pair(1, -2), pair(2, 1), pair(1, -2)},
		{pair(-4, 3), pair(3, 4), pair(-4, 3), pair(3, 4)},
		{pair(3, 4), pair(-4, 3), pair(3, 4), pair(-4, 3)},
		// The second one is less long.
		{pair(0, 7), pair(1, 0), pair(1, 0), pair(0, 7)},
		{pair(3, 0), pair(0, -2), pair(0, -2), pair(3, 0)},
		{pair(far, 0), pair(0, 1), pair(0, 1), pair(far, 0)},
		// Some steps.
		{pair(-3, 4), pair(5, 0), pair(2, 4), pair(-5, 0)},
		{pair(5, 0), pair(7, 1), pair(2, 1), pair(1, -2)},
		{pair(7, 1), pair(5, 0), pair(2, 1), pair(1, -2)},
		{pair(1, 0), pair(7, 1), pair(1, 0), pair(0, 1)},
		{pair(1, 0), pair(-far, 1), pair(1, 0), pair(0, 1)},
		{pair(89, 55), pair(55, 34), pair(0, -1), pair(1, 0)},
		{pair(55, 34), pair(89, 55), pair(0, -1), pair(1, 0)},
		{pair(12, 0), pair(5, 1), pair(2, -2), pair(3, 3)},
		{pair(6, 8), pair(-3, 4), pair(-3, 4), pair(9, 4)},
		// Two whole numbers are equally near: 1/2, -1/2, 3/2, -3/2, and the like later on.
		{pair(2, 0), pair(1, 5), pair(2, 0), pair(-1, 5)},
		{pair(2, 0), pair(-1, 5), pair(2, 0), pair(-1, 5)},
		{pair(2, 0), pair(3, 5), pair(2, 0), pair(-1, 5)},
		{pair(2, 0), pair(-3, 5), pair(2, 0), pair(-1, 5)},
		{pair(-2, 0), pair(1, 5), pair(-2, 0), pair(1, 5)},
		{pair(-2, 0), pair(-1, 5), pair(-2, 0), pair(1, 5)},
		{pair(1, 1), pair(0, 9), pair(1, 1), pair(-5, 4)},
		{pair(1, 1), pair(0, -9), pair(1, 1), pair(4, -5)},
		{pair(2, 0), pair(1, 1), pair(1, 1), pair(1, -1)},
		{pair(2, 0), pair(-1, 1), pair(-1, 1), pair(1, 1)},
		{pair(1, 1), pair(2, 0), pair(1, 1), pair(1, -1)},
		// The numbers of a pair at the limits.
		{pair(far, far), pair(-far, far), pair(far, far), pair(-far, far)},
		{pair(far, 0), pair(5000, far), pair(far, 0), pair(-5000, far)},
		{pair(far, 0), pair(-5000, far), pair(far, 0), pair(-5000, far)},
		{pair(far, far-1), pair(far-1, far-2), pair(0, -1), pair(1, 0)},
		{pair(far, 0), pair(9999, 1), pair(1, -1), pair(5000, 5000)},
	} {
		wantBase(t, c.p, c.q, baseResult{c.first, c.second, true})
	}
}

// Bases whose short base has numbers beyond those of a pair.
func TestShortBaseBeyond(t *testing.T) {
	for _, c := range []struct {
		p, q, first, second impl.Pair
	}{
		// The second one is beyond.
		{pair(6000, -8000), pair(4500, far), pair(6000, -8000), pair(10500, 2000)},
		{pair(4500, far), pair(6000, -8000), pair(6000, -8000), pair(10500, 2000)},
		{pair(-8000, 6000), pair(far, 4500), pair(-8000, 6000), pair(2000, 10500)},
		// One beyond less long than the first one is exchanged with it.
		{pair(6000, 9000), pair(4500, -9900), pair(10500, -900), pair(6000, 9000)},
		{pair(4500, -9900), pair(6000, 9000), pair(10500, -900), pair(6000, 9000)},
		{pair(-9000, 6000), pair(9900, 4500), pair(900, 10500), pair(-9000, 6000)},
	} {
		first, second := rawShortened(c.p, c.q)
		if first != c.first || second != c.second {
			t.Fatalf("%v and %v lead to %v and %v", c.p, c.q, first, second)
		}
		wantBase(t, c.p, c.q, baseResult{})
		wantLeast(t, c.p, c.q, numberResult{rawLength(c.first), true})
	}
}

func TestPromise52(t *testing.T) {
	made, same, beyond := 0, 0, 0
	for _, b := range twoPairs() {
		p, q, ok := impl.ShortBase(b[0], b[1])
		wantBase(t, b[0], b[1], plainBase(b[0], b[1]))
		if !ok {
			if plainIsBase(b[0], b[1]) {
				beyond++
			}
			continue
		}
		made++
		wantShort(t, p, q, true)
		index := rawIndex(rowsOf(b[0], b[1]))
		if rawIndex(rowsOf(p, q)) != index || !plainHas(rowsOf(b[0], b[1]), p.X, p.Y) || !plainHas(rowsOf(b[0], b[1]), q.X, q.Y) {
			t.Fatalf("ShortBase of %v returned %v and %v", b, p, q)
		}
		if index <= 1000000 {
			same++
			wantLatticeSame(t, rowsOf(b[0], b[1]), rowsOf(p, q), true)
		}
	}
	if made < 5000 || same < 3000 || beyond < 10 {
		t.Fatalf("%d bases have a short one, %d are compared by the lattice, %d have none", made, same, beyond)
	}
}

// A short base leads to one with the same lengths, and to itself unless two
// whole numbers are equally near.
func TestShortBaseOfAShortOne(t *testing.T) {
	stay := 0
	for _, b := range twoPairs() {
		p, q, ok := impl.ShortBase(b[0], b[1])
		if !ok {
			continue
		}
		again := gotBase(impl.ShortBase(p, q))
		if !again.ok || again.p != p || rawLength(again.q) != rawLength(q) {
			t.Fatalf("ShortBase of %v and %v returned %v", p, q, again)
		}
		if again.q == q {
			stay++
		}
	}
	if stay < 5000 {
		t.Fatalf("only %d short bases stay", stay)
	}
}

func TestShortIsValues(t *testing.T) {
	for _, c := range []struct {
		p, q impl.Pair
		want bool
	}{
		{pair(1, 0), pair(0, 1), true},
		{pair(0, -1), pair(5, 0), true},
		{pair(5, 0), pair(0, -1), false},
		{pair(2, 1), pair(1, -2), true},
		// The product is just half of the length, with either sign, and beyond it.
		{pair(2, 0), pair(1, 5), true},
		{pair(2, 0), pair(-1, 5), true},
		{pair(2, 0), pair(2, 5), false},
		{pair(2, 0), pair(-2, 5), false},
		{pair(3, 0), pair(1, 5), true},
		{pair(3, 0), pair(2, 5), false},
		{pair(3, 0), pair(-2, 5), false},
		{pair(3, 0), pair(2, 2), false},
		{pair(1, 1), pair(1, 0), false},
		{pair(1, 0), pair(1, 1), false},
		{pair(1, 1), pair(1, -1), true},
		// The limits.
		{pair(far, 0), pair(0, far), true},
		{pair(far, 0), pair(5000, far), true},
		{pair(far, 0), pair(5001, far), false},
		{pair(far, far), pair(far, -far), true},
		{pair(far, far), pair(-far, 9999), false},
		{pair(9999, far), pair(-far, far), true},
		{pair(far, 0), pair(0, far+1), false},
		{pair(far, 0), pair(0, -far-1), false},
		{pair(1, 0), pair(0, math.MaxInt), false},
		{pair(1, 0), pair(0, math.MinInt), false},
		// The area 0.
		{impl.Pair{}, impl.Pair{}, false},
		{impl.Pair{}, pair(1, 0), false},
		{pair(1, 0), impl.Pair{}, false},
		{pair(1, 0), pair(2, 0), false},
		{pair(1, 2), pair(1, 2), false},
	} {
		wantShort(t, c.p, c.q, c.want)
	}
}

// wantShortFirst checks that the least length is that of the first pair of a
// short base, and that the area is not too small for it.
func wantShortFirst(t *testing.T, p, q impl.Pair) {
	t.Helper()
	wantLeast(t, p, q, numberResult{rawLength(p), true})
	area := rawIndex(rowsOf(p, q))
	if 3*rawLength(p)*rawLength(p) > 4*area*area {
		t.Fatalf("ShortIs holds for %v and %v with the area %d", p, q, area)
	}
}

func TestPromise53(t *testing.T) {
	short := 0
	for _, b := range twoPairs() {
		wantShort(t, b[0], b[1], plainShort(b[0], b[1]))
		if impl.ShortIs(b[0], b[1]) {
			short++
			wantShortFirst(t, b[0], b[1])
		}
		if p, q, ok := impl.ShortBase(b[0], b[1]); ok {
			wantShortFirst(t, p, q)
		}
	}
	if short < 1000 {
		t.Fatalf("only %d bases are short", short)
	}
}

func TestShortLeastValues(t *testing.T) {
	for _, c := range []struct {
		p, q impl.Pair
		want int
	}{
		{pair(1, 0), pair(0, 1), 1},
		{pair(89, 55), pair(55, 34), 1},
		{pair(2, 0), pair(1, 1), 2},
		{pair(5, 0), pair(7, 1), 5},
		{pair(7, 1), pair(5, 0), 5},
		{pair(3, 0), pair(0, 2), 4},
		{pair(12, 0), pair(5, 1), 8},
		{pair(6, 8), pair(-3, 4), 25},
		{pair(far, far), pair(-far, far), 200000000},
		{pair(far, 0), pair(0, far), 100000000},
		{pair(far, far-1), pair(far-1, far-2), 1},
		{pair(far, 0), pair(9999, 1), 2},
	} {
		wantLeast(t, c.p, c.q, numberResult{c.want, true})
	}
}

func TestPromise54(t *testing.T) {
	made, beyond, tried := 0, 0, 0
	for _, b := range twoPairs() {
		least, ok := impl.ShortLeast(b[0], b[1])
		if ok != plainIsBase(b[0], b[1]) {
			t.Fatalf("ShortLeast of %v is %v", b, ok)
		}
		if !ok {
			wantLeast(t, b[0], b[1], numberResult{})
			continue
		}
		made++
		first, _ := rawShortened(b[0], b[1])
		wantLeast(t, b[0], b[1], numberResult{rawLength(first), true})
		wantLeast(t, b[1], b[0], numberResult{least, true})
		sum, difference := pair(b[0].X+b[1].X, b[0].Y+b[1].Y), pair(b[0].X-b[1].X, b[0].Y-b[1].Y)
		if least < 1 || least > min(rawLength(b[0]), rawLength(b[1]), rawLength(sum), rawLength(difference)) {
			t.Fatalf("ShortLeast of %v returned %d", b, least)
		}
		if !gotBase(impl.ShortBase(b[0], b[1])).ok {
			beyond++
		}
		if n := int(math.Sqrt(float64(min(rawLength(b[0]), rawLength(b[1]))))); n <= 60 {
			tried++
			wantLeast(t, b[0], b[1], numberResult{plainLeast(b[0], b[1], n), true})
		}
	}
	if made < 5000 || beyond < 10 || tried < 3000 {
		t.Fatalf("%d bases have a least length, %d without a short base, %d are tried", made, beyond, tried)
	}
}

func TestShortGcdValues(t *testing.T) {
	for _, c := range []struct {
		p       impl.Pair
		g, u, v int
	}{
		{pair(12, -18), 6, -1, -1},
		{pair(12, 18), 6, -1, 1},
		{pair(18, 12), 6, 1, -1},
		{pair(-12, 18), 6, 1, 1},
		{pair(-12, -18), 6, 1, -1},
		{pair(-18, 12), 6, -1, -1},
		// Nothing is divided.
		{impl.Pair{}, 0, 1, 0},
		{pair(5, 0), 5, 1, 0},
		{pair(-5, 0), 5, -1, 0},
		{pair(1, 0), 1, 1, 0},
		{pair(-1, 0), 1, -1, 0},
		{pair(far, 0), far, 1, 0},
		{pair(-far, 0), far, -1, 0},
		// Divided once.
		{pair(0, 5), 5, 0, 1},
		{pair(0, -5), 5, 0, -1},
		{pair(0, -far), far, 0, -1},
		{pair(7, 1), 1, 0, 1},
		{pair(7, -1), 1, 0, -1},
		{pair(5, 5), 5, 0, 1},
		{pair(5, -5), 5, 0, -1},
		{pair(-5, 5), 5, 0, 1},
		{pair(-10, -5), 5, 0, -1},
		{pair(far, far), far, 0, 1},
		{pair(-far, -far), far, 0, -1},
		// X is less than Y without their signs.
		{pair(1, 7), 1, 1, 0},
		{pair(-1, 7), 1, -1, 0},
		{pair(1, -7), 1, 1, 0},
		{pair(3, 7), 1, -2, 1},
		{pair(-3, 7), 1, 2, 1},
		{pair(3, -7), 1, -2, -1},
		{pair(5, 10), 5, 1, 0},
		{pair(-5, 10), 5, -1, 0},
		// Long ways.
		{pair(7, 3), 1, 1, -2},
		{pair(240, 46), 2, -9, 47},
		{pair(6765, 4181), 1, 1597, -2584},
		{pair(far, 9999), 1, 1, -1},
		{pair(-far, 9999), 1, -1, -1},
		{pair(9999, far), 1, -1, 1},
		{pair(9999, -far), 1, -1, -1},
	} {
		wantGcd(t, c.p, gcdResult{c.g, c.u, c.v, true})
	}
}

func TestPromise55(t *testing.T) {
	for _, p := range append(smallPairs(40), samplePairs()...) {
		g, u, v, ok := impl.ShortGcd(p)
		wantGcd(t, p, plainGcd(p))
		if !ok || u*p.X+v*p.Y != g || g != divisorOf(p.X, p.Y) {
			t.Fatalf("ShortGcd of %v returned %d, %d, %d", p, g, u, v)
		}
		if (g == 0) != (p == impl.Pair{}) || g != 0 && (p.X%g != 0 || p.Y%g != 0) {
			t.Fatalf("ShortGcd of %v returned %d", p, g)
		}
	}
}

func TestShortPrimeValues(t *testing.T) {
	for n, want := range map[int]int{1: 1, 2: 3, 3: 7, 4: 11, 5: 19, 6: 23, 7: 35, 8: 43, 9: 55, 10: 63, 20: 255, 50: 1547, 99: 6007, 100: 6087} {
		wantNumber(t, "ShortPrime", gotNumber(impl.ShortPrime(n)), numberResult{want, true})
	}
	for _, n := range []int{0, -1, -2, -100, 101, 102, 1000, top, 1 << 32, 1<<32 + 1, math.MaxInt, math.MinInt} {
		wantNumber(t, "ShortPrime", gotNumber(impl.ShortPrime(n)), numberResult{})
	}
}

func TestPromise56(t *testing.T) {
	for n := 1; n <= 100; n++ {
		count, ok := impl.ShortPrime(n)
		wantNumber(t, "ShortPrime", numberResult{count, ok}, numberResult{plainPrime(n), true})
		if count%2 != 1 || count > n*n || (count == n*n) != (n == 1) {
			t.Fatalf("ShortPrime of %d returned %d", n, count)
		}
		sum := 0
		for k := 1; k <= n; k++ {
			part, ok := impl.ShortPrime(n / k)
			if !ok {
				t.Fatalf("ShortPrime of %d failed", n/k)
			}
			sum += part
		}
		if sum != n*n {
			t.Fatalf("the sum for %d is %d", n, sum)
		}
	}
}

func TestShortFullValues(t *testing.T) {
	for _, c := range []struct {
		p    impl.Pair
		want matResult
	}{
		{pair(3, 2), matResult{mat(3, 2, 1, 1), true}},
		{pair(3, -2), matResult{mat(3, -2, -1, 1), true}},
		{pair(-3, 2), matResult{mat(-3, 2, -2, 1), true}},
		{pair(-3, -2), matResult{mat(-3, -2, 2, 1), true}},
		{pair(2, 5), matResult{mat(2, 5, 1, 3), true}},
		{pair(2, -5), matResult{mat(2, -5, -1, 3), true}},
		{pair(-2, 5), matResult{mat(-2, 5, -1, 2), true}},
		// Y is 0.
		{pair(1, 0), matResult{unit, true}},
		{pair(-1, 0), matResult{mat(-1, 0, 0, -1), true}},
		{impl.Pair{}, matResult{}},
		{pair(2, 0), matResult{}},
		{pair(-2, 0), matResult{}},
		{pair(far, 0), matResult{}},
		// Y is 1 or -1, so that D is 0.
		{pair(0, 1), matResult{mat(0, 1, -1, 0), true}},
		{pair(0, -1), matResult{mat(0, -1, 1, 0), true}},
		{pair(1, 1), matResult{mat(1, 1, -1, 0), true}},
		{pair(1, -1), matResult{mat(1, -1, 1, 0), true}},
		{pair(-1, 1), matResult{mat(-1, 1, -1, 0), true}},
		{pair(7, 1), matResult{mat(7, 1, -1, 0), true}},
		{pair(-7, -1), matResult{mat(-7, -1, 1, 0), true}},
		{pair(far, 1), matResult{mat(far, 1, -1, 0), true}},
		{pair(-far, -1), matResult{mat(-far, -1, 1, 0), true}},
		// X is 1 or -1, or 0.
		{pair(1, 7), matResult{mat(1, 7, 0, 1), true}},
		{pair(-1, 7), matResult{mat(-1, 7, -1, 6), true}},
		{pair(1, -7), matResult{mat(1, -7, 0, 1), true}},
		{pair(1, far), matResult{mat(1, far, 0, 1), true}},
		{pair(-1, far), matResult{mat(-1, far, -1, 9999), true}},
		{pair(0, 2), matResult{}},
		{pair(0, far), matResult{}},
		// A common divisor.
		{pair(2, 2), matResult{}},
		{pair(6, -9), matResult{}},
		{pair(-10, -15), matResult{}},
		{pair(far, far), matResult{}},
		{pair(far, 9998), matResult{}},
		{pair(far, 9999), matResult{mat(far, 9999, 1, 1), true}},
		{pair(9999, far), matResult{mat(9999, far, 9998, 9999), true}},
		{pair(9999, -far), matResult{mat(9999, -far, -9998, 9999), true}},
		// No pairs.
		{pair(far+1, 1), matResult{}},
		{pair(1, far+1), matResult{}},
		{pair(-far-1, 2), matResult{}},
		{pair(1, math.MinInt), matResult{}},
		{pair(math.MaxInt, 0), matResult{}},
	} {
		wantFull(t, c.p, c.want)
	}
}

func TestPromise57(t *testing.T) {
	made := 0
	for _, p := range append(smallPairs(40), samplePairs()...) {
		m, ok := impl.ShortFull(p)
		wantFull(t, p, plainFull(p))
		if !ok {
			continue
		}
		made++
		if !impl.MatEven(m) || m.A != p.X || m.B != p.Y {
			t.Fatalf("ShortFull of %v returned %v", p, m)
		}
		if p.Y != 0 && (m.D < 0 || m.D >= signless(p.Y)) {
			t.Fatalf("ShortFull of %v returned %v", p, m)
		}
	}
	if made < 3000 {
		t.Fatalf("only %d pairs have no common divisor", made)
	}
}

func TestShortAreaValues(t *testing.T) {
	for _, c := range []struct {
		list        []impl.Pair
		area, edges int
	}{
		{[]impl.Pair{pair(0, 0), pair(1, 0), pair(0, 1)}, 1, 3},
		{[]impl.Pair{pair(0, 0), pair(0, 1), pair(1, 0)}, 1, 3},
		{[]impl.Pair{pair(0, 0), pair(4, 0), pair(0, 6)}, 24, 12},
		{[]impl.Pair{pair(-3, -3), pair(-1, -3), pair(-1, -1), pair(-3, -1)}, 8, 8},
		{[]impl.Pair{pair(2, 1), pair(5, 7), pair(-4, 3)}, 42, 6},
		// The first one is next of the last one, with a part of the area and of the edges.
		{[]impl.Pair{pair(3, 0), pair(3, 3), pair(0, 3), pair(0, 0)}, 18, 12},
		{[]impl.Pair{pair(1, 1), pair(3, 1), pair(3, 9)}, 16, 12},
		// The same pair again, and all on one line.
		{[]impl.Pair{pair(7, 3), pair(7, 3), pair(7, 3)}, 0, 0},
		{[]impl.Pair{pair(0, 0), pair(0, 0), pair(4, 0), pair(4, 0), pair(0, 6), pair(0, 6)}, 24, 12},
		{[]impl.Pair{pair(0, 0), pair(6, 4), pair(3, 2)}, 0, 4},
		{[]impl.Pair{pair(0, 0), pair(2, 0), pair(0, 0), pair(2, 0)}, 0, 8},
		// An edge that meets others: what one part adds the other one takes off.
		{[]impl.Pair{pair(0, 0), pair(2, 2), pair(2, 0), pair(0, 2)}, 0, 8},
		{[]impl.Pair{pair(0, 0), pair(3, 3), pair(3, 0), pair(0, 1)}, 6, 8},
		// Round twice.
		{[]impl.Pair{pair(0, 0), pair(1, 0), pair(0, 1), pair(0, 0), pair(1, 0), pair(0, 1)}, 2, 6},
		// The limits, with differences that are beyond those of pairs.
		{[]impl.Pair{pair(far, far), pair(-far, far), pair(-far, -far), pair(far, -far)}, 800000000, 80000},
		{[]impl.Pair{pair(far, far), pair(far, -far), pair(-far, -far), pair(-far, far)}, 800000000, 80000},
		{[]impl.Pair{pair(far, far), pair(-far, -far), pair(far, -far)}, 400000000, 60000},
		{[]impl.Pair{pair(far, far), pair(-far, -far), pair(-9999, far)}, 400000000 - 20000, 20000 + 1 + 19999},
		// Ten pairs.
		{[]impl.Pair{pair(2, 0), pair(3, 0), pair(5, 1), pair(5, 2), pair(4, 4), pair(3, 5), pair(2, 5), pair(0, 4), pair(0, 3), pair(1, 1)}, 36, 10},
	} {
		wantArea(t, c.list, moveResult{c.area, c.edges, true})
		backwards := slices.Clone(c.list)
		slices.Reverse(backwards)
		wantArea(t, backwards, moveResult{c.area, c.edges, true})
	}
}

// listsOfPairs returns lists of 3 to 10 pairs: of numbers without a rule, small
// and great ones, and of some pairs that come again and again.
func listsOfPairs() [][]impl.Pair {
	var list [][]impl.Pair
	great := greatPairs()
	for n := 3; n <= 10; n++ {
		for seed := range 40 {
			q := rulelessList(seed, 2*n, 3+seed*seed*6)
			pairs := make([]impl.Pair, n)
			for i := range pairs {
				pairs[i] = pair(q[2*i], q[2*i+1])
			}
			list = append(list, pairs)
			again := slices.Clone(pairs)
			again[(seed+1)%n], again[n/2] = again[seed%n], great[seed]
			list = append(list, again)
		}
		for i := 0; i < len(great)-n; i += 20 {
			list = append(list, great[i:i+n])
		}
	}
	return list
}

// shifted returns pairs that are greater in X and in Y.
func shifted(list []impl.Pair, x, y int) []impl.Pair {
	made := make([]impl.Pair, len(list))
	for i, p := range list {
		made[i] = pair(p.X+x, p.Y+y)
	}
	return made
}

func TestPromise58(t *testing.T) {
	made, beyond := 0, 0
	for _, list := range listsOfPairs() {
		area, edges, ok := impl.ShortArea(list)
		wantArea(t, list, plainShortArea(list))
		if !ok {
			t.Fatalf("ShortArea of %v failed", list)
		}
		backwards := slices.Clone(list)
		slices.Reverse(backwards)
		wantArea(t, backwards, moveResult{area, edges, true})
		for _, by := range []impl.Pair{pair(1, 0), pair(0, 1), pair(-3, 2)} {
			other := shifted(list, by.X, by.Y)
			if slices.ContainsFunc(other, func(p impl.Pair) bool { return !plainPairIn(p) }) {
				beyond++
				wantArea(t, other, moveResult{})
			} else {
				made++
				wantArea(t, other, moveResult{area, edges, true})
			}
		}
		turnedRound := append(slices.Clone(list[1:]), list[0])
		wantArea(t, turnedRound, moveResult{area, edges, true})
	}
	if made < 1500 || beyond < 20 {
		t.Fatalf("%d lists are greater by some, %d are beyond then", made, beyond)
	}
}

// Lists that are too short or too long fail, whatever their pairs are.
func TestShortAreaOfOtherNumbers(t *testing.T) {
	wantArea(t, nil, moveResult{})
	for n := range 40 {
		list := make([]impl.Pair, n)
		for i := range list {
			list[i] = pair(i, i*i)
		}
		wantArea(t, list, plainShortArea(list))
		if ok := gotMove(impl.ShortArea(list)).ok; ok != (n >= 3 && n <= 10) {
			t.Fatalf("ShortArea of %d pairs is %v", n, ok)
		}
	}
}

// inside counts the whole pairs with numbers from -n to n inside of a triangle: all edges have them on one side.
func inside(list []impl.Pair, n int) int {
	count := 0
	for _, p := range smallPairs(n) {
		sides := map[bool]int{}
		for i, q := range list {
			next := list[(i+1)%len(list)]
			side := rawDet(mat(next.X-q.X, next.Y-q.Y, p.X-q.X, p.Y-q.Y))
			if side != 0 {
				sides[side > 0]++
			}
		}
		if sides[true] == len(list) || sides[false] == len(list) {
			count++
		}
	}
	return count
}

// Twice the area of a triangle is twice the number of the pairs inside, and
// that of the pairs on its edges less 2.
func TestShortAreaOfTriangles(t *testing.T) {
	small := smallPairs(2)
	for i, p := range small {
		for j, q := range small[:i] {
			for k := (i + j) % 4; k < j; k += 4 {
				list := []impl.Pair{p, q, small[k]}
				area, edges, ok := impl.ShortArea(list)
				if !ok || area > 0 && area != 2*inside(list, 2)+edges-2 {
					t.Fatalf("ShortArea of %v returned %d and %d", list, area, edges)
				}
			}
		}
	}
}

// The list that is given stays as it is, also behind its end.
func TestPairsAreNotChanged(t *testing.T) {
	for _, list := range listsOfPairs() {
		given := append(slices.Clone(list), greatPairs()[:3]...)
		want := slices.Clone(given)
		impl.ShortArea(given[:len(list)])
		if !slices.Equal(given, want) {
			t.Fatalf("ShortArea of %v left %v", want, given)
		}
	}
}
