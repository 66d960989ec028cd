package tests

import (
	"math"
	"slices"
	"testing"

	"loop.example/tworows/impl"
)

// signless is x without its sign.
func signless(x int) int {
	if x < 0 {
		return -x
	}
	return x
}

// divisorOf is the greatest number that divides all of some numbers, 0 of zeros alone.
func divisorOf(numbers ...int) int {
	g := 0
	for _, x := range numbers {
		for x = signless(x); x != 0; {
			g, x = x, g%x
		}
	}
	return g
}

// rawIndex is the index of the lattice of a matrix, 0 if it has none.
func rawIndex(m impl.Mat) int {
	return signless(rawDet(m))
}

// plainHas tells whether some whole numbers times both rows of a matrix, with a
// determinant that is not 0, add up to a pair: they are found by dividing.
func plainHas(m impl.Mat, x, y int) bool {
	d := rawDet(m)
	return (x*m.D-y*m.C)%d == 0 && (y*m.A-x*m.B)%d == 0
}

// plainLatticeHas is what LatticeHas reports.
func plainLatticeHas(m impl.Mat, x, y int) bool {
	numbers := rawIn(mat(x, y, 0, 0))
	return rawIn(m) && rawIndex(m) >= 1 && rawIndex(m) <= top && numbers && plainHas(m, x, y)
}

// rawForm is the matrix in row form of a matrix with any numbers: of all
// numbers that B may be, the one that makes a pair of the lattice of the first row.
func rawForm(m impl.Mat) impl.Mat {
	a := divisorOf(m.A, m.C)
	for b := range rawIndex(m) / a {
		if plainHas(m, a, b) {
			return mat(a, b, 0, rawIndex(m)/a)
		}
	}
	panic("no pair begins with the divisor")
}

// plainForm is what LatticeForm returns.
func plainForm(m impl.Mat) matResult {
	if !rawIn(m) || rawIndex(m) < 1 || rawIndex(m) > top {
		return matResult{}
	}
	return matResult{rawForm(m), true}
}

// areas is the greatest number that divides the determinants of all two of some rows.
func areas(rows [][2]int) int {
	g := 0
	for i, p := range rows {
		for _, q := range rows[:i] {
			g = divisorOf(g, p[0]*q[1]-p[1]*q[0])
		}
	}
	return g
}

// rawJoin is the matrix in row form of the lattice of all rows of two matrices
// with any numbers. Its index divides the determinants of all two of them, and
// a pair that leaves the greatest such divisor as it is is in the lattice.
func rawJoin(m, n impl.Mat) impl.Mat {
	rows := [][2]int{{m.A, m.B}, {m.C, m.D}, {n.A, n.B}, {n.C, n.D}}
	a, index := divisorOf(m.A, m.C, n.A, n.C), areas(rows)
	for b := range index / a {
		if areas(append(rows, [2]int{a, b})) == index {
			return mat(a, b, 0, index/a)
		}
	}
	panic("no pair begins with the divisor")
}

// both tells whether the lattices of two matrices have a pair.
func both(m, n impl.Mat, x, y int) bool {
	return plainHas(m, x, y) && plainHas(n, x, y)
}

// rawMeet is the matrix in row form of the pairs that the lattices of two
// matrices have in common. Of the pairs that numbers less than the index of the
// second one make of the rows of the first one, those that the second one has
// are counted: as rare as they are, so much greater is the index.
func rawMeet(m, n impl.Mat) impl.Mat {
	common, size := 0, rawIndex(n)
	for u := range size {
		for v := range size {
			if plainHas(n, u*m.A+v*m.C, u*m.B+v*m.D) {
				common++
			}
		}
	}
	d := 1
	for !both(m, n, 0, d) {
		d++
	}
	a := rawIndex(m) * size * size / common / d
	for b := range d {
		if both(m, n, a, b) {
			return mat(a, b, 0, d)
		}
	}
	panic("no pair begins with the index over the divisor")
}

// plainOfTwo is what LatticeMeet or LatticeJoin returns, made by one of both above.
func plainOfTwo(m, n impl.Mat, made func(m, n impl.Mat) impl.Mat) matResult {
	for _, x := range []impl.Mat{m, n} {
		if !rawIn(x) || rawIndex(x) < 1 || rawIndex(x) > 100 {
			return matResult{}
		}
	}
	return matResult{made(m, n), true}
}

// rowForms returns all matrices in row form with an index from 1 to n.
func rowForms(n int) []impl.Mat {
	var list []impl.Mat
	for index := 1; index <= n; index++ {
		for a := 1; a <= index; a++ {
			for b := 0; index%a == 0 && b < index/a; b++ {
				list = append(list, mat(a, b, 0, index/a))
			}
		}
	}
	return list
}

// wholeRows returns matrices with the determinant 1 or -1, which make other rows
// for a lattice.
func wholeRows() []impl.Mat {
	return []impl.Mat{
		unit, mat(-1, 0, 0, 1), mat(1, 0, 0, -1), mat(-1, 0, 0, -1), mat(0, 1, 1, 0), mat(0, -1, 1, 0),
		mat(2, 1, 1, 1), mat(2, 1, -1, -1), mat(1, 5, 0, 1), mat(1, 0, -7, 1), mat(-3, 7, 2, -5), mat(89, 55, 55, 34), mat(-34, 55, 55, -89),
		mat(1000, 999, 1, 1), mat(0, 1, -1, 4321), mat(-12, -17, 17, 24),
	}
}

// edgeMats returns matrices whose determinants are near NumberMax, with either
// sign, or have a common divisor or zeros, or numbers at the limits.
func edgeMats() []impl.Mat {
	list := []impl.Mat{
		// The determinant NumberMax.
		mat(1000, 0, 0, 1000), mat(1000, 1, 0, 1000), mat(1000, 999, 0, 1000), mat(1, 0, 0, top), mat(top, 0, 0, 1), mat(1, top-1, 0, top),
		mat(1001, 1000, 1001, 1999), mat(1001, 1, 1000, 1000), mat(top, top-1, 1, 2), mat(500, 250, 1000, 2500),
		// One less and one more.
		mat(999, 0, 0, 1001), mat(999, 500, 0, 1001), mat(1000, 1, 1, 1000), mat(top-1, 0, 0, 1), mat(1, 7, 0, top-1), mat(3, 2, 0, 333333),
		mat(1000, 1, -1, 1000), mat(101, 0, 0, 9901), mat(101, 100, 0, 9901), mat(top, 1, -1, 1), mat(1, -1, top, 1),
		// Row form, and nearly so.
		mat(6, 3, 0, 4), mat(6, 4, 0, 4), mat(6, 5, 0, 4), mat(6, -1, 0, 4), mat(6, 3, 6, 4), mat(4, 3, 6, 9), mat(6, 4, 0, 10), mat(7, 0, 0, 1), mat(1, 0, 0, 7),
		mat(0, 5, 3, 4), mat(0, 5, 3, 0), mat(3, 5, 2, 0), mat(12, 18, 30, 6), mat(123, 0, 456, 3), mat(0, 17, 53, 1234),
		mat(1, top, 1, top-3), mat(top, 1, top, 2), mat(top, -top, top-1, 3-top), mat(999983, 524287, 131071, 68720), mat(999999, 999998, 999998, 999997),
	}
	for _, m := range slices.Clone(list) {
		list = append(list, mat(m.C, m.D, m.A, m.B), mat(-m.A, -m.B, m.C, m.D), mat(m.A, m.B, -m.C, -m.D), mat(-m.A, m.B, -m.C, m.D))
	}
	return list
}

// flatMats returns matrices with the determinant 0.
func flatMats() []impl.Mat {
	list := []impl.Mat{
		{}, mat(1, 2, 2, 4), mat(-3, 6, 4, -8), mat(6, 4, 9, 6), mat(top, top, top, top), mat(top, -top, -top, top), mat(1, 1, 1, 1),
		mat(1000, 1, top, 1000), mat(-top, 1000, 1000, -1), mat(12, 18, 20, 30), mat(999999, 333333, 3, 1),
	}
	for _, x := range []int{1, -1, 7, 12, -30, top, -top} {
		for _, y := range []int{0, 1, -1, 18, top, -top} {
			list = append(list, mat(x, y, 0, 0), mat(0, 0, x, y), mat(x, 0, y, 0), mat(0, x, 0, y), mat(x, y, x, y), mat(x, y, -x, -y), mat(x, x, y, y))
		}
	}
	return list
}

// latticeMats returns the matrices on which the promises are tried.
func latticeMats() []impl.Mat {
	list := slices.Concat(sampleMats(), edgeMats(), flatMats())
	for i, form := range rowForms(40) {
		for j, x := range wholeRows() {
			if m := rawTimes(x, form); (i+j)%5 == 0 && rawIn(m) {
				list = append(list, m)
			}
		}
	}
	return list
}

// fewLattices returns matrices whose lattices have indexes from 1 to n, with
// all kinds of row forms and other rows.
func fewLattices(n, step int) []impl.Mat {
	var list []impl.Mat
	for i, form := range rowForms(n) {
		if i%step == 0 {
			x := wholeRows()[(i/step)%len(wholeRows())]
			list = append(list, rawTimes(x, form))
		}
	}
	return list
}

// wantDouble checks what LatticeDouble returns.
func wantDouble(t *testing.T, m impl.Mat, want moveResult) {
	t.Helper()
	if got := gotMove(impl.LatticeDouble(m)); got != want {
		t.Fatalf("LatticeDouble of %v returned %v, want %v", m, got, want)
	}
}

// wantHas checks what LatticeHas reports.
func wantHas(t *testing.T, m impl.Mat, x, y int, want bool) {
	t.Helper()
	if impl.LatticeHas(m, x, y) != want {
		t.Fatalf("LatticeHas of %v and %d, %d is %v", m, x, y, !want)
	}
}

// wantLatticeSame checks what LatticeSame reports of two matrices, in both orders.
func wantLatticeSame(t *testing.T, m, n impl.Mat, want bool) {
	t.Helper()
	if impl.LatticeSame(m, n) != want || impl.LatticeSame(n, m) != want {
		t.Fatalf("LatticeSame of %v and %v is %v, exchanged %v, want %v", m, n, impl.LatticeSame(m, n), impl.LatticeSame(n, m), want)
	}
}

// wantRows checks that the lattice of a matrix has both rows of another one.
func wantRows(t *testing.T, m, rows impl.Mat) {
	t.Helper()
	wantHas(t, m, rows.A, rows.B, true)
	wantHas(t, m, rows.C, rows.D, true)
}

// wantNoLattice checks that nothing is told of the lattice of a matrix.
func wantNoLattice(t *testing.T, m impl.Mat) {
	t.Helper()
	fail := matResult{}
	wantMat(t, "LatticeForm", gotMat(impl.LatticeForm(m)), fail)
	for _, n := range []impl.Mat{m, unit, {}, mat(2, 1, 0, 2)} {
		wantLatticeSame(t, m, n, false)
	}
	for _, p := range [][2]int{{0, 0}, {1, 0}, {0, 1}, {m.A, m.B}, {m.C, m.D}, {top, -top}} {
		wantHas(t, m, p[0], p[1], false)
	}
	wantNoSmallLattice(t, m)
}

// wantNoSmallLattice checks that a matrix has neither a meet nor a join.
func wantNoSmallLattice(t *testing.T, m impl.Mat) {
	t.Helper()
	fail := matResult{}
	for _, n := range []impl.Mat{m, unit, {}, mat(2, 1, 0, 2), mat(100, 0, 0, 1)} {
		wantMat(t, "LatticeMeet", gotMat(impl.LatticeMeet(m, n)), fail)
		wantMat(t, "LatticeMeet", gotMat(impl.LatticeMeet(n, m)), fail)
		wantMat(t, "LatticeJoin", gotMat(impl.LatticeJoin(m, n)), fail)
		wantMat(t, "LatticeJoin", gotMat(impl.LatticeJoin(n, m)), fail)
	}
}

// What is no matrix has no lattice and no double form.
func TestNoMatrixHasNoLattice(t *testing.T) {
	for _, m := range noMats() {
		wantNoLattice(t, m)
		wantDouble(t, m, moveResult{})
	}
}

// With the determinant 0 there is no lattice, but a double form.
func TestDeterminantZero(t *testing.T) {
	for _, m := range flatMats() {
		if rawDet(m) != 0 {
			t.Fatalf("the determinant of %v is %d", m, rawDet(m))
		}
		wantNoLattice(t, m)
		wantDouble(t, m, moveResult{divisorOf(m.A, m.B, m.C, m.D), 0, true})
	}
}

func TestLatticeFormValues(t *testing.T) {
	for _, c := range []struct {
		m    impl.Mat
		want matResult
	}{
		{unit, matResult{unit, true}},
		{mat(-1, 0, 0, -1), matResult{unit, true}},
		{mat(0, 1, 1, 0), matResult{unit, true}},
		{mat(2, 1, 1, 1), matResult{unit, true}},
		{mat(top, top-1, 1, 1), matResult{unit, true}},
		{mat(1, 2, 3, 4), matResult{mat(1, 0, 0, 2), true}},
		{mat(3, 4, 1, 2), matResult{mat(1, 0, 0, 2), true}},
		{mat(3, 5, 7, 2), matResult{mat(1, 21, 0, 29), true}},
		{mat(4, 1, 6, 2), matResult{mat(2, 0, 0, 1), true}},
		{mat(6, 4, 9, 7), matResult{mat(3, 1, 0, 2), true}},
		{mat(6, 3, 6, 4), matResult{mat(6, 0, 0, 1), true}},
		// C is 0, but B or the signs are not as in row form.
		{mat(2, 0, 0, 3), matResult{mat(2, 0, 0, 3), true}},
		{mat(2, 1, 0, 3), matResult{mat(2, 1, 0, 3), true}},
		{mat(2, 2, 0, 3), matResult{mat(2, 2, 0, 3), true}},
		{mat(2, 3, 0, 3), matResult{mat(2, 0, 0, 3), true}},
		{mat(2, -1, 0, 3), matResult{mat(2, 2, 0, 3), true}},
		{mat(-2, -1, 0, 3), matResult{mat(2, 1, 0, 3), true}},
		{mat(-2, 1, 0, -3), matResult{mat(2, 2, 0, 3), true}},
		{mat(2, 7, 0, -3), matResult{mat(2, 1, 0, 3), true}},
		{mat(1, top, 0, 1), matResult{unit, true}},
		{mat(-1, top, 0, 7), matResult{mat(1, 6, 0, 7), true}},
		// Another number that is 0.
		{mat(0, 3, 2, 1), matResult{mat(2, 1, 0, 3), true}},
		{mat(0, -3, 2, 0), matResult{mat(2, 0, 0, 3), true}},
		{mat(2, 0, 2, 3), matResult{mat(2, 0, 0, 3), true}},
		{mat(2, 3, 4, 0), matResult{mat(2, 3, 0, 6), true}},
		// A divisor of all numbers.
		{mat(4, 6, 8, 2), matResult{mat(4, 6, 0, 10), true}},
		{mat(-10, 15, 5, 20), matResult{mat(5, 20, 0, 55), true}},
		{mat(-7, 0, 0, 7), matResult{mat(7, 0, 0, 7), true}},
		// The determinant is NumberMax, one less and one more, with either sign.
		{mat(1000, 1, 0, 1000), matResult{mat(1000, 1, 0, 1000), true}},
		{mat(0, 1000, 1000, 1), matResult{mat(1000, 1, 0, 1000), true}},
		{mat(1, -1, 0, top), matResult{mat(1, top-1, 0, top), true}},
		{mat(top, 0, 0, -1), matResult{mat(top, 0, 0, 1), true}},
		{mat(top, -top, top-1, 2-top), matResult{mat(1, top-2, 0, top), true}},
		{mat(1000, 1, 1, 1000), matResult{mat(1, 1000, 0, top-1), true}},
		{mat(1, 1000, 1000, 1), matResult{mat(1, 1000, 0, top-1), true}},
		{mat(1000, 1, -1, 1000), matResult{}},
		{mat(1, 1000, 1000, -1), matResult{}},
		{mat(101, 0, 0, 9901), matResult{}},
		{mat(-9901, 0, 0, 101), matResult{}},
		{mat(top, 0, 0, 2), matResult{}},
		{mat(top, 0, 0, top), matResult{}},
		{mat(top, -top, -top, -top), matResult{}},
		// No determinant, and no matrices.
		{mat(1, 2, 2, 4), matResult{}},
		{mat(5, 7, 0, 0), matResult{}},
		{mat(top, top, top, top), matResult{}},
		{impl.Mat{}, matResult{}},
		{mat(1, top+1, 0, 1), matResult{}},
		{mat(1, 0, -top-1, 1), matResult{}},
	} {
		wantMat(t, "LatticeForm", gotMat(impl.LatticeForm(c.m)), c.want)
	}
}

// isRowForm tells a matrix in row form.
func isRowForm(m impl.Mat) bool {
	return m.C == 0 && m.A >= 1 && m.D >= 1 && m.B >= 0 && m.B < m.D
}

func TestPromise42(t *testing.T) {
	made := 0
	for _, m := range latticeMats() {
		form, ok := impl.LatticeForm(m)
		wantMat(t, "LatticeForm", matResult{form, ok}, plainForm(m))
		if !ok {
			continue
		}
		made++
		wantMat(t, "LatticeForm of a form", gotMat(impl.LatticeForm(form)), matResult{form, true})
		if !isRowForm(form) || mustDet(t, form) != rawIndex(m) {
			t.Fatalf("LatticeForm of %v returned %v", m, form)
		}
		wantRows(t, form, m)
		wantRows(t, m, form)
	}
	if made < 3000 {
		t.Fatalf("only %d matrices have a form", made)
	}
}

// Whatever whole matrix makes other rows of a matrix in row form, it leads back.
func TestLatticeFormOfOtherRows(t *testing.T) {
	for _, form := range rowForms(60) {
		for _, x := range wholeRows() {
			m := rawTimes(x, form)
			wantMat(t, "LatticeForm", gotMat(impl.LatticeForm(m)), matResult{form, true})
		}
	}
}

func TestPromise43(t *testing.T) {
	made := 0
	for _, m := range latticeMats() {
		_, formed := impl.LatticeForm(m)
		n, ok := impl.MatTimes(mat(2, 1, 1, 1), m)
		if !ok {
			continue
		}
		wantLatticeSame(t, m, n, formed)
		if formed {
			made++
		}
	}
	if made < 3000 {
		t.Fatalf("only %d matrices have a form", made)
	}
}

func TestLatticeSameValues(t *testing.T) {
	for _, c := range []struct {
		m, n impl.Mat
		want bool
	}{
		{unit, unit, true},
		{unit, mat(0, 1, 1, 0), true},
		{unit, mat(top, top-1, 1, 1), true},
		{mat(2, 1, 0, 3), mat(-2, 2, 4, -1), true},
		{mat(2, 1, 0, 3), mat(0, -3, 2, 4), true},
		{mat(1000, 0, 0, 1000), mat(0, -1000, 1000, 1000), true},
		{mat(1, 2, 3, 4), mat(3, 4, 1, 2), true},
		// Other lattices with the same index, or with a part in common.
		{mat(2, 1, 0, 3), mat(2, 2, 0, 3), false},
		{mat(2, 1, 0, 3), mat(3, 1, 0, 2), false},
		{mat(2, 0, 0, 3), mat(3, 0, 0, 2), false},
		{mat(1, 0, 0, 2), mat(2, 0, 0, 1), false},
		{unit, mat(2, 0, 0, 1), false},
		{mat(2, 0, 0, 2), unit, false},
		{mat(1000, 0, 0, 1000), mat(1000, 1, 0, 1000), false},
		// Without a determinant, or with one that is too great, none is the same as itself.
		{impl.Mat{}, impl.Mat{}, false},
		{mat(1, 2, 2, 4), mat(1, 2, 2, 4), false},
		{mat(1, 2, 0, 0), mat(1, 2, 0, 0), false},
		{mat(1000, 1, -1, 1000), mat(1000, 1, -1, 1000), false},
		{mat(top, 0, 0, top), mat(top, 0, 0, top), false},
		{mat(top, 0, 0, 2), unit, false},
		{mat(top+1, 0, 0, 1), mat(top+1, 0, 0, 1), false},
	} {
		wantLatticeSame(t, c.m, c.n, c.want)
	}
}

func TestPromise44(t *testing.T) {
	list := slices.Concat(fewLattices(12, 1), fewLattices(12, 3), edgeMats(), flatMats(), noMats()[:20])
	forms := make([]matResult, len(list))
	for i, m := range list {
		forms[i] = plainForm(m)
	}
	same := 0
	for i, m := range list {
		for j, n := range list {
			want := forms[i].ok && forms[i] == forms[j]
			wantLatticeSame(t, m, n, want)
			if want && i != j {
				same++
				wantRows(t, m, n)
			}
		}
	}
	if same < 500 {
		t.Fatalf("only %d pairs have the same lattice", same)
	}
}

func TestLatticeHasValues(t *testing.T) {
	m := mat(2, 1, 0, 3)
	for _, c := range []struct {
		m    impl.Mat
		x, y int
		want bool
	}{
		{m, 0, 0, true},
		{m, 2, 1, true},
		{m, 0, 3, true},
		{m, 4, 2, true},
		{m, 4, 5, true},
		{m, 4, -1, true},
		{m, -2, -1, true},
		{m, -2, 2, true},
		{m, 0, -3, true},
		{m, 2, 2, false},
		{m, 2, 0, false},
		{m, 1, 0, false},
		{m, -1, -1, false},
		{m, 0, 1, false},
		{m, -2, 1, false},
		{m, 0, top, false},
		{m, 0, top - 1, true},
		{m, 0, 1 - top, true},
		{m, top, 500000, true},
		{m, top, -top, true},
		{m, -top, top, true},
		{m, -top, -top, false},
		{m, top, 0, false},
		{m, 1 - top, 0, false},
		{unit, top, top, true},
		{unit, -top, 0, true},
		{unit, 0, -top, true},
		{unit, top + 1, 0, false},
		{unit, 0, top + 1, false},
		{unit, -top - 1, 5, false},
		{unit, 5, -top - 1, false},
		{unit, top + 1, top + 1, false},
		{unit, math.MaxInt, 0, false},
		{unit, 0, math.MaxInt, false},
		{unit, math.MinInt, 0, false},
		{unit, 0, math.MinInt, false},
		{mat(1, top-1, 0, top), top, 0, true},
		{mat(1, top-1, 0, top), -top, top, true},
		{mat(1, top-1, 0, top), top - 1, 1, true},
		{mat(1, top-1, 0, top), top - 1, 2, false},
		{mat(top, top-1, 1, 1), top, -top, true},
		// The rows themselves, where LatticeForm fails.
		{mat(1000, 1, -1, 1000), 1000, 1, false},
		{mat(1000, 1, -1, 1000), 0, 0, false},
		{mat(top, 0, 0, top), top, 0, false},
		{mat(1, 2, 2, 4), 1, 2, false},
		{impl.Mat{}, 0, 0, false},
		{mat(1, top+1, 0, 1), 0, 0, false},
	} {
		wantHas(t, c.m, c.x, c.y, c.want)
	}
}

// The pairs that a lattice has are those that numbers make of its rows.
func TestLatticeHasSums(t *testing.T) {
	for _, m := range smallMats() {
		if rawDet(m) == 0 {
			continue
		}
		sums := map[[2]int]bool{}
		for u := -16; u <= 16; u++ {
			for v := -16; v <= 16; v++ {
				sums[[2]int{u*m.A + v*m.C, u*m.B + v*m.D}] = true
			}
		}
		for x := -4; x <= 4; x++ {
			for y := -4; y <= 4; y++ {
				wantHas(t, m, x, y, sums[[2]int{x, y}])
			}
		}
	}
}

// halfPairs returns pairs with numbers from -500000 to 500000: sums of the rows
// of a matrix, pairs near to these, and others.
func halfPairs(m impl.Mat) [][2]int {
	list := [][2]int{{0, 0}, {1, 0}, {0, 1}, {12, -60}, {500000, 500000}, {-500000, 0}, {0, -500000}, {499999, -500000}, {360360, 55440}}
	for u := -3; u <= 3; u++ {
		for v := -2; v <= 4; v++ {
			x, y := u*m.A+v*m.C, u*m.B+v*m.D
			list = append(list, [2]int{x, y}, [2]int{x, y + 1}, [2]int{x - 1, y})
		}
	}
	return slices.DeleteFunc(list, func(p [2]int) bool { return signless(p[0]) > 500000 || signless(p[1]) > 500000 })
}

func TestPromise45(t *testing.T) {
	held := 0
	for _, m := range latticeMats() {
		for _, p := range halfPairs(m) {
			x, y := p[0], p[1]
			has := plainLatticeHas(m, x, y)
			wantHas(t, m, x, y, has)
			wantHas(t, m, -x, -y, has)
			if has {
				held++
				wantHas(t, m, 2*x, 2*y, true)
			}
		}
	}
	if held < 50000 {
		t.Fatalf("only %d pairs are had", held)
	}
}

// wantLatticeAll checks what LatticeAll returns.
func wantLatticeAll(t *testing.T, n int, want []impl.Mat, wantOk bool) {
	t.Helper()
	got, ok := impl.LatticeAll(n)
	if !slices.Equal(got, want) || ok != wantOk {
		t.Fatalf("LatticeAll of %d returned %v, %v, want %v, %v", n, got, ok, want, wantOk)
	}
}

func TestLatticeAllValues(t *testing.T) {
	wantLatticeAll(t, 1, []impl.Mat{unit}, true)
	wantLatticeAll(t, 2, []impl.Mat{mat(1, 0, 0, 2), mat(1, 1, 0, 2), mat(2, 0, 0, 1)}, true)
	wantLatticeAll(t, 3, []impl.Mat{mat(1, 0, 0, 3), mat(1, 1, 0, 3), mat(1, 2, 0, 3), mat(3, 0, 0, 1)}, true)
	wantLatticeAll(t, 4, []impl.Mat{
		mat(1, 0, 0, 4), mat(1, 1, 0, 4), mat(1, 2, 0, 4), mat(1, 3, 0, 4),
		mat(2, 0, 0, 2), mat(2, 1, 0, 2), mat(4, 0, 0, 1)}, true)
	wantLatticeAll(t, 6, []impl.Mat{
		mat(1, 0, 0, 6), mat(1, 1, 0, 6), mat(1, 2, 0, 6), mat(1, 3, 0, 6), mat(1, 4, 0, 6), mat(1, 5, 0, 6),
		mat(2, 0, 0, 3), mat(2, 1, 0, 3), mat(2, 2, 0, 3), mat(3, 0, 0, 2), mat(3, 1, 0, 2), mat(6, 0, 0, 1)}, true)
	for _, n := range []int{0, -1, -2, -4, -60, -61, 61, 62, 100, top, -top, 1 << 32, 1<<32 + 5, math.MaxInt, math.MinInt} {
		wantLatticeAll(t, n, nil, false)
	}
	for n, count := range map[int]int{16: 31, 25: 31, 36: 91, 47: 48, 48: 124, 49: 57, 53: 54, 58: 90, 59: 60, 60: 168} {
		if list, ok := impl.LatticeAll(n); !ok || len(list) != count {
			t.Errorf("LatticeAll of %d returned %d matrices, %v", n, len(list), ok)
		}
	}
}

func TestPromise46(t *testing.T) {
	for n := 1; n <= 60; n++ {
		list, ok := impl.LatticeAll(n)
		sum := 0
		for d := 1; d <= n; d++ {
			if n%d == 0 {
				sum += d
			}
		}
		if !ok || len(list) != sum {
			t.Fatalf("LatticeAll of %d returned %d matrices, %v, want %d", n, len(list), ok, sum)
		}
		for i, m := range list {
			wantMat(t, "LatticeForm", gotMat(impl.LatticeForm(m)), matResult{m, true})
			if !isRowForm(m) || mustDet(t, m) != n {
				t.Fatalf("LatticeAll of %d has %v", n, m)
			}
			if i > 0 && (m.A < list[i-1].A || m.A == list[i-1].A && m.B <= list[i-1].B) {
				t.Fatalf("LatticeAll of %d has %v behind %v", n, m, list[i-1])
			}
		}
	}
}

// The forms of all matrices with an index are those that LatticeAll returns.
func TestLatticeAllOfMats(t *testing.T) {
	const limit = 10
	forms := map[impl.Mat]bool{}
	for a := range limit + 1 {
		for b := range limit + 1 {
			for c := range limit + 1 {
				for d := range limit + 1 {
					if m := mat(a, b, c, d); rawIndex(m) >= 1 && rawIndex(m) <= limit {
						forms[rawForm(m)] = true
					}
				}
			}
		}
	}
	for n := 1; n <= limit; n++ {
		list, _ := impl.LatticeAll(n)
		for _, m := range list {
			if !forms[m] {
				t.Fatalf("LatticeAll of %d has %v", n, m)
			}
			delete(forms, m)
		}
	}
	if len(forms) > 0 {
		t.Fatalf("LatticeAll does not have %v", forms)
	}
}

func TestLatticeDoubleValues(t *testing.T) {
	for _, c := range []struct {
		m    impl.Mat
		want moveResult
	}{
		{unit, moveResult{1, 1, true}},
		{mat(2, 4, 6, 8), moveResult{2, 4, true}},
		{mat(1, 2, 3, 4), moveResult{1, 2, true}},
		{mat(2, 0, 0, 3), moveResult{1, 6, true}},
		{mat(4, 0, 0, 6), moveResult{2, 12, true}},
		{mat(-4, 0, 0, 6), moveResult{2, 12, true}},
		{mat(0, -6, 4, 0), moveResult{2, 12, true}},
		{mat(5, 0, 0, 5), moveResult{5, 5, true}},
		{mat(-5, 0, 0, -5), moveResult{5, 5, true}},
		{mat(5, 5, 0, 5), moveResult{5, 5, true}},
		{mat(5, 1, 0, 5), moveResult{1, 25, true}},
		{mat(12, 18, 30, 6), moveResult{6, 78, true}},
		{mat(-12, -18, -30, -6), moveResult{6, 78, true}},
		// The determinant 0.
		{impl.Mat{}, moveResult{0, 0, true}},
		{mat(7, 0, 0, 0), moveResult{7, 0, true}},
		{mat(0, -7, 0, 0), moveResult{7, 0, true}},
		{mat(0, 0, 12, 18), moveResult{6, 0, true}},
		{mat(6, 0, -9, 0), moveResult{3, 0, true}},
		{mat(1, 2, 2, 4), moveResult{1, 0, true}},
		{mat(-6, -6, 6, 6), moveResult{6, 0, true}},
		{mat(top, top, top, top), moveResult{top, 0, true}},
		{mat(0, 0, 0, -top), moveResult{top, 0, true}},
		{mat(top, top-1, 0, 0), moveResult{1, 0, true}},
		// Determinants greater than NumberMax, with and without numbers that are.
		{mat(top, 0, 0, top), moveResult{top, top, true}},
		{mat(top, -top, top, top), moveResult{}},
		{mat(top, 0, 0, 1), moveResult{1, top, true}},
		{mat(top, 0, 0, 2), moveResult{2, top, true}},
		{mat(top, 0, 0, 3), moveResult{}},
		{mat(1000, 1, 0, 1000), moveResult{1, top, true}},
		{mat(1000, 1, 0, -1000), moveResult{1, top, true}},
		{mat(1000, 1, 1, 1000), moveResult{1, top - 1, true}},
		{mat(1000, 1, -1, 1000), moveResult{}},
		{mat(1, 1000, 1000, -1), moveResult{}},
		{mat(101, 0, 0, 9901), moveResult{}},
		{mat(2000, 2, -2, 2000), moveResult{}},
		{mat(2000, 0, 0, 2000), moveResult{2000, 2000, true}},
		{mat(500000, 0, 500000, 500000), moveResult{500000, 500000, true}},
		{mat(top, 1, 0, top), moveResult{}},
		{mat(top, -top, -top, -top), moveResult{}},
		{mat(999999, 0, 0, 3), moveResult{3, 999999, true}},
		// No matrices.
		{mat(top+1, 0, 0, 0), moveResult{}},
		{mat(0, 0, 0, -top-1), moveResult{}},
		{mat(math.MinInt, 0, 0, 0), moveResult{}},
	} {
		wantDouble(t, c.m, c.want)
	}
}

// plainDouble is what LatticeDouble returns for an index of at least 1 that is
// not too great: the second number is the least one by which both units of
// pairs are to be multiplied to be in the lattice.
func plainDouble(m impl.Mat) moveResult {
	n := 1
	for !plainHas(m, n, 0) || !plainHas(m, 0, n) {
		n++
	}
	return moveResult{rawIndex(m) / n, n, true}
}

func TestPromise47(t *testing.T) {
	failed := 0
	for _, m := range latticeMats() {
		s, n, ok := impl.LatticeDouble(m)
		wantDouble(t, mustTurned(t, m), moveResult{s, n, ok})
		if rawIndex(m) >= 1 && rawIndex(m) <= 10000 {
			wantDouble(t, m, plainDouble(m))
		}
		divisor := divisorOf(m.A, m.B, m.C, m.D)
		if !ok {
			failed++
			wantDouble(t, m, moveResult{})
			if rawIndex(m) <= divisor*top {
				t.Fatalf("LatticeDouble of %v failed", m)
			}
			continue
		}
		if s != divisor || n < 0 || n > top || s*n != rawIndex(m) {
			t.Fatalf("LatticeDouble of %v returned %d and %d", m, s, n)
		}
		if s == 0 && n != 0 || s > 0 && n%s != 0 {
			t.Fatalf("LatticeDouble of %v returned %d, which does not divide %d", m, s, n)
		}
	}
	if failed < 20 {
		t.Fatalf("only %d double forms have a number that is too great", failed)
	}
}

func TestLatticeMeetAndLatticeJoinValues(t *testing.T) {
	for _, c := range []struct{ m, n, meet, join impl.Mat }{
		{unit, unit, unit, unit},
		{unit, mat(10, 7, 0, 10), mat(10, 7, 0, 10), unit},
		{mat(2, 0, 0, 1), mat(3, 0, 0, 1), mat(6, 0, 0, 1), unit},
		{mat(1, 0, 0, 2), mat(1, 0, 0, 3), mat(1, 0, 0, 6), unit},
		{mat(1, 0, 0, 2), mat(1, 0, 0, 4), mat(1, 0, 0, 4), mat(1, 0, 0, 2)},
		{mat(1, 1, 0, 2), mat(1, 0, 0, 2), mat(2, 0, 0, 2), unit},
		{mat(2, 0, 0, 2), mat(2, 1, 0, 2), mat(4, 0, 0, 2), mat(2, 0, 0, 1)},
		{mat(2, 1, 0, 3), mat(-2, 2, 4, -1), mat(2, 1, 0, 3), mat(2, 1, 0, 3)},
		{mat(4, 0, 0, 6), mat(6, 0, 0, 4), mat(12, 0, 0, 12), mat(2, 0, 0, 2)},
		// The indexes 100 and 99, with a common divisor and without one.
		{mat(1, 0, 0, 100), mat(100, 0, 0, 1), mat(100, 0, 0, 100), unit},
		{mat(1, 0, 0, 100), mat(1, 1, 0, 100), mat(100, 0, 0, 100), unit},
		{mat(1, 0, 0, 100), mat(1, 10, 0, 100), mat(10, 0, 0, 100), mat(1, 0, 0, 10)},
		{mat(10, 0, 0, 10), mat(10, 5, 0, 10), mat(20, 0, 0, 10), mat(10, 0, 0, 5)},
		{mat(10, 0, 0, -10), mat(0, 10, 10, 0), mat(10, 0, 0, 10), mat(10, 0, 0, 10)},
		{mat(1, 0, 0, 99), mat(1, 0, 0, 100), mat(1, 0, 0, 9900), unit},
		{mat(1, 3, 0, 99), mat(1, 5, 0, 100), mat(1, 9705, 0, 9900), unit},
		{mat(99, 0, 0, 1), mat(100, 0, 0, 1), mat(9900, 0, 0, 1), unit},
		{unit, mat(-100, 0, 0, 1), mat(100, 0, 0, 1), unit},
		{mat(top, top-1, 1, 1), mat(1, 1, -50, 50), mat(1, 1, 0, 100), unit},
	} {
		wantMat(t, "LatticeMeet", gotMat(impl.LatticeMeet(c.m, c.n)), matResult{c.meet, true})
		wantMat(t, "LatticeMeet", gotMat(impl.LatticeMeet(c.n, c.m)), matResult{c.meet, true})
		wantMat(t, "LatticeJoin", gotMat(impl.LatticeJoin(c.m, c.n)), matResult{c.join, true})
		wantMat(t, "LatticeJoin", gotMat(impl.LatticeJoin(c.n, c.m)), matResult{c.join, true})
	}
}

// Lattices with indexes greater than 100 have a form, but neither meet nor join.
func TestNoSmallLattice(t *testing.T) {
	for _, m := range []impl.Mat{
		mat(1, 0, 0, 101), mat(101, 0, 0, 1), mat(-101, 0, 0, 1), mat(1, 50, 0, 101), mat(0, 101, 1, 0), mat(10, 1, -1, 10), mat(10, 1, 1, -10),
		mat(2, 0, 0, 51), mat(11, 0, 0, 11), mat(1, 0, 0, 1000), mat(1000, 0, 0, 1000), mat(1, 0, 0, top), mat(top, 0, 0, -1),
	} {
		if !plainForm(m).ok {
			t.Fatalf("%v has no form", m)
		}
		wantNoSmallLattice(t, m)
	}
	for _, m := range []impl.Mat{mat(1000, 1, -1, 1000), mat(top, 0, 0, top), mat(top, 0, 0, 2)} {
		wantNoSmallLattice(t, m)
	}
}

// latticePairs visits two lattices with indexes from 1 to 100 at a time, given
// by all kinds of rows.
func latticePairs(visit func(m, n impl.Mat)) {
	list := append(fewLattices(100, 173), unit, mat(1, 0, 0, 100), mat(0, 100, -1, 0), mat(10, 0, 0, 10), mat(10, -1, 0, 10), mat(3, 5, -19, 1))
	for _, m := range list {
		for _, n := range list {
			visit(m, n)
		}
	}
	for i, m := range fewLattices(6, 1) {
		for j, n := range fewLattices(12, 2) {
			if (i+j)%2 == 0 {
				visit(m, n)
			}
		}
	}
}

func TestPromise48(t *testing.T) {
	common, coprime := 0, 0
	latticePairs(func(m, n impl.Mat) {
		meet, ok := impl.LatticeMeet(m, n)
		wantMat(t, "LatticeMeet", matResult{meet, ok}, plainOfTwo(m, n, rawMeet))
		wantMat(t, "LatticeMeet", gotMat(impl.LatticeMeet(n, m)), matResult{meet, true})
		wantRows(t, m, meet)
		wantRows(t, n, meet)
		join, ok := impl.LatticeJoin(m, n)
		if !ok || !isRowForm(meet) || mustDet(t, meet)*mustDet(t, join) != rawIndex(m)*rawIndex(n) {
			t.Fatalf("LatticeMeet of %v and %v returned %v, LatticeJoin %v, %v", m, n, meet, join, ok)
		}
		if divisorOf(rawDet(m), rawDet(n)) > 1 {
			common++
		} else {
			coprime++
		}
	})
	if common < 1000 || coprime < 1000 {
		t.Fatalf("%d pairs of indexes have a common divisor, %d have none", common, coprime)
	}
}

func TestPromise49(t *testing.T) {
	latticePairs(func(m, n impl.Mat) {
		join, ok := impl.LatticeJoin(m, n)
		wantMat(t, "LatticeJoin", matResult{join, ok}, plainOfTwo(m, n, rawJoin))
		wantMat(t, "LatticeJoin", gotMat(impl.LatticeJoin(n, m)), matResult{join, true})
		wantRows(t, join, m)
		wantRows(t, join, n)
	})
}

// All matrices that are tried, in pairs: meet and join fail exactly for those
// whose lattices are none, or have too great an index.
func TestMeetAndJoinOfSamples(t *testing.T) {
	list := slices.Concat(smallMats(), greatMats(), edgeMats())
	for i, m := range list {
		for j := i % 17; j < len(list); j += 17 {
			n := list[j]
			wantMat(t, "LatticeMeet", gotMat(impl.LatticeMeet(m, n)), plainOfTwo(m, n, rawMeet))
			wantMat(t, "LatticeJoin", gotMat(impl.LatticeJoin(m, n)), plainOfTwo(m, n, rawJoin))
		}
	}
}

// A result is new memory: what is done to it is not seen by the next call.
func TestLatticesAreNew(t *testing.T) {
	for _, n := range []int{1, 12, 60, 12} {
		first, _ := impl.LatticeAll(n)
		want := slices.Clone(first)
		for i := range first[:cap(first)] {
			first[:cap(first)][i] = mat(-7, -7, -7, -7)
		}
		wantLatticeAll(t, n, want, true)
	}
}
