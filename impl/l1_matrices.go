package impl

// NumberMax is the greatest number of a matrix.
const NumberMax = 1000000

// powerMax is the greatest exponent of a power, with either sign.
const powerMax = 50

// Mat has the rows A, B and C, D.
type Mat struct {
	A int
	B int
	C int
	D int
}

// MatIn reports whether four numbers are a matrix.
func MatIn(m Mat) bool {
	return m.in()
}

// MatTimes returns the product of two matrices, and true.
func MatTimes(m Mat, n Mat) (Mat, bool) {
	if !m.in() || !n.in() {
		return Mat{}, false
	}
	return m.times(n).checked()
}

// MatDet returns the determinant of a matrix, which may be beyond NumberMax, and true.
func MatDet(m Mat) (int, bool) {
	if !m.in() {
		return 0, false
	}
	return m.det(), true
}

// MatTrace returns the trace, which may be beyond NumberMax, and true.
func MatTrace(m Mat) (int, bool) {
	if !m.in() {
		return 0, false
	}
	return m.trace(), true
}

// MatTurned returns the matrix with B and C exchanged, and true.
func MatTurned(m Mat) (Mat, bool) {
	if !m.in() {
		return Mat{}, false
	}
	return m.turned(), true
}

// MatBack returns the matrix whose product with a whole matrix is the unit, and true.
func MatBack(m Mat) (Mat, bool) {
	if !m.in() || !m.whole() {
		return Mat{}, false
	}
	return m.back(), true
}

// MatPower returns the power of a matrix, k from -50 to 50, and true.
func MatPower(m Mat, k int) (Mat, bool) {
	if !m.in() || k < -powerMax || k > powerMax {
		return Mat{}, false
	}
	if k >= 0 {
		return m.power(k)
	}
	if !m.whole() {
		return Mat{}, false
	}
	return m.back().power(-k)
}

// MatMove returns both numbers A x + B y and C x + D y for x and y from -NumberMax to NumberMax, and true.
func MatMove(m Mat, x int, y int) (int, int, bool) {
	if !m.in() || !numberIn(x) || !numberIn(y) {
		return 0, 0, false
	}
	u, v := m.move(x, y)
	if !numberIn(u) || !numberIn(v) {
		return 0, 0, false
	}
	return u, v, true
}

// MatMirror returns the matrix with the rows D, -B and -C, A, and true.
func MatMirror(m Mat) (Mat, bool) {
	if !m.in() {
		return Mat{}, false
	}
	return m.mirror(), true
}

// MatEven reports whether a matrix is even.
func MatEven(m Mat) bool {
	return m.in() && m.even()
}

// unit returns the matrix that leaves each one it is multiplied with as it is.
func unit() Mat {
	return Mat{A: 1, D: 1}
}

// numberIn reports whether x may stand in a matrix.
func numberIn(x int) bool {
	return -NumberMax <= x && x <= NumberMax
}

// in reports whether the four numbers are a matrix. The other methods expect
// that they are: only then do their products fit into an int.
func (m Mat) in() bool {
	return numberIn(m.A) && numberIn(m.B) && numberIn(m.C) && numberIn(m.D)
}

// checked returns the four numbers and true if they are a matrix.
func (m Mat) checked() (Mat, bool) {
	if !m.in() {
		return Mat{}, false
	}
	return m, true
}

// times returns the product, which may be no matrix.
func (m Mat) times(n Mat) Mat {
	return Mat{
		A: m.A*n.A + m.B*n.C,
		B: m.A*n.B + m.B*n.D,
		C: m.C*n.A + m.D*n.C,
		D: m.C*n.B + m.D*n.D,
	}
}

// move returns both numbers to which x and y are moved, which may be beyond NumberMax.
func (m Mat) move(x int, y int) (int, int) {
	return m.A*x + m.B*y, m.C*x + m.D*y
}

func (m Mat) det() int {
	return m.A*m.D - m.B*m.C
}

func (m Mat) trace() int {
	return m.A + m.D
}

func (m Mat) turned() Mat {
	return Mat{A: m.A, B: m.C, C: m.B, D: m.D}
}

func (m Mat) mirror() Mat {
	return Mat{A: m.D, B: -m.B, C: -m.C, D: m.A}
}

func (m Mat) even() bool {
	return m.det() == 1
}

func (m Mat) whole() bool {
	return m.even() || m.det() == -1
}

// back returns the matrix whose product with m, which is whole, is the unit.
// The mirror gives the determinant instead, so its signs are those of the determinant.
func (m Mat) back() Mat {
	d, r := m.det(), m.mirror()
	return Mat{A: d * r.A, B: d * r.B, C: d * r.C, D: d * r.D}
}

// power returns the power of m by k, which is not negative, and true if each
// power from 0 to k is a matrix. It goes on by one factor at a time, because a
// power that is no matrix makes all later ones fail, even those that are one.
func (m Mat) power(k int) (Mat, bool) {
	p := unit()
powers:
	for range k {
		next := m.times(p)
		switch {
		case !next.in():
			return Mat{}, false
		case next == p:
			// All later powers are this one, too.
			break powers
		}
		p = next
	}
	return p, true
}
