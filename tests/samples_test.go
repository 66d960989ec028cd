package tests

import (
	"math"

	"loop.example/tworows/impl"
)

const top = impl.NumberMax

// unit is the unit matrix.
var unit = impl.Mat{A: 1, D: 1}

// mat builds a matrix from its numbers.
func mat(a, b, c, d int) impl.Mat {
	return impl.Mat{A: a, B: b, C: c, D: d}
}

// smallMats returns all matrices with numbers from -2 to 2.
func smallMats() []impl.Mat {
	var list []impl.Mat
	for a := -2; a <= 2; a++ {
		for b := -2; b <= 2; b++ {
			for c := -2; c <= 2; c++ {
				for d := -2; d <= 2; d++ {
					list = append(list, mat(a, b, c, d))
				}
			}
		}
	}
	return list
}

// greatMats returns matrices with greater numbers, also at both limits.
func greatMats() []impl.Mat {
	return []impl.Mat{
		mat(top, 0, 0, 0), mat(0, top, 0, 0), mat(0, 0, top, 0), mat(0, 0, 0, top),
		mat(-top, 0, 0, 0), mat(0, -top, 0, 0), mat(0, 0, -top, 0), mat(0, 0, 0, -top),
		mat(top, top, top, top), mat(-top, -top, -top, -top), mat(top, -top, top, top),
		mat(top, 0, 0, top), mat(-top, 0, 0, -top), mat(0, top, top, 0), mat(0, top, -top, 0),
		mat(1, top, 0, 1), mat(1, -top, 0, 1), mat(1, 0, top, 1), mat(-1, 0, -top, -1),
		mat(top, 1, -1, 0), mat(0, -1, 1, -top), mat(0, 1, 1, top), mat(-top, 1, 1, 0),
		mat(top, top-1, 1, 1), mat(-top, top-1, 1, -1), mat(top, 999999, -1, -1),
		mat(1000, 0, 0, 1000), mat(1000, 1, 0, 1000), mat(1000, 999, 1001, 1000),
		mat(5, 3, 3, 2), mat(5, 2, 2, 1), mat(17, 12, 24, 17), mat(-17, 12, 24, -17), mat(89, 55, 55, 34),
		mat(7, -11, 13, 4), mat(123, 456, -789, 12), mat(-4321, 5, 6, 1234), mat(987, 610, 610, 377),
		mat(1004, 503006, -2, -1002),
	}
}

// sampleMats returns the matrices on which the promises are tried.
func sampleMats() []impl.Mat {
	return append(smallMats(), greatMats()...)
}

// wholeMats returns those of the samples with the determinant 1 or -1.
func wholeMats() []impl.Mat {
	var list []impl.Mat
	for _, m := range sampleMats() {
		if d := rawDet(m); d == 1 || d == -1 {
			list = append(list, m)
		}
	}
	return list
}

// beyondNumbers returns numbers that no matrix has.
func beyondNumbers() []int {
	return []int{top + 1, -top - 1, 1 << 32, -1 << 32, math.MaxInt, math.MinInt}
}

// noMats returns four numbers that are no matrix: the one or the other number
// of them is beyond NumberMax, or all are. Some have the determinant 1 or -1.
func noMats() []impl.Mat {
	var list []impl.Mat
	for _, x := range beyondNumbers() {
		list = append(list,
			mat(x, 0, 0, 0), mat(0, x, 0, 0), mat(0, 0, x, 0), mat(0, 0, 0, x), mat(x, x, x, x),
			mat(x, -1, 1, 0), mat(1, x, 0, 1), mat(1, 0, x, 1), mat(0, 1, -1, x), mat(1, x, 0, -1))
	}
	return list
}

// rawIn tells a matrix by its limits.
func rawIn(m impl.Mat) bool {
	for _, x := range [4]int{m.A, m.B, m.C, m.D} {
		if x < -1000000 || x > 1000000 {
			return false
		}
	}
	return true
}

// rawDet is the determinant of a matrix.
func rawDet(m impl.Mat) int {
	return m.A*m.D - m.B*m.C
}

// rawTimes is the product of two matrices, column by column, and may be none.
func rawTimes(m, n impl.Mat) impl.Mat {
	var p impl.Mat
	p.A, p.C = rawMove(m, n.A, n.C)
	p.B, p.D = rawMove(m, n.B, n.D)
	return p
}

// rawMove is what a matrix makes of two numbers.
func rawMove(m impl.Mat, x, y int) (int, int) {
	return m.A*x + m.B*y, m.C*x + m.D*y
}
