package grid

import (
	"slices"

	"spillage/api"
	"spillage/common"
	"spillage/light"
)

// quadrants has the quadrant of a phasor by the signs of its real and its imaginary
// part, each 1 more. That of 0, in the middle, is never read.
var quadrants = [3][3]int{
	{2, 2, 1},
	{3, 0, 1},
	{3, 0, 0},
}

// integersOf returns the integers of a number whose parts are multiples of 1/16.
func integersOf(x complex128) api.Gauss {
	return api.Gauss{Re: common.IntegerOf(real(x)), Im: common.IntegerOf(imag(x))}
}

// square returns the sum of the squares of both parts.
func square(z api.Gauss) int {
	return z.Re*z.Re + z.Im*z.Im
}

// Phasor returns the phasor of four samples.
func Phasor(l [4]float32) (api.Gauss, api.Errno) {
	panel, e := light.Four(l)
	return integersOf(complex128(panel[1])), e
}

func checkPhasor(z api.Gauss) api.Errno {
	return common.First(
		common.CheckRange(z.Re, -api.MaxPart, api.MaxPart),
		common.CheckRange(z.Im, -api.MaxPart, api.MaxPart),
	)
}

func checkPhasors(l []api.Gauss) api.Errno {
	return common.CheckList(l, MaxPhasors, checkPhasor)
}

// checkNonzero returns ErrZero if one of some phasors is 0.
func checkNonzero(l ...api.Gauss) api.Errno {
	return common.When(slices.Contains(l, api.Gauss{}), api.ErrZero)
}

// CheckWindow returns the first error of a window, or OK.
func CheckWindow(w Window) api.Errno {
	return common.First(
		common.CheckRange(w.Num, 0, MaxWindow),
		common.CheckRange(w.Den, 1, MaxWindow),
		common.CheckRange(w.Least, 0, MaxWindow),
		common.CheckRange(w.Most, 0, MaxWindow),
		common.When(w.Least > w.Most, api.ErrOrder),
	)
}

// against returns a generator's phasor times the conjugate of its grid's.
func against(grid, generator api.Gauss) api.Gauss {
	return api.Gauss{
		Re: generator.Re*grid.Re + generator.Im*grid.Im,
		Im: generator.Im*grid.Re - generator.Re*grid.Im,
	}
}

// permits reports whether a generator is in step with a grid that is not 0.
func (w Window) permits(grid, generator api.Gauss) bool {
	z := against(grid, generator)
	size, whole := 100*square(generator), square(grid)
	isTurned := z.Re <= 0 || w.Den*max(z.Im, -z.Im) > w.Num*z.Re
	return !isTurned && w.Least*whole <= size && size <= w.Most*whole
}

// InStep reports whether a generator is in step with its grid.
func InStep(grid, generator api.Gauss, w Window) (bool, api.Errno) {
	e := common.First(
		checkPhasor(grid),
		checkPhasor(generator),
		CheckWindow(w),
		checkNonzero(grid),
	)
	if e != api.OK {
		return false, e
	}
	return w.permits(grid, generator), api.OK
}

// Joined returns the index at which a generator has been in step long enough.
func Joined(grid, generator []api.Gauss, w Window, hold int) (int, api.Errno) {
	e := common.First(
		checkPhasors(grid),
		checkPhasors(generator),
		CheckWindow(w),
		common.CheckRange(hold, 1, MaxHold),
		common.When(len(grid) != len(generator), api.ErrShape),
		checkNonzero(grid...),
	)
	if e != api.OK {
		return 0, e
	}
	held := 0
	for i, z := range generator {
		held++
		if !w.permits(grid[i], z) {
			held = 0
		}
		if held == hold {
			return i, api.OK
		}
	}
	return 0, api.ErrNone
}

// quadrantOf returns the quadrant of a phasor that is not 0.
func quadrantOf(z api.Gauss) int {
	return quadrants[common.Sign(z.Re)+1][common.Sign(z.Im)+1]
}

// half is a change by two quadrants, of which the way is not known.
const half = 2

// change returns by how many quadrants a phasor has turned: 1, 0, -1 or half.
func change(from, to int) int {
	return (to-from+5)%4 - 1
}

// Slip returns by how many quarters a generator has turned against its grid.
func Slip(grid, generator []api.Gauss) (int, api.Errno) {
	e := common.First(
		checkPhasors(grid),
		checkPhasors(generator),
		common.When(len(grid) != len(generator), api.ErrShape),
		checkNonzero(grid...),
		checkNonzero(generator...),
	)
	if e != api.OK {
		return 0, e
	}
	slip, before := 0, 0
	for i, z := range generator {
		quadrant := quadrantOf(against(grid[i], z))
		if i > 0 {
			by := change(before, quadrant)
			if by == half {
				return 0, api.ErrConflict
			}
			slip += by
		}
		before = quadrant
	}
	return slip, api.OK
}
