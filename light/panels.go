package light

import (
	"spillage/api"
	"spillage/common"
)

// Four returns the transform of four samples.
func Four(l [4]float32) ([4]complex64, api.Errno) {
	if e := common.First(common.Mapped(l[:], CheckSample)...); e != api.OK {
		return [4]complex64{}, e
	}
	var p [4]complex64
	for k := range 4 {
		for n, x := range l {
			p[k] += complex(x, 0) * power(k*n)
		}
	}
	return p, api.OK
}

// power returns -i to the power of n, for n from 0 on.
func power(n int) complex64 {
	powers := [4]complex64{1, -1i, -1, 1i}
	return powers[n%4]
}

// Unfour returns the samples of a panel.
func Unfour(p [4]complex64) ([4]float32, api.Errno) {
	if e := common.First(common.Mapped(p[:], checkNumber)...); e != api.OK {
		return [4]float32{}, e
	}
	var l [4]float32
	for n := range 4 {
		var sum complex64
		for k, x := range p {
			sum += x * power(3*k*n) // the third power of -i is i
		}
		l[n] = real(sum) / 4
		if imag(sum) != 0 || CheckSample(l[n]) != api.OK {
			return [4]float32{}, api.ErrForm
		}
	}
	return l, api.OK
}

// checkNumber returns the first error of a number of a panel, or OK. Multiples
// of 1/16 so small are added and divided by 4 without being rounded.
func checkNumber(x complex64) api.Errno {
	return common.CheckNumber(complex128(x), 4*api.MaxValue)
}
