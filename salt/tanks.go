package salt

import (
	"iter"
	"slices"

	"spillage/api"
	"spillage/common"
)

func checkLayer(x Layer) api.Errno {
	return common.First(
		common.CheckRange(x.Amount, 1, MaxRoom),
		common.CheckRange(x.Heat, 0, MaxStore),
	)
}

func (x Layer) isColder(y Layer) bool {
	return x.Heat*y.Amount < y.Heat*x.Amount
}

// plus returns one layer of two.
func (x Layer) plus(y Layer) Layer {
	return Layer{Amount: x.Amount + y.Amount, Heat: x.Heat + y.Heat}
}

// less returns what is left of the layer without a part of it.
func (x Layer) less(part Layer) Layer {
	return Layer{Amount: x.Amount - part.Amount, Heat: x.Heat - part.Heat}
}

// part returns the part of the layer with an amount.
func (x Layer) part(amount int) Layer {
	return Layer{Amount: amount, Heat: x.Heat * amount / x.Amount}
}

// cooled returns the layer without a share of its heat.
func (x Layer) cooled(num, den int) Layer {
	x.Heat -= x.Heat * num / den
	return x
}

// merged returns elements of which each one becomes one with those before it, as
// long as it is not in order with them.
func merged[T any](l []T, inOrder func(T, T) bool, join func(T, T) T) []T {
	var out []T
	for _, x := range l {
		for last := len(out) - 1; last >= 0 && !inOrder(out[last], x); last-- {
			x = join(out[last], x)
			out = out[:last]
		}
		out = append(out, x)
	}
	return out
}

// with returns the tank with other layers, put together.
func (t Tank) with(layers []Layer) Tank {
	return Tank{Room: t.Room, Layers: merged(layers, Layer.isColder, Layer.plus)}
}

// total returns all layers as one.
func (t Tank) total() Layer {
	return common.Folded(t.Layers, Layer.plus)
}

// visited visits the layers, from the top or from the bottom on.
func (t Tank) visited(fromTop bool) iter.Seq[Layer] {
	return func(yield func(Layer) bool) {
		for i := range t.Layers {
			if fromTop {
				i = len(t.Layers) - 1 - i
			}
			if !yield(t.Layers[i]) {
				return
			}
		}
	}
}

// CheckTank returns the first error of a tank, or OK.
func CheckTank(t Tank) api.Errno {
	all := t.total()
	return common.First(
		common.CheckRange(t.Room, 1, MaxRoom),
		common.When(len(t.Layers) > MaxLayers, api.ErrMany),
		common.CheckAscending(t.Layers, checkLayer, Layer.isColder),
		common.When(all.Amount > t.Room, api.ErrLarge),
		common.When(all.Heat > MaxStore, api.ErrOver),
	)
}

// Level returns all amounts of a tank together.
func Level(t Tank) (int, api.Errno) {
	if e := CheckTank(t); e != api.OK {
		return 0, e
	}
	return t.total().Amount, api.OK
}

// Enthalpy returns all heat of a tank.
func Enthalpy(t Tank) (int, api.Errno) {
	if e := CheckTank(t); e != api.OK {
		return 0, e
	}
	return t.total().Heat, api.OK
}

// Warmth returns the heat of a layer, divided by its amount.
func Warmth(t Tank, index int) (api.Ratio, api.Errno) {
	isLayer := index >= 0 && index < len(t.Layers)
	if e := common.First(CheckTank(t), common.When(!isLayer, api.ErrUnknown)); e != api.OK {
		return api.Ratio{}, e
	}
	return common.Quotient(t.Layers[index].Heat, t.Layers[index].Amount), api.OK
}

// Charged returns a tank with a further amount and its heat.
func Charged(t Tank, amount, heat int) (Tank, api.Errno) {
	further, all := Layer{Amount: amount, Heat: heat}, t.total()
	e := common.First(
		CheckTank(t),
		checkLayer(further),
		common.When(amount > t.Room-all.Amount, api.ErrLarge),
		common.When(heat > MaxStore-all.Heat, api.ErrOver),
	)
	if e != api.OK {
		return Tank{}, e
	}
	// A layer that is as warm comes next, and is put together with the further one.
	place := 0
	for x := range t.visited(false) {
		if !x.isColder(further) {
			break
		}
		place++
	}
	charged := t.with(slices.Insert(slices.Clone(t.Layers), place, further))
	if len(charged.Layers) > MaxLayers {
		return Tank{}, api.ErrMany
	}
	return charged, api.OK
}

// Drawn returns a tank from which an amount was drawn, and its heat.
func Drawn(t Tank, amount int, top bool) (Tank, int, api.Errno) {
	e := common.First(
		CheckTank(t),
		common.CheckRange(amount, 1, MaxRoom),
		common.When(amount > t.total().Amount, api.ErrShort),
	)
	if e != api.OK {
		return Tank{}, 0, e
	}
	var drawn Layer
	var left []Layer
	for x := range t.visited(top) {
		part := x.part(min(x.Amount, amount-drawn.Amount))
		drawn = drawn.plus(part)
		if rest := x.less(part); rest != (Layer{}) {
			left = append(left, rest)
		}
	}
	if top {
		slices.Reverse(left)
	}
	return t.with(left), drawn.Heat, api.OK
}

// Mixed returns a mixed tank.
func Mixed(t Tank) (Tank, api.Errno) {
	if e := common.First(CheckTank(t), common.When(len(t.Layers) == 0, api.ErrEmpty)); e != api.OK {
		return Tank{}, e
	}
	return t.with([]Layer{t.total()}), api.OK
}

// Cooled returns a cooled tank, and the heat that was lost.
func Cooled(t Tank, num, den int) (Tank, int, api.Errno) {
	e := common.First(
		CheckTank(t),
		common.CheckRange(den, 1, MaxShare),
		common.CheckRange(num, 0, den),
	)
	if e != api.OK {
		return Tank{}, 0, e
	}
	cooled := t.with(common.Mapped(t.Layers, func(x Layer) Layer { return x.cooled(num, den) }))
	return cooled, t.total().Heat - cooled.total().Heat, api.OK
}
