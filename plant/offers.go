package plant

import (
	"slices"

	"spillage/api"
	"spillage/common"
)

// offerKinds returns the kinds of events of offers.
func offerKinds() kinds {
	offer := offerNoun()
	return kinds{
		"offer":   {names: nouns{newOne(offer)}, values: 5, check: Register.checkNewOffer, change: Register.withOffer},
		"deliver": {names: nouns{offer}, values: 2, isFinal: true, check: Register.checkDeliver, change: Register.delivered},
		"bill":    {names: nouns{offer}, values: 1, isFinal: true, check: Register.checkBill, change: Register.billed},
	}
}

// offered returns the offer that an event makes.
func offered(e api.Event) Offer {
	return Offer{
		Name:   e.Names[0],
		Span:   api.Span{From: e.Values[1], To: e.Values[2]},
		Energy: e.Values[3],
		Price:  e.Values[4],
	}
}

func (o Offer) isNamed(name string) bool {
	return o.Name == name
}

func (o Offer) isOpen() bool {
	return !o.Billed
}

func (o Offer) shortfall() int {
	return o.Energy - o.Delivered
}

func (o Offer) bill() int {
	return o.Price*o.Delivered - 2*o.Price*o.shortfall()
}

// offer returns the offer with a name, or one without a name if there is none.
func (r Register) offer(name string) Offer {
	i := slices.IndexFunc(r.Offers, func(o Offer) bool { return o.isNamed(name) })
	if i < 0 {
		return Offer{}
	}
	return r.Offers[i]
}

// withChanged returns the register with one offer changed.
func (r Register) withChanged(name string, change func(o *Offer)) Register {
	r.Offers = changed(r.Offers, func(o Offer) bool { return o.isNamed(name) }, change)
	return r
}

func (r Register) checkNewOffer(e api.Event) api.Errno {
	o := offered(e)
	return common.First(
		common.When(o.Span.From < r.Tick || o.Span.From >= o.Span.To, api.ErrSpan),
		common.CheckRange(o.Energy, 1, MaxEnergy),
		common.CheckRange(o.Price, 0, MaxPrice),
		common.When(len(r.Offers) >= MaxOffers, api.ErrMany),
	)
}

func (r Register) withOffer(e api.Event) Register {
	r.Offers = joined(r.Offers, offered(e))
	return r
}

func (r Register) checkDeliver(e api.Event) api.Errno {
	o, energy := r.offer(e.Names[0]), e.Values[1]
	return common.First(
		common.When(o.Billed, api.ErrOver),
		common.When(r.Tick < o.Span.From || r.Tick >= o.Span.To, api.ErrSpan),
		common.When(energy == 0, api.ErrRange),
		common.When(energy > o.shortfall(), api.ErrLimit),
		common.When(energy*Turn > r.Heat, api.ErrShort),
	)
}

func (r Register) delivered(e api.Event) Register {
	energy := e.Values[1]
	r.Heat -= energy * Turn
	return r.withChanged(e.Names[0], func(o *Offer) { o.Delivered += energy })
}

func (r Register) checkBill(e api.Event) api.Errno {
	o := r.offer(e.Names[0])
	return common.First(
		common.When(o.Billed, api.ErrOver),
		common.When(r.Tick < o.Span.To, api.ErrOpen),
	)
}

func (r Register) billed(e api.Event) Register {
	r.Money += r.offer(e.Names[0]).bill()
	return r.withChanged(e.Names[0], func(o *Offer) { o.Billed = true })
}
