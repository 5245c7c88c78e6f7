package ladder

import "signetring/limb"

// rungs are two points that differ by the one that is climbed with, a/b and c/d:
// as fractions, so that one Inv at the end is enough.
type rungs struct{ a, b, c, d limb.Num }

// place: where a point lies; its highest bit says nothing.
func place(u limb.Num) limb.Num {
	u[31] &^= 128
	return limb.Reduce(u)
}

// bit: is the i-th bit of n 1? The lowest one is number 0.
func bit(n limb.Num, i int) bool { return n[i/8]>>(i%8)&1 == 1 }

// swap: the two points in each other's place, if so.
func (r rungs) swap(is bool) rungs {
	r.a, r.c = limb.Swap(is, r.a, r.c)
	r.b, r.d = limb.Swap(is, r.b, r.d)
	return r
}

// step: the first point twice, and both together; x is where their difference lies.
func (r rungs) step(x limb.Num) rungs {
	square := func(a limb.Num) limb.Num { return limb.Mul(a, a) }
	s, t := limb.Add(r.a, r.b), limb.Sub(r.a, r.b)
	v := limb.Mul(limb.Add(r.c, r.d), t)
	w := limb.Mul(limb.Sub(r.c, r.d), s)
	ss, tt := square(s), square(t)
	e := limb.Sub(ss, tt)
	return rungs{
		a: limb.Mul(ss, tt),
		b: limb.Mul(e, limb.Add(ss, limb.Mul(curve(), e))),
		c: square(limb.Add(v, w)),
		d: limb.Mul(x, square(limb.Sub(v, w))),
	}
}

// curve: 121665, of which the curve is made: a quarter of its 486662 - 2.
func curve() limb.Num { return limb.Num{0x41, 0xdb, 0x01} }
