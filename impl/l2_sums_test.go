package impl

import (
	"maps"
	"math/big"
	"slices"
	"testing"
)

// Fractions are larger than those of a Sum only on the way, so they are looked at here.

// dice is a row of numbers that is the same in each run.
type dice uint64

func (d *dice) roll(n int) int {
	*d = *d*6364136223846793005 + 1442695040888963407
	return int(uint64(*d)>>31) % n
}

// bigOf returns a natural as a big number.
func bigOf(a natural) *big.Int {
	n := new(big.Int)
	for _, w := range slices.Backward(a) {
		n.Or(n.Lsh(n, 32), big.NewInt(int64(w)))
	}
	return n
}

// someNaturals returns naturals of up to a number of words, many of them with words at the edges.
func someNaturals(d *dice, count, words int) []natural {
	edges := []uint32{0, 1, 2, 1<<31 - 1, 1 << 31, 1<<31 + 1, 1<<32 - 2, 1<<32 - 1}
	all := []natural{nil, {1}, {1<<32 - 1}, {0, 1}, {0, 0, 1}, {1<<32 - 1, 1<<32 - 1, 1<<32 - 1}}
	for len(all) < count {
		a := natural{}
		for range d.roll(words + 1) {
			w := uint32(d.roll(1<<32)) >> d.roll(32)
			if d.roll(2) == 0 {
				w = edges[d.roll(len(edges))]
			}
			a = append(a, w)
		}
		all = append(all, a.trim())
	}
	return all
}

func TestNaturals(t *testing.T) {
	d := dice(1)
	all := someNaturals(&d, 160, 7)
	// Words that are guessed too large, by 1 and by 2, when these are divided.
	all = append(all, natural{0, 0, 0, 1 << 31}, natural{1<<32 - 1, 0, 1 << 31}, natural{0, 1<<32 - 2, 1 << 31}, natural{0, 0, 1 << 31, 1<<31 - 1}, natural{1, 0, 1 << 31})
	for _, a := range all {
		for _, b := range all {
			keptA, keptB := slices.Clone(a), slices.Clone(b)
			x, y := bigOf(a), bigOf(b)
			holds := func(what string, got natural, want *big.Int) {
				if bigOf(got).Cmp(want) != 0 || len(got) > 0 && got[len(got)-1] == 0 {
					t.Fatalf("%s of %v and %v = %v, not %v", what, a, b, got, want)
				}
			}
			if a.compare(b) != x.Cmp(y) {
				t.Fatalf("%v compared with %v: %d", a, b, a.compare(b))
			}
			holds("plus", a.plus(b), new(big.Int).Add(x, y))
			holds("times", a.times(b), new(big.Int).Mul(x, y))
			holds("gcd", gcd(a, b), new(big.Int).GCD(nil, nil, x, y))
			if a.compare(b) >= 0 {
				holds("minus", a.minus(b), new(big.Int).Sub(x, y))
			}
			if len(b) > 0 {
				quotient, left := a.divide(b)
				q, m := new(big.Int).QuoRem(x, y, new(big.Int))
				holds("divide", quotient, q)
				holds("what is left", left, m)
				holds("over", a.over(b), q)
			}
			if !slices.Equal(a, keptA) || !slices.Equal(b, keptB) {
				t.Fatalf("%v and %v became %v and %v", keptA, keptB, a, b)
			}
		}
	}
}

// ratOf returns a fraction as a big one.
func ratOf(f fraction) *big.Rat {
	x := new(big.Rat).SetFrac(bigOf(f.top), bigOf(f.bottom))
	if f.minus {
		x.Neg(x)
	}
	return x
}

func TestFractions(t *testing.T) {
	d := dice(2)
	all := []fraction{fractionOf(0, 1), fractionOf(0, 7), fractionOf(1, 1), fractionOf(-1, 1), fractionOf(PartMax, 1), fractionOf(-PartMax, 1), fractionOf(1, PartMax), fractionOf(-PartMax, PartMax), fractionOf(6, 4), fractionOf(-6, 4)}
	for len(all) < 250 {
		f, g := all[d.roll(len(all))], fractionOf(d.roll(2*PartMax+1)-PartMax, 1+d.roll(PartMax))
		switch d.roll(4) {
		case 0:
			g = fractionOf(1+d.roll(9), 1+d.roll(9))
		case 1:
			g = all[d.roll(len(all))]
		}
		if len(f.bottom)+len(g.bottom) > 12 {
			continue
		}
		all = append(all, f.plus(g), f.times(g), g)
	}
	for _, f := range all {
		for _, g := range all {
			for what, c := range map[string]struct {
				got  fraction
				want *big.Rat
			}{
				"plus":  {f.plus(g), new(big.Rat).Add(ratOf(f), ratOf(g))},
				"times": {f.times(g), new(big.Rat).Mul(ratOf(f), ratOf(g))},
			} {
				if ratOf(c.got).Cmp(c.want) != 0 || bigOf(c.got.bottom).Cmp(c.want.Denom()) != 0 || c.got.isZero() != (c.want.Sign() == 0) {
					t.Fatalf("%s of %v and %v = %v, not %v", what, ratOf(f), ratOf(g), c.got, c.want)
				}
			}
		}
	}
}

func TestFractionParts(t *testing.T) {
	word := func(n uint64) natural { return naturalOf(n) }
	for _, c := range []struct {
		f           fraction
		top, bottom int
		ok          bool
	}{
		{fraction{false, nil, word(1)}, 0, 1, true},
		{fraction{true, nil, word(1)}, 0, 1, true},
		{fraction{true, word(3), word(2)}, -3, 2, true},
		{fraction{false, word(PartMax), word(1)}, PartMax, 1, true},
		{fraction{true, word(PartMax), word(1)}, -PartMax, 1, true},
		{fraction{false, word(1), word(PartMax)}, 1, PartMax, true},
		{fraction{false, word(PartMax + 1), word(1)}, 0, 0, false},
		{fraction{true, word(PartMax + 1), word(1)}, 0, 0, false},
		{fraction{false, word(1), word(PartMax + 1)}, 0, 0, false},
		{fraction{false, natural{0, 1}, word(1)}, 0, 0, false},
		{fraction{false, word(1), natural{0, 0, 1}}, 0, 0, false},
		{fraction{false, natural{1, 0, 1}, word(1)}, 0, 0, false},
	} {
		if top, bottom, ok := c.f.parts(); top != c.top || bottom != c.bottom || ok != c.ok {
			t.Errorf("parts of %v: %d, %d, %v", c.f, top, bottom, ok)
		}
	}
}

func TestSumMapDeletesWhatVanishes(t *testing.T) {
	m := sumMap{}
	m.add("x", fractionOf(1, 3))
	m.add("y", fractionOf(2, 1))
	m.add("x", fractionOf(-2, 6))
	m.add("z", fractionOf(0, 5))
	if !slices.Equal(slices.Collect(maps.Keys(m)), []string{"y"}) {
		t.Errorf("the sum is %v", m)
	}
}

func TestApplyingAFewTerms(t *testing.T) {
	p := newTermPool()
	sum := func(tops ...int) sumMap {
		m := sumMap{}
		for i, top := range tops {
			if top != 0 {
				m.add(p.name(string(rune('a'+i))).text, fractionOf(top, 1))
			}
		}
		return m
	}
	list := []sumMap{sum(1, 2, 0, 4, 5), sum(0, 0, 3, 4, 5)}
	few := fewTogether(list, 2)
	if !slices.Equal(few[0].texts(), []string{"a", "b", "d"}) || !slices.Equal(few[1].texts(), []string{"c", "d"}) {
		t.Errorf("%v and %v", few[0].texts(), few[1].texts())
	}
	head := sum(7)
	part, whole := p.applyAll(head, few), p.applyAll(head, list)
	for text, f := range part {
		if ratOf(f).Cmp(ratOf(whole[text])) != 0 {
			t.Errorf("%s: %v in the part, %v in the whole", text, ratOf(f), ratOf(whole[text]))
		}
	}
}
