package tests

import (
	"math/big"
	"slices"
	"strings"
)

// What the document says of redexes is reckoned here with shapes in which each lam on the way down is opened by a mark of its own, so that nothing has to be raised or lowered, and way by way, apart from the program.

// reduct makes all that a step at one redex results in, each way for itself, or tells that the redex is too large.
type reduct func() ([]*shape, bool)

// mark returns what stands for the index of a lam that is opened.
func mark(n int) string { return "#" + digits(n) }

// isIndex reports whether an atom is an index.
func isIndex(atom string) bool { return atom[0] >= '0' && atom[0] <= '9' }

// opened returns the part of a lam with a mark in the place of its index, bags as they are.
func (x *shape) opened(by string) *shape {
	return x.parts[0].swap(0, func(atom string, lams int) string {
		if isIndex(atom) && number(atom) == lams {
			return by
		}
		return atom
	})
}

// closedBy returns the lam of a shape for a mark.
func (x *shape) closedBy(by string) *shape {
	return lamShape(x.swap(0, func(atom string, lams int) string {
		if atom == by {
			return digits(lams)
		}
		return atom
	}))
}

// count returns how often an atom is in a shape.
func (x *shape) count(atom string) int {
	n := 0
	if x.head == "" && x.atom == atom {
		n++
	}
	for _, u := range x.parts {
		n += u.count(atom)
	}
	return n
}

// reducts returns those of all redexes of a shape, within a number of lam that are opened, in the order in which they stand.
func (x *shape) reducts(lams int) []reduct {
	all := []reduct{}
	if x.head == "app" && x.parts[0].head == "lam" {
		all = append(all, func() ([]*shape, bool) { return x.contracted(mark(lams)) })
	}
	within := func(list []reduct, around func(*shape) *shape) {
		for _, f := range list {
			all = append(all, func() ([]*shape, bool) {
				ways, ok := f()
				made := []*shape{}
				for _, u := range ways {
					made = append(made, around(u))
				}
				return made, ok
			})
		}
	}
	if x.head == "lam" {
		within(x.opened(mark(lams)).reducts(lams+1), func(u *shape) *shape { return u.closedBy(mark(lams)) })
	}
	if x.head == "app" {
		for i, u := range x.parts {
			within(u.reducts(lams), func(u *shape) *shape {
				parts := slices.Clone(x.parts)
				parts[i] = u
				return appShape(parts[0], parts[1:]...)
			})
		}
	}
	return all
}

// contracted returns what a redex comes to, each way for itself.
func (x *shape) contracted(by string) ([]*shape, bool) {
	s, bag := x.parts[0].opened(by), x.parts[1:]
	if s.count(by) != len(bag) {
		return nil, true
	}
	if len(bag) > 6 {
		return nil, false
	}
	ways := []*shape{}
	for _, order := range allOrders(len(bag)) {
		ways = append(ways, s.filled(by, func(k int) *shape { return bag[order[k]] }))
	}
	return ways, true
}

// sum makes the sum of a reduct.
func (f reduct) sum() (mixed, bool) {
	ways, ok := f()
	counts := map[string]int{}
	for _, u := range ways {
		counts[u.sorted().text()]++
	}
	return counted(counts), ok
}

// reductsOf returns those of a resource term.
func reductsOf(s string) []reduct {
	x, _ := termOf(s)
	return x.reducts(0)
}

// normalOf steps all terms of a sum at the place 0, again and again, until all are normal, if each sum behind a step is valid.
func normalOf(s string) (mixed, int, bool) {
	m := counted(map[string]int{s: 1})
	for steps := 0; ; steps++ {
		behind, stepped := mixed{}, false
		for text, f := range m {
			list := reductsOf(text)
			if len(list) == 0 {
				behind.add(text, f)
				continue
			}
			part, ok := list[0].sum()
			if !ok {
				return mixed{}, -1, false
			}
			stepped = true
			for u, g := range part {
				behind.add(u, new(big.Rat).Mul(f, g))
			}
		}
		if !stepped {
			return m, steps, true
		}
		if _, ok := behind.sum(); !ok {
			return mixed{}, -1, false
		}
		m = behind
	}
}

// normalOfSum returns the normal sum of a sum, if that of each of its terms is valid.
func normalOfSum(m mixed) (mixed, bool) {
	all := mixed{}
	for text, f := range m {
		part, _, ok := normalOf(text)
		if !ok {
			return mixed{}, false
		}
		all = all.plus(part.times(f))
	}
	return all, true
}

// longOf returns the greatest number of steps at the place 0 by going all of them, term by term.
func longOf(s string) int {
	list := reductsOf(s)
	if len(list) == 0 {
		return 0
	}
	part, _ := list[0].sum()
	long := 0
	for text := range part {
		long = max(long, longOf(text))
	}
	return 1 + long
}

// mostly returns n, or sometimes 1 more or 1 less, but not less than 0.
func (d *dice) mostly(n int) int {
	switch d.roll(12) {
	case 0:
		return n + 1
	case 1:
		return max(0, n-1)
	}
	return n
}

// leaf returns an atom within a number of lam, more often an index than a name, and most often that of the innermost lam.
func (d *dice) leaf(lams int) *shape {
	if lams == 0 || d.roll(4) == 0 {
		return atomShape([]string{"x", "y", "z", "m", "k0"}[d.roll(5)])
	}
	return atomShape(digits(d.roll(1 + d.roll(lams))))
}

// stepping returns a shape of about a size within a number of lam, with redexes most of which have bags as large as they should be.
func (d *dice) stepping(size, lams int) *shape {
	if size <= 2 {
		return d.leaf(lams)
	}
	switch d.roll(5) {
	case 0:
		return lamShape(d.stepping(size-1, lams+1))
	case 1, 2:
		x := appShape(d.stepping(1+size/3, lams))
		d.pack(x, d.roll(4), size-size/3, lams)
		return x
	}
	s := d.stepping(1+size/2, lams+1)
	n := 0
	lamShape(s).swap(-1, func(atom string, within int) string {
		if isIndex(atom) && number(atom) == within {
			n++
		}
		return atom
	})
	x := appShape(lamShape(s))
	d.pack(x, d.mostly(n), size-size/2, lams)
	return x
}

// pack puts a number of terms, often equal ones, of about a size together into the bag of an app within a number of lam.
func (d *dice) pack(x *shape, n, size, lams int) {
	for range n {
		u := d.stepping(d.roll(1+size/n), lams)
		if len(x.parts) > 1 && d.roll(3) == 0 {
			u = x.parts[1]
		}
		x.parts = append(x.parts, u)
	}
}

// steppingTerm returns a resource term of at most a size with redexes, none of which has more than 6 terms in its bag.
func (d *dice) steppingTerm(size int) string {
	for {
		x := d.stepping(1+d.roll(size), 0).sorted()
		if x.size() <= size && strings.Contains(x.text(), "(app (lam ") && !x.crowded() {
			return x.text()
		}
	}
}

// crowded reports whether a shape has a redex with more than 6 terms in its bag.
func (x *shape) crowded() bool {
	return x.head == "app" && x.parts[0].head == "lam" && len(x.parts) > 7 || slices.ContainsFunc(x.parts, (*shape).crowded)
}
