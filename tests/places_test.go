package tests

import (
	"math/big"
	"slices"

	"loop.example/resourceterms/impl"
)

// What the document says of the places of a name is reckoned here with shapes and mixed sums, place by place and way by way, apart from the program.

// filled returns a shape with each place of a name replaced by what put returns for its number, counted from the front.
func (x *shape) filled(name string, put func(k int) *shape) *shape {
	k := -1
	var fill func(x *shape) *shape
	fill = func(x *shape) *shape {
		if x.head == "" && x.atom == name {
			k++
			return put(k)
		}
		y := &shape{head: x.head, atom: x.atom}
		for _, u := range x.parts {
			y.parts = append(y.parts, fill(u))
		}
		return y
	}
	return fill(x)
}

// allOrders returns all orders of the numbers below n.
func allOrders(n int) [][]int {
	if n == 0 {
		return [][]int{nil}
	}
	all := [][]int{}
	for _, order := range allOrders(n - 1) {
		for i := range n {
			all = append(all, slices.Insert(slices.Clone(order), i, n-1))
		}
	}
	return all
}

// counted returns the sum of how often each text is there.
func counted(counts map[string]int) mixed {
	m := mixed{}
	for text, n := range counts {
		m.add(text, big.NewRat(int64(n), 1))
	}
	return m
}

// put returns the sum of a shape in which a bag is put for a name.
func (x *shape) put(name string, bag []*shape) mixed {
	counts := map[string]int{}
	if x.names()[name] == len(bag) {
		for _, order := range allOrders(len(bag)) {
			counts[x.filled(name, func(k int) *shape { return bag[order[k]] }).sorted().text()]++
		}
	}
	return counted(counts)
}

// derived returns the derivative of a shape in a name by another one.
func (x *shape) derived(name string, by *shape) mixed {
	counts := map[string]int{}
	for i := range x.names()[name] {
		counts[x.filled(name, func(k int) *shape {
			if k == i {
				return by
			}
			return atomShape(name)
		}).sorted().text()]++
	}
	return counted(counts)
}

// put returns the sum of all terms of a sum in which a bag is put, if that of each one is valid.
func (m mixed) put(name string, bag []*shape) (mixed, bool) {
	all := mixed{}
	for text, f := range m {
		x, _ := termOf(text)
		part := x.put(name, bag)
		if _, ok := part.sum(); !ok {
			return mixed{}, false
		}
		all = all.plus(part.times(f))
	}
	return all, true
}

// derived returns the derivative of a sum by a sum, if that of each pair is valid.
func (m mixed) derived(name string, by mixed) (mixed, bool) {
	all := mixed{}
	for text, f := range m {
		x, _ := termOf(text)
		for other, g := range by {
			y, _ := termOf(other)
			part := x.derived(name, y)
			if _, ok := part.sum(); !ok {
				return mixed{}, false
			}
			for r, h := range part {
				all.add(r, new(big.Rat).Mul(h, new(big.Rat).Mul(f, g)))
			}
		}
	}
	return all, true
}

// derivedMany returns the derivative of a term by each of a list, if each one on the way is valid.
func derivedMany(s, name string, list []string) (mixed, bool) {
	all := counted(map[string]int{s: 1})
	for _, by := range list {
		var ok bool
		if all, ok = all.derived(name, counted(map[string]int{by: 1})); !ok {
			return mixed{}, false
		}
		if _, ok = all.sum(); !ok {
			return mixed{}, false
		}
	}
	return all, true
}

// without returns the sum of the terms in which a name is not.
func (m mixed) without(name string) mixed {
	all := mixed{}
	for text, f := range m {
		if x, _ := termOf(text); x.names()[name] == 0 {
			all.add(text, f)
		}
	}
	return all
}

// shapesOf returns the shapes of resource terms.
func shapesOf(texts []string) []*shape {
	list := []*shape{}
	for _, text := range texts {
		x, _ := termOf(text)
		list = append(list, x)
	}
	return list
}

// factorial returns n!.
func factorial(n int) int {
	if n == 0 {
		return 1
	}
	return n * factorial(n-1)
}

// few returns at most a number of terms, often equal ones, none of which has the name without.
func (d *dice) few(terms []string, n int, without string) []string {
	list := []string{}
	for range n {
		s := terms[d.roll(len(terms))]
		for impl.TermDegree(s, without) > 0 {
			s = terms[d.roll(len(terms))]
		}
		if len(list) > 0 && d.roll(3) == 0 {
			s = list[d.roll(len(list))]
		}
		list = append(list, s)
	}
	return list
}

// placed returns a term of at most a size with at most 6 places of x, most often at least one.
func (d *dice) placed(size int) string {
	for {
		x := d.grow(1+d.roll(size), 0).swap(0, func(atom string, lams int) string {
			if atom[0] >= 'a' && d.roll(3) > 0 {
				return "x"
			}
			return atom
		}).sorted()
		if n := x.names()["x"]; n <= 6 && (n > 0 || d.roll(5) == 0) {
			return x.text()
		}
	}
}
