package tests

import (
	"fmt"
	"maps"
	"math/big"
	"slices"
	"strings"
	"testing"

	"loop.example/resourceterms/impl"
)

// mixed is a sum as the tests know it: fractions of any size, none of them 0, by the texts of terms.
// What the document says of sums is reckoned here with it, apart from the program.
type mixed map[string]*big.Rat

// add adds a term times a fraction.
func (m mixed) add(text string, f *big.Rat) {
	sum := new(big.Rat).Set(f)
	if old := m[text]; old != nil {
		sum.Add(sum, old)
	}
	if delete(m, text); sum.Sign() != 0 {
		m[text] = sum
	}
}

// partOf returns the parts of a fraction, if they are not too large.
func partOf(f *big.Rat) (int, int, bool) {
	most := big.NewInt(1000000000)
	if new(big.Int).Abs(f.Num()).Cmp(most) > 0 || f.Denom().Cmp(most) > 0 {
		return 0, 0, false
	}
	return int(f.Num().Int64()), int(f.Denom().Int64()), true
}

// sum returns the Sum, if it is within the limits.
func (m mixed) sum() (impl.Sum, bool) {
	s := impl.Sum{}
	for _, text := range slices.Sorted(maps.Keys(m)) {
		top, bottom, ok := partOf(m[text])
		x, fine := termOf(text)
		if !ok || !fine || x.size() > 60 {
			return impl.Sum{}, false
		}
		s.Terms, s.Tops, s.Bottoms = append(s.Terms, text), append(s.Tops, top), append(s.Bottoms, bottom)
	}
	if len(m) > 300 {
		return impl.Sum{}, false
	}
	return s, true
}

// mixedOf returns a Sum, if it is valid.
func mixedOf(s impl.Sum) (mixed, bool) {
	if len(s.Tops) != len(s.Terms) || len(s.Bottoms) != len(s.Terms) {
		return nil, false
	}
	m := mixed{}
	for i, text := range s.Terms {
		if s.Bottoms[i] < 1 {
			return nil, false
		}
		m.add(text, big.NewRat(int64(s.Tops[i]), int64(s.Bottoms[i])))
	}
	again, ok := m.sum()
	if !ok || !sameSum(again, s) {
		return nil, false
	}
	return m, true
}

// applied returns a sum applied to a list, by all choices.
func (m mixed) applied(list []mixed) mixed {
	all := mixed{}
	var choose func(head *shape, bag []*shape, f *big.Rat)
	choose = func(head *shape, bag []*shape, f *big.Rat) {
		if len(bag) == len(list) {
			all.add(appShape(head, bag...).sorted().text(), f)
			return
		}
		for text, g := range list[len(bag)] {
			x, _ := termOf(text)
			choose(head, append(slices.Clone(bag), x), new(big.Rat).Mul(f, g))
		}
	}
	for text, f := range m {
		x, _ := termOf(text)
		choose(x, nil, f)
	}
	return all
}

// bound returns the lam of a sum for a name.
func (m mixed) bound(name string) mixed {
	all := mixed{}
	for text, f := range m {
		x, _ := termOf(text)
		all.add(lamShape(x).swap(-1, func(atom string, lams int) string {
			if atom == name {
				return digits(lams)
			}
			return atom
		}).sorted().text(), f)
	}
	return all
}

// times returns a sum times a fraction.
func (m mixed) times(f *big.Rat) mixed {
	all := mixed{}
	for text, g := range m {
		all.add(text, new(big.Rat).Mul(f, g))
	}
	return all
}

// plus returns the sum of two sums.
func (m mixed) plus(n mixed) mixed {
	all := maps.Clone(m)
	for text, f := range n {
		all.add(text, f)
	}
	return all
}

// total returns the sum of all fractions.
func (m mixed) total() *big.Rat {
	total := new(big.Rat)
	for _, f := range m {
		total.Add(total, f)
	}
	return total
}

// sameSum reports whether two sums are the same.
func sameSum(a, b impl.Sum) bool {
	return slices.Equal(a.Terms, b.Terms) && slices.Equal(a.Tops, b.Tops) && slices.Equal(a.Bottoms, b.Bottoms)
}

// emptySum reports whether a sum has all its slices empty.
func emptySum(s impl.Sum) bool {
	return len(s.Terms)+len(s.Tops)+len(s.Bottoms) == 0
}

// copySum returns a copy of a sum.
func copySum(s impl.Sum) impl.Sum {
	return impl.Sum{Terms: slices.Clone(s.Terms), Tops: slices.Clone(s.Tops), Bottoms: slices.Clone(s.Bottoms)}
}

// sumOf reads a sum that is written as its terms, each one as its top, "/", its bottom, a space and the term, with "; " between.
func sumOf(text string) impl.Sum {
	s := impl.Sum{}
	if text == "" {
		return s
	}
	for _, part := range strings.Split(text, "; ") {
		f, term, _ := strings.Cut(part, " ")
		x, _ := new(big.Rat).SetString(f)
		s.Terms, s.Tops, s.Bottoms = append(s.Terms, term), append(s.Tops, int(x.Num().Int64())), append(s.Bottoms, int(x.Denom().Int64()))
	}
	return s
}

// showSum writes a sum in the same way, whatever is in it.
func showSum(s impl.Sum) string {
	if len(s.Tops) != len(s.Terms) || len(s.Bottoms) != len(s.Terms) {
		return fmt.Sprint(s)
	}
	parts := []string{}
	for i, term := range s.Terms {
		parts = append(parts, fmt.Sprintf("%d/%d %s", s.Tops[i], s.Bottoms[i], term))
	}
	return strings.Join(parts, "; ")
}

// showList writes a list of sums with " | " between.
func showList(list []impl.Sum) string {
	parts := []string{}
	for _, s := range list {
		parts = append(parts, showSum(s))
	}
	return strings.Join(parts, " | ")
}

// say writes a message with sums and lists of them as texts.
func say(format string, args ...any) string {
	for i, x := range args {
		switch y := x.(type) {
		case impl.Sum:
			args[i] = showSum(y)
		case []impl.Sum:
			args[i] = showList(y)
		}
	}
	return fmt.Sprintf(format, args...)
}

// listOf reads what showList writes.
func listOf(text string) []impl.Sum {
	list := []impl.Sum{}
	for _, part := range strings.Split(text, " | ") {
		list = append(list, sumOf(part))
	}
	return list
}

// rowSum returns the sum of the first terms of a row, each one times the same fraction.
func rowSum(row []string, n, top, bottom int) impl.Sum {
	return impl.Sum{Terms: slices.Clone(row[:n]), Tops: slices.Repeat([]int{top}, n), Bottoms: slices.Repeat([]int{bottom}, n)}
}

// nameRow returns 310 names, sorted.
func nameRow() []string {
	row := []string{}
	for _, c := range "abcd" {
		for i := range 100 {
			row = append(row, string(c)+string(rune('0'+i/10))+string(rune('0'+i%10)))
		}
	}
	return row[:310]
}

// appRow returns a number of resource terms that are app, sorted.
func appRow(n int) []string {
	row := []string{}
	for _, name := range nameRow()[:n] {
		row = append(row, "(app x (m "+name+" y))")
	}
	return row
}

// checkSum checks that a sum is the one wanted, or that the call failed with an empty one if this is too large or ok is false.
func checkSum(t *testing.T, what string, got impl.Sum, fine bool, want mixed, ok bool) {
	t.Helper()
	sum, valid := want.sum()
	if ok = ok && valid; !ok {
		sum = impl.Sum{}
	}
	if fine != ok || !sameSum(got, sum) {
		t.Fatal(say("%.300s: %.300v, %v, not %.300v, %v", what, got, fine, sum, ok))
	}
}

// someNumber returns a number from 1 to 1000000000, often a small one or one at an edge.
func (d *dice) someNumber() int {
	switch d.roll(8) {
	case 0:
		return []int{1000000000, 999999999, 999999937, 500000000, 536870912, 31622, 31623, 999999929}[d.roll(8)]
	case 1:
		return 1 + d.roll(1000000000)
	case 2, 3:
		return 1 + d.roll(30)
	}
	return 1 + d.roll(3)
}

// someFraction returns a fraction that is not 0 and not too large.
func (d *dice) someFraction() *big.Rat {
	f := big.NewRat(int64(d.someNumber()), int64(d.someNumber()))
	if d.roll(2) == 0 {
		f.Neg(f)
	}
	return f
}

// someSum returns a valid sum of at most a number of the terms.
func (d *dice) someSum(terms []string, n int) impl.Sum {
	m := mixed{}
	for range d.roll(n + 1) {
		text := terms[d.roll(len(terms))]
		if m[text] == nil {
			m.add(text, d.someFraction())
		}
	}
	s, _ := m.sum()
	return s
}

// smallTerms returns resource terms of small sizes.
func smallTerms() []string {
	return []string{"x", "y", "z", "a", "b10", "(lam 0)", "(lam x)", "(lam (lam 1))", "(app x (m))", "(app x (m x))", "(app x (m x y))", "(app y (m (lam 0) x))", "(lam (app 0 (m 0 x)))", "(app (app x (m)) (m))"}
}

// edgeSums are valid sums at the edges that the document names.
func edgeSums() []impl.Sum {
	return []impl.Sum{
		{}, {Terms: []string{}, Tops: []int{}, Bottoms: []int{}},
		sumOf("1/1 x"), sumOf("-1/1 x"), sumOf("1000000000/1 x"), sumOf("-1000000000/1 x"), sumOf("1/1000000000 x"), sumOf("-1/1000000000 x"),
		sumOf("999999999/1000000000 x"), sumOf("-1000000000/999999999 x"), sumOf("3/2 x; -3/2 y"), sumOf("1/2 (app x (m x)); 1/3 (app x (m)); 1/6 x"),
		sumOf("1/999999937 a; 1/999999929 b; -1/999999937 c; -1/999999929 d"), sumOf("1000000000/1 x; 1/1 y"),
		sumOf("1/2 (app x (m a)); 1/3 (app x (m)); 5/1 (lam (app 0 (m 0))); -1/7 k0; 1/1 m; 1/1 x; 2/1 x0; 3/1 x00; 4/1 x1; 5/1 x10; 6/1 x2"),
		sumOf("1/1 (app x (m" + strings.Repeat(" x", 58) + ")); 1/2 " + nested("(lam ", "0", ")", 59)), sumOf("1/1 " + nested("(lam ", "0", ")", 58)),
		rowSum(nameRow(), 300, 1, 1), rowSum(nameRow(), 300, -1, 2), rowSum(nameRow()[10:], 300, 1000000000, 999999999), rowSum(nameRow(), 299, 1, 1), rowSum(appRow(300), 300, -7, 1000000000),
	}
}

// someSums are valid sums: edges, small ones, and some with many terms.
func someSums() []impl.Sum {
	all := edgeSums()
	d := dice(17)
	row, terms := nameRow(), someTerms()
	for i := range 80 {
		all = append(all, d.someSum(smallTerms(), i%6), d.someSum(terms, i%9))
	}
	for range 4 {
		all = append(all, d.someSum(row, 500))
	}
	return all
}

// badSums are sums that are not valid.
func badSums() []impl.Sum {
	two := func(a, b string) impl.Sum {
		return impl.Sum{Terms: []string{a, b}, Tops: []int{1, 1}, Bottoms: []int{1, 1}}
	}
	one := func(top, bottom int) impl.Sum {
		return impl.Sum{Terms: []string{"x"}, Tops: []int{top}, Bottoms: []int{bottom}}
	}
	all := []impl.Sum{
		two("y", "x"), two("x", "x"), two("x2", "x10"), two("x", "(lam 0)"), two("(app x (m))", "(app x (m a))"), two("(lam 0)", "(lam 0)"),
		{Terms: []string{"a", "c", "b"}, Tops: []int{1, 1, 1}, Bottoms: []int{1, 1, 1}}, {Terms: []string{"a", "b", "a"}, Tops: []int{1, 1, 1}, Bottoms: []int{1, 1, 1}},
		{Terms: []string{"x"}}, {Tops: []int{1}}, {Bottoms: []int{1}}, {Tops: []int{1}, Bottoms: []int{1}},
		{Terms: []string{"x"}, Tops: []int{1}}, {Terms: []string{"x"}, Bottoms: []int{1}}, {Terms: []string{"x"}, Tops: []int{1, 1}, Bottoms: []int{1}}, {Terms: []string{"x"}, Tops: []int{1}, Bottoms: []int{1, 1}},
		{Terms: []string{"x", "y"}, Tops: []int{1}, Bottoms: []int{1}}, {Terms: []string{"x", "y"}, Tops: []int{1, 1}, Bottoms: []int{1}}, {Terms: []string{"x", "y"}, Tops: []int{1}, Bottoms: []int{1, 1}},
		one(0, 1), one(0, 0), one(0, 7), one(1, 0), one(1, -1), one(-1, -1), one(1, -1<<63), one(-1<<63, 1), one(1<<63-1, 1), one(1, 1<<63-1),
		one(2, 4), one(-2, 4), one(2, 2), one(-3, 3), one(1000000000, 1000000000), one(999999998, 2), one(1000000000, 5),
		one(1000000001, 1), one(-1000000001, 1), one(1, 1000000001), one(1000000001, 1000000000), one(1<<32+1, 1), one(1, 1<<32+1), one(2000000000, 2),
		rowSum(nameRow(), 301, 1, 1), rowSum(nameRow(), 310, 1, 2), rowSum(appRow(301), 301, 1, 1),
		{Terms: slices.Repeat([]string{"x"}, 100000), Tops: slices.Repeat([]int{1}, 100000), Bottoms: slices.Repeat([]int{1}, 100000)},
	}
	for _, text := range otherTexts() {
		all = append(all, impl.Sum{Terms: []string{text}, Tops: []int{1}, Bottoms: []int{1}})
	}
	last := rowSum(nameRow(), 300, 1, 1)
	last.Bottoms[299] = 0
	return append(all, two("(app x (m y x))", "x"), two("(lam 0)", "X"), last)
}
