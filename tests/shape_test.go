package tests

import (
	"regexp"
	"slices"
	"strings"
)

// shape is a term as the tests know it: an atom, or a head with parts (of lam its part, of app the first part and then those of the bag).
// What the document says of terms is reckoned here from the structure, apart from the program.
type shape struct {
	head  string // "lam", "app", or "" for an atom
	atom  string
	parts []*shape
}

func atomShape(s string) *shape { return &shape{atom: s} }

func lamShape(s *shape) *shape { return &shape{head: "lam", parts: []*shape{s}} }

func appShape(s *shape, bag ...*shape) *shape {
	return &shape{head: "app", parts: append([]*shape{s}, bag...)}
}

// text writes a shape with its bags as they are.
func (x *shape) text() string {
	switch x.head {
	case "lam":
		return "(lam " + x.parts[0].text() + ")"
	case "app":
		s := "(app " + x.parts[0].text() + " (m"
		for _, u := range x.parts[1:] {
			s += " " + u.text()
		}
		return s + "))"
	}
	return x.atom
}

// sorted returns a shape with all bags sorted from the inside.
func (x *shape) sorted() *shape {
	y := &shape{head: x.head, atom: x.atom}
	for _, u := range x.parts {
		y.parts = append(y.parts, u.sorted())
	}
	if x.head == "app" {
		slices.SortFunc(y.parts[1:], func(a, b *shape) int { return strings.Compare(a.text(), b.text()) })
	}
	return y
}

// size reckons the size of a shape.
func (x *shape) size() int {
	n := 1
	for _, u := range x.parts {
		n += u.size()
	}
	return n
}

// names returns how often each name is in a shape.
func (x *shape) names() map[string]int {
	n := map[string]int{}
	if x.head == "" && x.atom[0] >= 'a' {
		n[x.atom] = 1
	}
	for _, u := range x.parts {
		for name, k := range u.names() {
			n[name] += k
		}
	}
	return n
}

// closed reports whether each index of a shape within a number of lam is less than the number of lam around it.
func (x *shape) closed(lams int) bool {
	if x.head == "" {
		return x.atom[0] >= 'a' || number(x.atom) < lams
	}
	if x.head == "lam" {
		lams++
	}
	for _, u := range x.parts {
		if !u.closed(lams) {
			return false
		}
	}
	return true
}

// swap returns a shape with each atom replaced by what leaf returns for it and the number of lam around it.
func (x *shape) swap(lams int, leaf func(atom string, lams int) string) *shape {
	if x.head == "" {
		return atomShape(leaf(x.atom, lams))
	}
	y := &shape{head: x.head}
	if x.head == "lam" {
		lams++
	}
	for _, u := range x.parts {
		y.parts = append(y.parts, u.swap(lams, leaf))
	}
	return y
}

// number returns the number of a text of decimal digits.
func number(s string) int {
	n := 0
	for _, c := range s {
		n = 10*n + int(c-'0')
	}
	return n
}

// digits returns the text of a number from 0 to 99.
func digits(n int) string {
	if n < 10 {
		return string(rune('0' + n))
	}
	return string(rune('0'+n/10)) + string(rune('0'+n%10))
}

var (
	atomFront = regexp.MustCompile(`^[a-z0-9]+`)
	nameWhole = regexp.MustCompile(`^[a-z][0-9]{0,2}$`)
	atomWhole = regexp.MustCompile(`^([a-z][0-9]{0,2}|0|[1-9][0-9]?)$`)
)

// frontShape reads a shape from the front of a text and returns what is behind it.
func frontShape(s string) (*shape, string, bool) {
	if rest, ok := strings.CutPrefix(s, "(lam "); ok {
		x, rest, ok := frontShape(rest)
		if !ok || !strings.HasPrefix(rest, ")") {
			return nil, "", false
		}
		return lamShape(x), rest[1:], true
	}
	if rest, ok := strings.CutPrefix(s, "(app "); ok {
		x, rest, ok := frontShape(rest)
		if !ok || !strings.HasPrefix(rest, " (m") {
			return nil, "", false
		}
		y := appShape(x)
		for rest = rest[3:]; strings.HasPrefix(rest, " "); {
			var u *shape
			if u, rest, ok = frontShape(rest[1:]); !ok {
				return nil, "", false
			}
			y.parts = append(y.parts, u)
		}
		if !strings.HasPrefix(rest, "))") {
			return nil, "", false
		}
		return y, rest[2:], true
	}
	atom := atomFront.FindString(s)
	return atomShape(atom), s[len(atom):], atomWhole.MatchString(atom)
}

// shapeOf returns the shape of a text that becomes a resource term when it is sorted.
func shapeOf(s string) (*shape, bool) {
	if len(s) > 4000 || strings.Count(s, "(") > 200 {
		return nil, false
	}
	x, rest, ok := frontShape(s)
	if !ok || rest != "" || !x.closed(0) || x.size() > 60 {
		return nil, false
	}
	return x, true
}

// termOf returns the shape of a text that is a resource term.
func termOf(s string) (*shape, bool) {
	x, ok := shapeOf(s)
	if !ok || x.sorted().text() != s {
		return nil, false
	}
	return x, true
}

// dice is a row of numbers that is the same in each run.
type dice uint64

func (d *dice) roll(n int) int {
	*d = *d*6364136223846793005 + 1442695040888963407
	return int(uint64(*d)>>33) % n
}

// grow returns a shape of just a size within a number of lam.
func (d *dice) grow(size, lams int) *shape {
	if size == 1 {
		names := []string{"x", "y", "z", "m", "w", "k0", "a9", "b10", "x00", "u0"}
		if lams > 0 && d.roll(2) == 0 {
			return atomShape(digits(d.roll(lams)))
		}
		return atomShape(names[d.roll(len(names))])
	}
	if d.roll(3) == 0 {
		return lamShape(d.grow(size-1, lams+1))
	}
	left := size - 1
	part := func() *shape {
		k := 1 + d.roll(left)
		left -= k
		return d.grow(k, lams)
	}
	x := appShape(part())
	for left > 0 {
		u := part()
		x.parts = append(x.parts, u)
		if u.size() <= left && d.roll(2) == 0 { // an equal one
			left -= u.size()
			x.parts = append(x.parts, u)
		}
	}
	return x
}

// smallShapes returns all shapes of just a size with the atoms x, y, 0 and 1, closed or not, with bags in all orders.
func smallShapes(size int) []*shape {
	if size == 1 {
		return []*shape{atomShape("x"), atomShape("y"), atomShape("0"), atomShape("1")}
	}
	all := []*shape{}
	for _, u := range smallShapes(size - 1) {
		all = append(all, lamShape(u))
	}
	for first := 1; first < size; first++ {
		for _, u := range smallShapes(first) {
			for _, bag := range smallBags(size - 1 - first) {
				all = append(all, appShape(u, bag...))
			}
		}
	}
	return all
}

// smallBags returns all lists of such shapes with just a size together.
func smallBags(size int) [][]*shape {
	if size == 0 {
		return [][]*shape{nil}
	}
	all := [][]*shape{}
	for k := 1; k <= size; k++ {
		for _, u := range smallShapes(k) {
			for _, rest := range smallBags(size - k) {
				all = append(all, append([]*shape{u}, rest...))
			}
		}
	}
	return all
}
