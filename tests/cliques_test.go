package tests

import "strings"

// What the document says of coherence is reckoned here with shapes pair by pair, and what terms are made of part by part, apart from the program.
// The shape of a lambda term is one whose app have just one term behind the first part.

// pairs holds what is known of pairs of terms: whether they are coherent.
type pairs map[[2]string]bool

// coherent reports whether two shapes are coherent.
func (p pairs) coherent(x, y *shape) bool {
	key := [2]string{x.text(), y.text()}
	if ok, known := p[key]; known {
		return ok
	}
	ok := x.head == y.head
	switch {
	case ok && x.head == "":
		ok = x.atom == y.atom
	case ok && x.head == "lam":
		ok = p.coherent(x.parts[0], y.parts[0])
	case ok:
		ok = p.coherent(x.parts[0], y.parts[0]) && p.clique(append(x.parts[1:len(x.parts):len(x.parts)], y.parts[1:]...))
	}
	p[key] = ok
	return ok
}

// clique reports whether each two shapes of a list are coherent, also each one with itself.
func (p pairs) clique(list []*shape) bool {
	for _, x := range list {
		for _, y := range list {
			if !p.coherent(x, y) {
				return false
			}
		}
	}
	return true
}

// coherentTexts reports whether two texts are resource terms that are coherent.
func (p pairs) coherentTexts(a, b string) bool {
	x, ok := termOf(a)
	y, fine := termOf(b)
	return ok && fine && p.coherent(x, y)
}

// cliqueTexts reports whether all texts of a list are resource terms and it is a clique.
func (p pairs) cliqueTexts(list []string) bool {
	all := []*shape{}
	for _, s := range list {
		x, ok := termOf(s)
		if !ok {
			return false
		}
		all = append(all, x)
	}
	return p.clique(all)
}

// joinedShape returns the lambda term of which all terms of a clique are made.
func joinedShape(list []*shape) *shape {
	if len(list) == 0 {
		return atomShape("u0")
	}
	x := list[0]
	if x.head == "" {
		return x
	}
	firsts, bags := []*shape{}, []*shape{}
	for _, y := range list {
		firsts = append(firsts, y.parts[0])
		bags = append(bags, y.parts[1:]...)
	}
	if x.head == "lam" {
		return lamShape(joinedShape(firsts))
	}
	return appShape(joinedShape(firsts), joinedShape(bags))
}

// has reports whether a resource term is in a lambda term.
func (x *shape) has(y *shape) bool {
	if x.head != y.head || x.head == "" {
		return x.head == y.head && x.atom == y.atom
	}
	if !x.parts[0].has(y.parts[0]) {
		return false
	}
	for _, u := range y.parts[1:] {
		if !x.parts[1].has(u) {
			return false
		}
	}
	return true
}

// hasAll reports whether all of a list are in a lambda term.
func (x *shape) hasAll(list []*shape) bool {
	for _, y := range list {
		if !x.has(y) {
			return false
		}
	}
	return true
}

// lambdaText writes the shape of a lambda term.
func (x *shape) lambdaText() string {
	switch x.head {
	case "lam":
		return "(lam " + x.parts[0].lambdaText() + ")"
	case "app":
		return "(app " + x.parts[0].lambdaText() + " " + x.parts[1].lambdaText() + ")"
	}
	return x.atom
}

// frontLambda reads the shape of a lambda term from the front of a text and returns what is behind it.
func frontLambda(s string) (*shape, string, bool) {
	if rest, ok := strings.CutPrefix(s, "(lam "); ok {
		x, rest, ok := frontLambda(rest)
		if !ok || !strings.HasPrefix(rest, ")") {
			return nil, "", false
		}
		return lamShape(x), rest[1:], true
	}
	if rest, ok := strings.CutPrefix(s, "(app "); ok {
		x, rest, ok := frontLambda(rest)
		if !ok || !strings.HasPrefix(rest, " ") {
			return nil, "", false
		}
		y, rest, ok := frontLambda(rest[1:])
		if !ok || !strings.HasPrefix(rest, ")") {
			return nil, "", false
		}
		return appShape(x, y), rest[1:], true
	}
	atom := atomFront.FindString(s)
	return atomShape(atom), s[len(atom):], atomWhole.MatchString(atom)
}

// lambdaOf returns the shape of a lambda term.
func lambdaOf(s string) (*shape, bool) {
	x, rest, ok := frontLambda(s)
	if !ok || rest != "" || !x.closed(0) || x.size() > 60 {
		return nil, false
	}
	return x, true
}

// smallLambdas returns all shapes of lambda terms, closed or not, of just a size with atoms.
func smallLambdas(size int, atoms ...string) []*shape {
	all := []*shape{}
	if size == 1 {
		for _, atom := range atoms {
			all = append(all, atomShape(atom))
		}
		return all
	}
	for _, u := range smallLambdas(size-1, atoms...) {
		all = append(all, lamShape(u))
	}
	for first := 1; first < size-1; first++ {
		for _, u := range smallLambdas(first, atoms...) {
			for _, v := range smallLambdas(size-1-first, atoms...) {
				all = append(all, appShape(u, v))
			}
		}
	}
	return all
}

// lambda returns the shape of a lambda term of just a size within a number of lam, with many steps.
func (d *dice) lambda(size, lams int) *shape {
	switch {
	case size <= 1:
		return d.leaf(lams)
	case size == 2 || d.roll(4) == 0:
		return lamShape(d.lambda(size-1, lams+1))
	}
	first := 1 + d.roll(size-2)
	if first > 1 && d.roll(2) == 0 {
		return appShape(lamShape(d.lambda(first-1, lams+1)), d.lambda(size-1-first, lams))
	}
	return appShape(d.lambda(first, lams), d.lambda(size-1-first, lams))
}

// within returns a resource term in a lambda term, with as many terms in a bag, most often, as a redex has places.
func (d *dice) within(m *shape) *shape {
	switch m.head {
	case "":
		return m
	case "lam":
		return lamShape(d.within(m.parts[0]))
	}
	x := appShape(d.within(m.parts[0]))
	n := []int{0, 1, 1, 2, 3}[d.roll(5)]
	if x.parts[0].head == "lam" {
		n = d.mostly(x.parts[0].opened(mark(0)).count(mark(0)))
	}
	for range n {
		u := d.within(m.parts[1])
		if len(x.parts) > 1 && d.roll(4) == 0 {
			u = x.parts[1]
		}
		x.parts = append(x.parts, u)
	}
	return x
}

// clique returns the texts of resource terms in one lambda term, those of at most a size among a number of them.
func (d *dice) clique(m *shape, count, size int) []string {
	list := []string{}
	for range count {
		if x := d.within(m).sorted(); x.size() <= size {
			list = append(list, x.text())
		}
	}
	return list
}

// changed returns a lambda term with one of its atoms, or none, replaced by a name.
func (d *dice) changed(m *shape) *shape {
	left := d.roll(m.size())
	return m.swap(0, func(atom string, lams int) string {
		if left--; left == -1 {
			return []string{"x", "y", "z", "q"}[d.roll(4)]
		}
		return atom
	})
}
