package impl

import (
	"maps"
	"slices"
	"strconv"
	"strings"
)

// TextMax is the greatest number of bytes of a text.
const TextMax = 4000

// SizeMax is the greatest size of a term.
// It alone bounds what is made of terms: each 1 of a size takes at most 11 bytes, 2 parentheses within each other and 1 index, far below the other limits.
const SizeMax = 60

// nestMax is how often parentheses may be within each other.
const nestMax = 100

// nameMax is the greatest number of bytes of a name.
const nameMax = 3

// indexDigits is the greatest number of digits of an index, which is at most 99.
const indexDigits = 2

// kidName stands in what TermKids returns for the index of the lam that is taken away.
const kidName = "k0"

// TermValid reports whether a text is a resource term.
func TermValid(s string) bool {
	_, ok := newTermPool().read(s)
	return ok
}

// TermSort returns the resource term that a text becomes when it is sorted, and true.
func TermSort(s string) (string, bool) {
	t, ok := newTermPool().readUnsorted(s)
	if !ok {
		return "", false
	}
	return t.text, true
}

// TermSize returns the size of a resource term, or -1 if the text is none.
func TermSize(s string) int {
	t, ok := newTermPool().read(s)
	if !ok {
		return -1
	}
	return t.size
}

// TermNames returns the names of a resource term, sorted byte by byte, each one once, and true.
func TermNames(s string) ([]string, bool) {
	t, ok := newTermPool().read(s)
	if !ok {
		return []string{}, false
	}
	return slices.Sorted(maps.Keys(t.degrees())), true
}

// TermDegree returns the degree of a resource term in a name, or -1 if the texts are none.
func TermDegree(s string, name string) int {
	t, ok := newTermPool().read(s)
	if !ok || !isName(name) {
		return -1
	}
	return t.degrees()[name]
}

// TermKids returns an empty list for a name, lam and s with the name k0 in the place of the index of this lam, sorted, for (lam s), and app, s and the resource terms of the bag in order for (app s B).
func TermKids(s string) ([]string, bool) {
	p := newTermPool()
	t, ok := p.read(s)
	if !ok {
		return []string{}, false
	}
	switch t.kind {
	case lamTerm:
		return []string{"lam", p.open(t, kidName).text}, true
	case appTerm:
		return append([]string{"app", t.first.text}, bagTexts(t.bag)...), true
	}
	return []string{}, true
}

// BagSort returns the bag of a list of resource terms, and true.
func BagSort(list []string) (string, bool) {
	p := newTermPool()
	// The least term with a bag is an app of an atom: 1 for each of both.
	size := 2
	bag := []*term{}
	for _, s := range list {
		t, ok := p.read(s)
		if !ok || size+t.size > SizeMax {
			return "", false
		}
		size += t.size
		bag = append(bag, t)
	}
	return bagText(sortedBag(bag)), true
}

// TermRename returns the resource term with a name replaced by another one, sorted, and true.
func TermRename(s string, name string, by string) (string, bool) {
	p := newTermPool()
	t, ok := p.read(s)
	if !ok || !isName(name) || !isName(by) {
		return "", false
	}
	return p.rename(t, name, by).text, true
}

// TermBind returns the resource term (lam s) in which a name is bound.
func TermBind(s string, name string) (string, bool) {
	p := newTermPool()
	t, ok := p.read(s)
	if !ok || !isName(name) || t.size+1 > SizeMax {
		return "", false
	}
	return p.bind(t, name).text, true
}

// TermOpen returns s of a resource term (lam s) with a name in the place of the index of this lam, sorted, and true.
func TermOpen(s string, name string) (string, bool) {
	p := newTermPool()
	t, ok := p.read(s)
	if !ok || t.kind != lamTerm || !isName(name) || t.degrees()[name] > 0 {
		return "", false
	}
	return p.open(t, name).text, true
}

// termKind tells what a term is.
type termKind int

const (
	nameTerm termKind = iota
	indexTerm
	lamTerm
	appTerm
)

// term is a resource term, or a part of one: then its indices may be those of lam around the part.
// A term is never changed once it is made, since equal ones are the same.
type term struct {
	kind  termKind
	text  string
	size  int
	index int     // what the text of an indexTerm tells
	outer int     // how many lam must be around it for its indices: 0 for a resource term
	first *term   // s of a lamTerm or an appTerm
	bag   []*term // of an appTerm, sorted
}

// degrees returns how often each name is in a term.
func (t *term) degrees() map[string]int {
	counts := map[string]int{}
	t.countNames(counts)
	return counts
}

// countNames adds to counts how often each name is in a term.
func (t *term) countNames(counts map[string]int) {
	if t.kind == nameTerm {
		counts[t.text]++
	}
	if t.first != nil {
		t.first.countNames(counts)
	}
	for _, u := range t.bag {
		u.countNames(counts)
	}
}

// sortedBag returns the terms of a bag sorted by their texts, as a new slice.
func sortedBag(bag []*term) []*term {
	sorted := slices.Clone(bag)
	slices.SortFunc(sorted, func(a, b *term) int {
		return strings.Compare(a.text, b.text)
	})
	return sorted
}

// bagTexts returns the texts of the terms of a bag.
func bagTexts(bag []*term) []string {
	texts := []string{}
	for _, t := range bag {
		texts = append(texts, t.text)
	}
	return texts
}

// bagText returns the text of a bag that is sorted.
func bagText(bag []*term) string {
	return "(" + strings.Join(append([]string{"m"}, bagTexts(bag)...), " ") + ")"
}

// termPool holds the terms of one call by their texts; equal ones are one pointer.
type termPool struct {
	known map[string]*term
	base  *termPool // what it holds is in the pool, too; nil if there is none
}

// newTermPool returns a pool without terms.
func newTermPool() *termPool {
	return &termPool{known: map[string]*term{}}
}

// scratch returns a pool with the terms of p, which does not get those that are made in it: they can be let go while p is still there.
func (p *termPool) scratch() *termPool {
	return &termPool{known: map[string]*term{}, base: p}
}

// find returns the term in the pool with a text, or nil if there is none.
func (p *termPool) find(text string) *term {
	for q := p; q != nil; q = q.base {
		if t, ok := q.known[text]; ok {
			return t
		}
	}
	return nil
}

// intern returns the term in the pool that is equal to t, which becomes it if there is none.
func (p *termPool) intern(t term) *term {
	if old := p.find(t.text); old != nil {
		return old
	}
	p.known[t.text] = &t
	return &t
}

// name returns the term of a name.
func (p *termPool) name(name string) *term {
	return p.intern(term{kind: nameTerm, text: name, size: 1})
}

// index returns the term of an index.
func (p *termPool) index(n int) *term {
	return p.intern(term{kind: indexTerm, text: strconv.Itoa(n), size: 1, index: n, outer: n + 1})
}

// lam returns the term (lam s).
func (p *termPool) lam(s *term) *term {
	return p.intern(term{kind: lamTerm, text: "(lam " + s.text + ")", size: 1 + s.size, outer: max(0, s.outer-1), first: s})
}

// app returns the term (app s B) for the terms of a bag in any order.
func (p *termPool) app(s *term, bag []*term) *term {
	sorted := sortedBag(bag)
	size, outer := 1+s.size, s.outer
	for _, t := range sorted {
		size += t.size
		outer = max(outer, t.outer)
	}
	text := "(app " + s.text + " " + bagText(sorted) + ")"
	return p.intern(term{kind: appTerm, text: text, size: size, outer: outer, first: s, bag: sorted})
}

// read returns the term of a text that is a resource term.
func (p *termPool) read(s string) (*term, bool) {
	t, ok := p.readUnsorted(s)
	if !ok || t.text != s {
		return nil, false
	}
	return t, true
}

// readUnsorted returns the resource term that a text becomes when it is sorted.
func (p *termPool) readUnsorted(s string) (*term, bool) {
	x, ok := readText(s)
	if !ok {
		return nil, false
	}
	t, ok := p.fromPart(x, 0)
	if !ok || t.size > SizeMax {
		return nil, false
	}
	return t, true
}

// fromPart returns the term, sorted, that a part of a text tells within a number of lam.
func (p *termPool) fromPart(x *textPart, lams int) (*term, bool) {
	if len(x.list) == 0 {
		return p.fromAtom(x.atom, lams)
	}
	switch head := x.list[0].atom; {
	case head == "lam" && len(x.list) == 2:
		s, ok := p.fromPart(x.list[1], lams+1)
		if !ok {
			return nil, false
		}
		return p.lam(s), true
	case head == "app" && len(x.list) == 3:
		s, ok := p.fromPart(x.list[1], lams)
		if !ok {
			return nil, false
		}
		bag, ok := p.fromBag(x.list[2], lams)
		if !ok {
			return nil, false
		}
		return p.app(s, bag), true
	}
	return nil, false
}

// fromAtom returns the term of a name, or of an index that is less than a number of lam.
func (p *termPool) fromAtom(atom string, lams int) (*term, bool) {
	if isName(atom) {
		return p.name(atom), true
	}
	n, ok := readIndex(atom)
	if !ok || n >= lams {
		return nil, false
	}
	return p.index(n), true
}

// fromBag returns the terms, each one sorted, of a bag that need not be sorted, within a number of lam.
func (p *termPool) fromBag(x *textPart, lams int) ([]*term, bool) {
	if len(x.list) == 0 || x.list[0].atom != "m" {
		return nil, false
	}
	bag := []*term{}
	for _, part := range x.list[1:] {
		t, ok := p.fromPart(part, lams)
		if !ok {
			return nil, false
		}
		bag = append(bag, t)
	}
	return bag, true
}

// rename returns a term with a name replaced by another one.
func (p *termPool) rename(t *term, name string, by string) *term {
	return p.swap(t, 0, func(u *term, lams int) *term {
		if u.kind == nameTerm && u.text == name {
			return p.name(by)
		}
		return u
	})
}

// bind returns (lam s) for a resource term in which a name becomes the index of this lam.
func (p *termPool) bind(t *term, name string) *term {
	return p.lam(p.swap(t, 0, func(u *term, lams int) *term {
		if u.kind == nameTerm && u.text == name {
			return p.index(lams)
		}
		return u
	}))
}

// open returns s of (lam s) in which the index of this lam becomes a name, and those of lam further outside become 1 less.
func (p *termPool) open(t *term, name string) *term {
	return p.swap(t.first, 0, func(u *term, lams int) *term {
		switch {
		case u.kind == indexTerm && u.index == lams:
			return p.name(name)
		case u.kind == indexTerm && u.index > lams:
			return p.index(u.index - 1)
		}
		return u
	})
}

// raise returns a term with its indices of lam outside of it raised by a number, as they are when so many more lam are between.
func (p *termPool) raise(t *term, by int) *term {
	if by == 0 || t.outer == 0 {
		return t
	}
	return p.swap(t, 0, func(u *term, lams int) *term {
		if u.kind == indexTerm && u.index >= lams {
			return p.index(u.index + by)
		}
		return u
	})
}

// swap returns a term with each name and index, from the front of its text on, replaced by what leaf returns for it and the number of lam around it, of which lams are outside of the term.
// A part in which all stays is not made again: it is the same pointer.
func (p *termPool) swap(t *term, lams int, leaf func(u *term, lams int) *term) *term {
	switch t.kind {
	case lamTerm:
		s := p.swap(t.first, lams+1, leaf)
		if s == t.first {
			return t
		}
		return p.lam(s)
	case appTerm:
		s := p.swap(t.first, lams, leaf)
		bag := []*term{}
		for _, u := range t.bag {
			bag = append(bag, p.swap(u, lams, leaf))
		}
		if s == t.first && slices.Equal(bag, t.bag) {
			return t
		}
		return p.app(s, bag)
	}
	return leaf(t, lams)
}

// isName reports whether a text is a name.
func isName(s string) bool {
	if s == "" || len(s) > nameMax || s[0] < 'a' || s[0] > 'z' {
		return false
	}
	return allDigits(s[1:])
}

// readIndex returns the number of an atom that is an index, whatever lam are around it.
func readIndex(s string) (int, bool) {
	if s == "" || len(s) > indexDigits || !allDigits(s) || s[0] == '0' && s != "0" {
		return 0, false
	}
	n, err := strconv.Atoi(s)
	return n, err == nil
}

// allDigits reports whether a text has no bytes but decimal digits.
func allDigits(s string) bool {
	for i := range len(s) {
		if s[i] < '0' || s[i] > '9' {
			return false
		}
	}
	return true
}

// textPart is an atom, or else the parts, at least one, in a pair of parentheses.
type textPart struct {
	atom string
	list []*textPart
}

// textReader reads a text from its front.
type textReader struct {
	text string
	at   int
	nest int
}

// readText returns the only part of a text.
func readText(s string) (*textPart, bool) {
	if len(s) > TextMax {
		return nil, false
	}
	r := &textReader{text: s}
	x, ok := r.part()
	if !ok || r.at != len(s) {
		return nil, false
	}
	return x, true
}

// part reads an atom or parentheses.
func (r *textReader) part() (*textPart, bool) {
	if r.skip('(') {
		return r.parts()
	}
	from := r.at
	for r.at < len(r.text) && isAtomByte(r.text[r.at]) {
		r.at++
	}
	return &textPart{atom: r.text[from:r.at]}, r.at > from
}

// parts reads what is behind an opening parenthesis, and the closing one.
func (r *textReader) parts() (*textPart, bool) {
	r.nest++
	if r.nest > nestMax {
		return nil, false
	}
	list := &textPart{}
	for {
		x, ok := r.part()
		if !ok {
			return nil, false
		}
		list.list = append(list.list, x)
		if r.skip(')') {
			r.nest--
			return list, true
		}
		if !r.skip(' ') {
			return nil, false
		}
	}
}

// skip goes past the next byte if it is c.
func (r *textReader) skip(c byte) bool {
	if r.at == len(r.text) || r.text[r.at] != c {
		return false
	}
	r.at++
	return true
}

// isAtomByte reports whether a byte may be in an atom.
func isAtomByte(c byte) bool {
	return c >= 'a' && c <= 'z' || c >= '0' && c <= '9'
}
