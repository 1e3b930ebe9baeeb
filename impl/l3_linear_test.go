package impl

import (
	"slices"
	"strings"
	"testing"
)

// textsOf returns the texts of a list of terms with spaces between.
func textsOf(list []*term) string {
	return strings.Join(bagTexts(list), " ")
}

// readTerms returns the terms of texts with spaces between.
func readTerms(t *testing.T, p *termPool, texts string) []*term {
	list := []*term{}
	for _, text := range strings.Fields(texts) {
		u, ok := p.read(text)
		if !ok {
			t.Fatalf("%q is no term", text)
		}
		list = append(list, u)
	}
	return list
}

func TestPermutations(t *testing.T) {
	for _, c := range []struct {
		bag    string
		orders []string
		ways   int
	}{
		{"", []string{""}, 1},
		{"x", []string{"x"}, 1},
		{"y x", []string{"x y", "y x"}, 1},
		{"x x", []string{"x x"}, 2},
		{"b a b", []string{"a b b", "b a b", "b b a"}, 2},
		{"c a b", []string{"a b c", "a c b", "b a c", "b c a", "c a b", "c b a"}, 1},
		{"b a b a", []string{"a a b b", "a b a b", "a b b a", "b a a b", "b a b a", "b b a a"}, 4},
		{"x x x x x x", []string{"x x x x x x"}, 720},
	} {
		bag := readTerms(t, newTermPool(), c.bag)
		orders := []string{}
		for list := range permutations(bag) {
			orders = append(orders, textsOf(list))
		}
		if !slices.Equal(orders, c.orders) || equalOrders(bag) != c.ways || textsOf(bag) != c.bag {
			t.Errorf("the orders of %q, now %q: %q, each one in %d ways", c.bag, textsOf(bag), orders, equalOrders(bag))
		}
	}
	for bag, count := range map[string]int{"a b c d e f": 720, "a a b c d e": 360, "a b a c b d": 180, "a b c a b c": 90, "a b a b a b": 20, "a b c d e": 120} {
		list := readTerms(t, newTermPool(), bag)
		orders := map[string]bool{}
		total := 0
		for order := range permutations(list) {
			orders[textsOf(order)] = true
			total += equalOrders(order)
		}
		if len(orders) != count || total != map[int]int{6: 720, 5: 120}[len(list)] {
			t.Errorf("%q has %d orders, %d with equal terms apart", bag, len(orders), total)
		}
	}
}

func TestPermutationsThatAreLeft(t *testing.T) {
	bag := readTerms(t, newTermPool(), "c b a")
	for most := 1; most <= 6; most++ {
		count := 0
		for range permutations(bag) {
			if count++; count == most {
				break
			}
		}
		if count != most || textsOf(bag) != "c b a" {
			t.Errorf("%d orders of %q, not %d", count, textsOf(bag), most)
		}
	}
}

func TestScratchPools(t *testing.T) {
	p := newTermPool()
	old := p.name("x")
	q := p.scratch()
	if q.name("x") != old || q.find("x") != old || q.find("y") != nil {
		t.Error("a scratch pool does not have just the terms of the pool")
	}
	made := q.lam(q.name("y"))
	if q.find("(lam y)") != made || q.lam(q.name("y")) != made || q.scratch().find("(lam y)") != made {
		t.Error("a scratch pool does not have what is made in it")
	}
	if len(p.known) != 1 || p.find("(lam y)") != nil {
		t.Errorf("the pool has %d terms", len(p.known))
	}
}

func TestSwapKeepsWhatStays(t *testing.T) {
	p := newTermPool()
	s, _ := p.read("(lam (app (app x (m 0)) (m (lam (app y (m 1))) (lam x) z)))")
	if p.fill(s, "w", nil) != s || p.rename(s, "w", "a") != s || p.rename(s, "x", "x") != s {
		t.Error("a term in which all stays is made again")
	}
	known := len(p.known)
	got := p.fill(s, "y", []*term{p.name("x")})
	if want := "(lam (app (app x (m 0)) (m (lam (app x (m 1))) (lam x) z)))"; got.text != want {
		t.Errorf("%q, not %q", got.text, want)
	}
	// What changes: the app and the lam around y, and the app and the lam around them.
	if len(p.known) != known+4 || got.first.first != s.first.first {
		t.Errorf("%d terms are made", len(p.known)-known)
	}
}

func TestHoles(t *testing.T) {
	for _, c := range []struct {
		text string
		want map[string]int
	}{
		{"y", nil}, {"x", map[string]int{"-": 1}}, {"(lam x)", map[string]int{"(lam -)": 1}},
		{"(app x (m x x x y))", map[string]int{"(app - (m x x x y))": 1, "(app x (m - x x y))": 3}},
		{"(app y (m (lam x) (lam x) x))", map[string]int{"(app y (m (lam -) (lam x) x))": 2, "(app y (m (lam x) (lam x) -))": 1}},
	} {
		p := newTermPool()
		s, _ := p.read(c.text)
		got := map[string]int{}
		for u, count := range p.putOnce(s, "x", p.name(hole)) {
			// The bag is in the order of its texts, "(" before "-" before letters.
			got[u.text] = count
		}
		if len(got) != len(c.want) {
			t.Errorf("the holes of %q: %v", c.text, got)
		}
		for text, count := range c.want {
			if got[text] != count {
				t.Errorf("the holes of %q: %v", c.text, got)
			}
		}
	}
}

func TestStampsOfTermsThatAreNotMade(t *testing.T) {
	p := newTermPool()
	texts := []string{"x", "y", "x1", "(lam 0)", "(lam x)", "(lam (lam 0))", "(lam (lam 1))", "(app x (m))", "(app x (m y))", "(app y (m x))", "(app x (m x y))", "(app x (m x x y))", "(app (app x (m)) (m y))", "(app x (m (app x (m)) y))", "(app x (m (app x (m y))))", "(lam (app x (m y)))", "(app x (m (lam y)))", "(app (lam x) (m y))", "(lam (app 0 (m (lam 0) (lam 1) x x x y)))"}
	stamps := map[uint64]bool{}
	for _, text := range texts {
		s, _ := p.read(text)
		stamps[s.stamp(0)] = true
		for u := range p.putOnce(s, "x", p.name(hole)) {
			for _, other := range texts {
				by, _ := p.read(other)
				if made := p.fill(u, hole, []*term{by}); made.stamp(7) != u.stamp(by.stamp(5)) {
					t.Errorf("%q has another stamp than %q filled with %q", made.text, u.text, other)
				}
			}
		}
	}
	if len(stamps) != len(texts) {
		t.Errorf("%d stamps of %d terms", len(stamps), len(texts))
	}
}

func TestSharesHaveWholeFractions(t *testing.T) {
	p := newTermPool()
	others := sumMap{}
	for i, u := range readTerms(t, p, "a b c d e f g h w y z") {
		others.add(u.text, fractionOf(i-4, 3))
	}
	s, _ := p.read("(app x (m (app x (m x x)) (lam x) a b c x x))")
	whole, ok := p.derive(s, "x", others, 1)
	if !ok || len(whole) != 5*10 {
		t.Fatalf("%d terms, %v", len(whole), ok)
	}
	for _, share := range []int{2, 3, 16} {
		part, ok := p.derive(s, "x", others, share)
		if !ok || len(part) == 0 || len(part) == len(whole) {
			t.Errorf("of %d terms a share of %d has %d, %v", len(whole), share, len(part), ok)
		}
		for text, f := range part {
			if ratOf(f).Cmp(ratOf(whole[text])) != 0 {
				t.Errorf("%s: %v in the share, %v in the whole", text, ratOf(f), ratOf(whole[text]))
			}
		}
	}
}
