package impl

import (
	"slices"
	"strings"
	"testing"
)

// partOf returns a part of a term, which may have indices of lam outside of it, found within so many lam as the text can need.
func partOf(t *testing.T, p *termPool, text string) *term {
	x, ok := readText(text)
	if !ok {
		t.Fatalf("%q is no text", text)
	}
	u, ok := p.fromPart(x, 100)
	if !ok || u.text != text {
		t.Fatalf("%q is no part", text)
	}
	return u
}

func TestOuterLams(t *testing.T) {
	for text, want := range map[string]int{
		"x": 0, "0": 1, "7": 8, "(lam 0)": 0, "(lam x)": 0, "(lam 1)": 1, "(lam (lam 4))": 3, "(app x (m))": 0, "(app 2 (m 0 1))": 3, "(app x (m 0 5))": 6, "(app (lam 3) (m (lam 0) 1))": 3, "(lam (app 0 (m (lam 1) x)))": 0,
	} {
		if u := partOf(t, newTermPool(), text); u.outer != want {
			t.Errorf("%s needs %d lam, not %d", text, u.outer, want)
		}
	}
}

func TestRaising(t *testing.T) {
	for _, c := range []struct {
		text string
		by   int
		want string
	}{
		{"x", 3, "x"}, {"0", 0, "0"}, {"0", 1, "1"}, {"3", 5, "8"}, {"(lam 0)", 4, "(lam 0)"}, {"(lam 1)", 4, "(lam 5)"}, {"(lam (lam (app 3 (m 0 1 2))))", 2, "(lam (lam (app 5 (m 0 1 4))))"}, {"(app 0 (m (lam 0) (lam 1) 1 x))", 1, "(app 1 (m (lam 0) (lam 2) 2 x))"}, {"(app x (m 0 8 9))", 2, "(app x (m 10 11 2))"},
	} {
		p := newTermPool()
		u := partOf(t, p, c.text)
		if got := p.raise(u, c.by); got.text != c.want || (c.text == c.want) != (got == u) {
			t.Errorf("%s raised by %d: %s, not %s", c.text, c.by, got.text, c.want)
		}
	}
}

func TestOpeningLowersWhatIsFurtherOutside(t *testing.T) {
	for text, want := range map[string]string{
		"(lam 0)": "k", "(lam x)": "x", "(lam 1)": "0", "(lam 9)": "8", "(lam (lam (app 0 (m 1 2))))": "(lam (app 0 (m 1 k)))", "(lam (app 0 (m (lam 1) (lam 2) 0 3)))": "(app k (m (lam 1) (lam k) 2 k))",
	} {
		p := newTermPool()
		if got := p.open(partOf(t, p, text), "k"); got.text != want {
			t.Errorf("%s opened: %s, not %s", text, got.text, want)
		}
	}
}

func TestSpotsAreInTheOrderOfTheText(t *testing.T) {
	p := newTermPool()
	text := "(app (app x (m (lam 0) y)) (m (app (lam y) (m)) (lam (lam 1)) y y))"
	u := partOf(t, p, text)
	parts := []string{}
	for i, at := range spots(u) {
		parts = append(parts, at.part.text)
		if p.replace(at, at.part) != u {
			t.Errorf("the part %d replaced by itself: %s", i, p.replace(at, at.part).text)
		}
	}
	want := []string{text, "(app x (m (lam 0) y))", "x", "(lam 0)", "0", "y", "(app (lam y) (m))", "(lam y)", "y", "(lam (lam 1))", "(lam 1)", "1", "y", "y"}
	if !slices.Equal(parts, want) {
		t.Errorf("the parts are %q", parts)
	}
	for i, want := range map[int]string{0: "a", 2: "(app (app a (m (lam 0) y)) (m (app (lam y) (m)) (lam (lam 1)) y y))", 4: "(app (app x (m (lam a) y)) (m (app (lam y) (m)) (lam (lam 1)) y y))", 6: "(app (app x (m (lam 0) y)) (m (lam (lam 1)) a y y))", 13: "(app (app x (m (lam 0) y)) (m (app (lam y) (m)) (lam (lam 1)) a y))"} {
		if got := p.replace(spots(u)[i], p.name("a")); got.text != want {
			t.Errorf("the part %d replaced: %s, not %s", i, got.text, want)
		}
	}
	if u.text != text || textsOf(u.bag) != "(app (lam y) (m)) (lam (lam 1)) y y" {
		t.Errorf("%s became %s", text, u.text)
	}
}

func TestPuttingInTurnIsPuttingAllWays(t *testing.T) {
	for _, c := range [][2]string{
		{"x", ""}, {"-", "y"}, {"(app - (m -))", "a b"}, {"(app - (m -))", "a a"}, {"(app x (m - - -))", "a a b"}, {"(app x (m - - -))", "a b b"}, {"(app - (m (app - (m)) (app - (m)) - -))", "a a b b c"}, {"(app (lam (app - (m 0))) (m (lam -) (lam -)))", "b b l"}, {"(app x (m (app x (m - -)) (app x (m - -)) (app x (m - -))))", "a b c d e f"}, {"(app x (m (app x (m - -)) (app x (m - -)) (app x (m - -))))", "a a a b b c"},
	} {
		p := newTermPool()
		s := partOf(t, p, strings.ReplaceAll(c[0], "-", "h"))
		s = p.rename(s, "h", hole)
		bag := readTerms(t, p, c[1])
		counts := p.putInTurn(s, bag)
		want := map[*term]int{}
		for list := range permutations(bag) {
			want[p.fill(s, hole, list)] += equalOrders(bag)
		}
		if len(counts) != len(want) {
			t.Errorf("%s in %s: %d terms, not %d", c[1], c[0], len(counts), len(want))
		}
		for u, n := range want {
			if counts[u] != n {
				t.Errorf("%s in %s: %d times %s, not %d", c[1], c[0], counts[u], u.text, n)
			}
		}
	}
}
