package tests

import (
	"fmt"
	"slices"
	"strings"
	"sync"
	"testing"

	"loop.example/resourceterms/impl"
)

// equals returns the redex with n places, all in one bag, and a bag of k terms.
func equals(n, k int) string {
	return "(app (lam (app x (m" + strings.Repeat(" 0", n) + "))) (m" + strings.Repeat(" y", k) + "))"
}

// heads returns the redex with n places, each one the first part of an app, then a last atom, and a bag.
func heads(n int, last, bag string) string {
	return sortedText("(app (lam " + nested("(app 0 (m ", last, "))", n) + ") (m " + bag + "))")
}

// alike returns n redexes within each other, each one with 6 places that are the bag of the next one.
func alike(n int) string {
	s := "(app x (m 0 0 0 0 0 0))"
	for range n - 1 {
		s = "(app (lam " + s + ") (m 0 0 0 0 0 0))"
	}
	return "(app (lam " + s + ") (m y y y y y y))"
}

// delayed returns the redex with places in one bag, each one within a number of redexes (app (lam 0) (m 0)), and a bag.
func delayed(depths []int, bag string) string {
	s := "(app (lam (app x (m"
	for _, n := range depths {
		s += " " + nested("(app (lam 0) (m ", "0", "))", n)
	}
	return sortedText(s + "))) (m " + bag + "))")
}

// later returns a redex with 5 terms for 5 places: 4 names and a lam with n places as heads, which meets a bag of its own at just one of these.
func later(n int, last, bag string) string {
	return sortedText("(app (lam " + nested("(app x (m 0 ", "(app 0 (m "+bag+"))", "))", 4) + ") (m (lam " + nested("(app 0 (m ", last, "))", n) + ") p q r s))")
}

// sortedText sorts the bags of a text.
func sortedText(s string) string {
	x, _ := shapeOf(s)
	return x.sorted().text()
}

// inBag returns the app of a name with terms in its bag, sorted.
func inBag(list ...string) string {
	return sortedText("(app v (m " + strings.Join(list, " ") + "))")
}

const (
	// gone comes to nothing.
	gone = "(app (lam z) (m x))"
	// goneFirst does, too, and its text is ahead of other redexes.
	goneFirst = "(app (app (lam z) (m x)) (m))"
)

// crowd is a redex that is too large.
var crowd = equals(7, 7)

// steppingTerms are resource terms with redexes, edges and others.
func steppingTerms(d *dice, count, size int) []string {
	all := []string{
		"(app (lam 0) (m))", "(app (lam 0) (m x))", "(app (lam 0) (m x y))", "(app (lam x) (m))", "(app (lam x) (m x))", "(lam (app (lam 0) (m 0)))", "(lam (app (lam 1) (m)))", "(app (lam (lam 0)) (m))", "(app (lam (lam 1)) (m x))",
		"(app (lam (app 0 (m 0))) (m x y))", "(app (lam (app 0 (m 0))) (m (lam (app 0 (m 0))) (lam (app 0 (m 0)))))", "(app x (m (app (lam 0) (m x)) (app (lam 0) (m x))))", "(app (app (lam (lam (app 0 (m 1)))) (m x)) (m y))", "(app (lam (app (lam 0) (m 0))) (m (app (lam 0) (m x))))",
		equals(6, 6), equals(6, 7), crowd, heads(5, "y", "a b c d e"), heads(6, "y", "a b c d e f"), alike(3), delayed([]int{0, 0, 1, 1, 2}, "a b c d e"), inBag(crowd, gone), inBag(crowd, goneFirst),
	}
	for range count {
		all = append(all, d.steppingTerm(size))
	}
	return all
}

func TestPromise30CountingAtTheEdges(t *testing.T) {
	for _, c := range []struct {
		s    string
		want int
	}{
		{"x", 0}, {"(lam 0)", 0}, {"(lam (lam 1))", 0}, {"(app x (m))", 0}, {"(app x (m (lam 0)))", 0}, {"(app (app x (m)) (m (lam x)))", 0}, {"(lam (app 0 (m 0)))", 0},
		{"(app (lam 0) (m))", 1}, {"(app (lam x) (m))", 1}, {"(app (lam 0) (m x))", 1}, {"(app (lam 0) (m x y))", 1}, {"(app (lam (lam 0)) (m))", 1}, {"(app (app (lam 0) (m)) (m))", 1},
		{"(lam (app (lam 0) (m)))", 1}, {"(lam (lam (app x (m (lam (app (lam 2) (m)))))))", 1}, {"(app x (m (app (lam 0) (m x))))", 1}, {"(app x (m (app (lam 0) (m x)) (app (lam 0) (m x)) y))", 2}, {"(app x (m (app (lam y) (m)) (app (lam z) (m)) (lam (app (lam 0) (m)))))", 3},
		{"(app (lam (app (lam 0) (m 0))) (m))", 2}, {"(app (lam (app (lam 0) (m 0))) (m (app (lam 0) (m x))))", 3}, {"(app (app (lam (app (lam 0) (m 0))) (m (app (lam 0) (m x)))) (m (app (lam 0) (m x))))", 4},
		{equals(7, 7), 1}, {equals(0, 7), 1}, {equals(25, 28), 1}, {inBag(crowd, gone), 2}, {nested("(app (lam ", "x", ") (m))", 29), 29}, {nested("(lam ", "(app (lam 0) (m))", ")", 57), 1}, {"(app x (m" + strings.Repeat(" (app (lam y) (m))", 19) + "))", 19},
	} {
		if n := impl.RedexCount(c.s); n != c.want || n != len(reductsOf(c.s)) || impl.TermNormal(c.s) != (n == 0) {
			t.Errorf("RedexCount(%s) = %d, not %d", c.s, n, c.want)
		}
	}
}

func TestPromise30Counting(t *testing.T) {
	d := dice(73)
	bound := 0
	for _, s := range append(steppingTerms(&d, 600, 40), someTerms()...) {
		n := impl.RedexCount(s)
		if n != len(reductsOf(s)) {
			t.Fatalf("RedexCount(%s) = %d, not %d", s, n, len(reductsOf(s)))
		}
		if impl.TermNormal(s) != (n == 0) {
			t.Errorf("TermNormal(%s) = %v for %d redexes", s, n != 0, n)
		}
		for _, k := range []int{n, n + 1, n + 1<<32, -1, -n - 1, 1<<63 - 1, -1 << 63} {
			got, ok := impl.TermStep(s, k)
			checkFails(t, say("TermStep(%s, %d) of %d", s, k, n), got, ok)
		}
		for _, name := range []string{"x", "y", "q"} {
			if b, ok := impl.TermBind(s, name); ok {
				if m := impl.RedexCount(b); m != n {
					t.Errorf("RedexCount(%s) = %d, but %d of %s", s, n, m, b)
				}
				bound += n
			}
		}
	}
	if bound < 1000 {
		t.Errorf("only %d redexes in bound terms", bound)
	}
}

func TestPromise30InvalidTexts(t *testing.T) {
	bad := append(otherTexts(), "(app (lam 0) (m y x))", "(app (lam (app x (m y 0))) (m x))", "(app (lam 1) (m))", "(app (lam 0) (m 0))", "(app (lam 0) x)", "(app (lam 0) (m "+large(58)+"))", equals(29, 29))
	for _, s := range bad {
		if n := impl.RedexCount(s); n != -1 || impl.TermNormal(s) {
			t.Errorf("RedexCount(%.80q) = %d, TermNormal %v", s, n, impl.TermNormal(s))
		}
		for _, k := range []int{-1, 0, 1} {
			got, ok := impl.TermStep(s, k)
			checkFails(t, say("TermStep(%.80q, %d)", s, k), got, ok)
		}
		got, ok := impl.NormalSum(s)
		checkFails(t, say("NormalSum(%.80q)", s), got, ok)
		if n := impl.NormalLong(s); n != -1 || impl.NormalNone(s) {
			t.Errorf("NormalLong(%.80q) = %d, NormalNone %v", s, n, impl.NormalNone(s))
		}
		if name, ok := impl.HeadName(s); ok || name != "" {
			t.Errorf("HeadName(%.80q) = %q, %v", s, name, ok)
		}
	}
}

func TestPromise31NormalTerms(t *testing.T) {
	d := dice(79)
	terms := append(steppingTerms(&d, 200, 12), someTerms()...)
	for range 400 {
		terms = append(terms, d.grow(1+d.roll(9), 0).sorted().text())
	}
	normal := 0
	for _, s := range terms {
		if impl.TermNormal(s) != (len(reductsOf(s)) == 0) {
			t.Fatalf("TermNormal(%s) = %v", s, impl.TermNormal(s))
		}
		if !impl.TermNormal(s) {
			continue
		}
		normal++
		got, ok := impl.TermStep(s, 0)
		checkFails(t, say("TermStep(%s, 0)", s), got, ok)
		if got, ok := impl.NormalSum(s); !ok || !sameSum(got, one(s)) {
			t.Error(say("NormalSum(%s) = %v, %v", s, got, ok))
		}
		if n := impl.NormalLong(s); n != 0 || impl.NormalNone(s) {
			t.Errorf("NormalLong(%s) = %d, NormalNone %v", s, n, impl.NormalNone(s))
		}
	}
	if normal < 300 {
		t.Errorf("only %d normal terms", normal)
	}
}

func TestPromise32StepsAtTheEdges(t *testing.T) {
	three := "(app (app (lam x) (m)) (m (app (lam y) (m)) (app (lam z) (m))))"
	inner := "(app (lam (app (lam (app 0 (m y))) (m 0))) (m (app (lam 0) (m x))))"
	for _, c := range []struct {
		s    string
		k    int
		want string
	}{
		{"(app (lam 0) (m x))", 0, "1/1 x"}, {"(app (lam x) (m))", 0, "1/1 x"}, {"(app (lam (app 0 (m 0))) (m x y))", 0, "1/1 (app x (m y)); 1/1 (app y (m x))"}, {"(app (lam (app 0 (m 0))) (m (lam 0) y))", 0, "1/1 (app (lam 0) (m y)); 1/1 (app y (m (lam 0)))"},
		// Fewer or more terms in the bag than places.
		{"(app (lam 0) (m))", 0, ""}, {"(app (lam 0) (m x y))", 0, ""}, {"(app (lam 0) (m x x))", 0, ""}, {"(app (lam x) (m y))", 0, ""}, {"(app (lam (app 0 (m 0))) (m x))", 0, ""}, {"(app (lam (app 0 (m 0))) (m x y z))", 0, ""}, {"(app x (m (app (lam 0) (m)) y))", 0, ""}, {"(lam (app (lam 1) (m 0)))", 0, ""},
		// Terms that come out equal.
		{"(app (lam (app x (m 0 0))) (m y y))", 0, "2/1 (app x (m y y))"}, {"(app (lam (app x (m 0 0))) (m y z))", 0, "2/1 (app x (m y z))"}, {"(app (lam (app 0 (m 0 0))) (m y y z))", 0, "4/1 (app y (m y z)); 2/1 (app z (m y y))"}, {"(app (lam (app 0 (m 0))) (m y y))", 0, "2/1 (app y (m y))"}, {"(app (lam (app x (m (lam 1) (lam 1)))) (m y z))", 0, "2/1 (app x (m (lam y) (lam z)))"}, {"(app (lam (app x (m (app y (m 0)) (app y (m 0)) (app y (m 0))))) (m a b c))", 0, "6/1 (app x (m (app y (m a)) (app y (m b)) (app y (m c))))"},
		// Places in the order of the text, in the first part, in bags, within each other, and that are not there.
		{three, 0, "1/1 (app x (m (app (lam y) (m)) (app (lam z) (m))))"}, {three, 1, "1/1 (app (app (lam x) (m)) (m (app (lam z) (m)) y))"}, {three, 2, "1/1 (app (app (lam x) (m)) (m (app (lam y) (m)) z))"}, {three, 3, "no"}, {three, -1, "no"},
		{inner, 0, "1/1 (app (lam (app 0 (m y))) (m (app (lam 0) (m x))))"}, {inner, 1, "1/1 (app (lam (app 0 (m y))) (m (app (lam 0) (m x))))"}, {inner, 2, "1/1 (app (lam (app (lam (app 0 (m y))) (m 0))) (m x))"}, {inner, 3, "no"},
		{"(app (lam (app x (m (app (lam (app 0 (m a))) (m 0)) (app (lam (app 0 (m b))) (m 0))))) (m y z))", 0, "1/1 (app x (m (app (lam (app 0 (m a))) (m y)) (app (lam (app 0 (m b))) (m z)))); 1/1 (app x (m (app (lam (app 0 (m a))) (m z)) (app (lam (app 0 (m b))) (m y))))"},
		{"(app x (m (app (lam 0) (m y)) (app (lam 0) (m y))))", 0, "1/1 (app x (m (app (lam 0) (m y)) y))"}, {"(app x (m (app (lam 0) (m y)) (app (lam 0) (m y))))", 1, "1/1 (app x (m (app (lam 0) (m y)) y))"}, {"(app x (m (app (lam 0) (m y)) (app (lam 0) (m z))))", 1, "1/1 (app x (m (app (lam 0) (m y)) z))"},
		{"(app (lam 0) (m (app (lam y) (m x))))", 0, "1/1 (app (lam y) (m x))"}, {"(app (lam 0) (m (app (lam y) (m x))))", 1, ""}, {"(app (lam x) (m (app (lam 0) (m y))))", 1, "1/1 (app (lam x) (m y))"}, {"x", 0, "no"}, {"(lam 0)", 0, "no"},
		// What comes to stand in a first part may be a redex.
		{"(app (app (lam (lam (app 0 (m 1)))) (m x)) (m y))", 0, "1/1 (app (lam (app 0 (m x))) (m y))"}, {"(app (lam (app 0 (m 0))) (m (lam (app 0 (m 0))) (lam (app 0 (m 0)))))", 0, "2/1 (app (lam (app 0 (m 0))) (m (lam (app 0 (m 0)))))"},
		// Indices of lam further outside, and in what is put under lam.
		{"(lam (app (lam 1) (m)))", 0, "1/1 (lam 0)"}, {"(lam (app (lam 0) (m 0)))", 0, "1/1 (lam 0)"}, {"(lam (app (lam (app 1 (m 0))) (m 0)))", 0, "1/1 (lam (app 0 (m 0)))"}, {"(lam (lam (app (lam (app 2 (m 0 1))) (m 1))))", 0, "1/1 (lam (lam (app 1 (m 0 1))))"}, {"(lam (lam (app (lam (app 2 (m 0 1))) (m 0))))", 0, "1/1 (lam (lam (app 1 (m 0 0))))"},
		{"(lam (app (lam (lam (app 1 (m 0 2)))) (m 0)))", 0, "1/1 (lam (lam (app 1 (m 0 1))))"}, {"(lam (app (lam (lam 1)) (m (lam (app 0 (m 1))))))", 0, "1/1 (lam (lam (lam (app 0 (m 2)))))"}, {"(lam (app (lam (lam (lam 2))) (m (app 0 (m x)))))", 0, "1/1 (lam (lam (lam (app 2 (m x)))))"}, {"(lam (app (lam (app 0 (m (lam (app 1 (m (lam 2))))))) (m (lam 1) 0 0)))", 0, "2/1 (lam (app (lam 1) (m (lam (app 1 (m (lam 2))))))); 2/1 (lam (app 0 (m (lam (app (lam 2) (m (lam 2))))))); 2/1 (lam (app 0 (m (lam (app 1 (m (lam (lam 3))))))))"},
		{"(app (lam (lam 0)) (m))", 0, "1/1 (lam 0)"}, {"(app (lam (lam 0)) (m x))", 0, ""}, {"(app (lam (lam 1)) (m x))", 0, "1/1 (lam x)"}, {"(app (lam (lam (app 0 (m 1)))) (m (lam 0)))", 0, "1/1 (lam (app 0 (m (lam 0))))"}, {nested("(lam ", "(app (lam 57) (m))", ")", 57), 0, "1/1 " + nested("(lam ", "56", ")", 57)}, {"(lam (app (lam " + nested("(lam ", "40", ")", 40) + ") (m 0)))", 0, "1/1 " + nested("(lam ", "40", ")", 41)}, {nested("(lam ", "(app (lam (app 0 (m 10 9))) (m 10))", ")", 11), 0, "1/1 " + nested("(lam ", "(app 10 (m 8 9))", ")", 11)},
		// Bags are sorted again, from the inside.
		{"(app a (m (app (lam 0) (m z)) b))", 0, "1/1 (app a (m b z))"}, {"(app (lam (app x (m 0 y))) (m z))", 0, "1/1 (app x (m y z))"}, {"(app y (m (app y (m (app (lam 0) (m d)))) (app y (m c))))", 0, "1/1 (app y (m (app y (m c)) (app y (m d))))"}, {nested("(lam ", "(app x (m (app (lam 10) (m)) 9))", ")", 12), 0, "1/1 " + nested("(lam ", "(app x (m 9 9))", ")", 12)},
		// The names that the program gives to places elsewhere are names here.
		{"(app (lam (app k0 (m 0))) (m k0))", 0, "1/1 (app k0 (m k0))"}, {"(app (lam (app w (m 0 0))) (m k0 w))", 0, "2/1 (app w (m k0 w))"},
		// 6 terms and 7.
		{equals(6, 6), 0, "720/1 (app x (m y y y y y y))"}, {"(app (lam (app x (m 0 0 0 0 0 0))) (m a b c d e f))", 0, "720/1 (app x (m a b c d e f))"}, {equals(5, 6), 0, ""}, {equals(6, 5), 0, ""}, {equals(7, 7), 0, "no"}, {equals(7, 6), 0, ""}, {equals(6, 7), 0, ""}, {equals(0, 7), 0, ""}, {equals(0, 50), 0, ""}, {equals(28, 28), 0, "no"}, {equals(27, 28), 0, ""}, {"(app (lam (app x (m 0 0 0 0 0 0 0))) (m a b c d e f g))", 0, "no"}, {heads(7, "x", "y y y y y y y"), 0, "no"},
		{inBag(crowd, "(app (lam y) (m))"), 0, "no"}, {inBag(crowd, "(app (lam y) (m))"), 1, "1/1 " + inBag(crowd, "y")}, {"(app (lam x) (m " + crowd + "))", 0, ""}, {"(app (lam x) (m " + crowd + "))", 1, "no"}, {"(app (lam 0) (m " + crowd + "))", 0, "1/1 " + crowd}, {"(lam " + crowd + ")", 0, "no"},
		// More than TermsMax terms.
		{heads(6, "y", "a b c d e f"), 0, "no"}, {heads(6, "y", "a a b c d e"), 0, "no"}, {"(lam (app x (m (app y (m " + heads(6, "y", "a a b c d e") + ")))))", 0, "no"}, {heads(5, "y", "a b c d d d"), 0, ""},
		// The size 60.
		{"(app (lam 0) (m " + large(57) + "))", 0, "1/1 " + large(57)}, {"(app (lam " + large(58) + ") (m))", 0, "1/1 " + large(58)}, {"(app (lam (app 0 (m 0))) (m " + large(54) + " x))", 0, "1/1 (app " + large(54) + " (m x)); 1/1 (app x (m " + large(54) + "))"},
	} {
		reckoned, ok := mixed{}, false
		if list := reductsOf(c.s); c.k >= 0 && c.k < len(list) {
			reckoned, ok = list[c.k].sum()
		}
		got, fine := impl.TermStep(c.s, c.k)
		checkWant(t, say("TermStep(%s, %d)", c.s, c.k), got, fine, c.want, reckoned, ok)
	}
	for _, c := range []struct {
		s            string
		terms, count int
	}{
		{heads(6, "y", "a a a b c d"), 120, 6}, {heads(6, "y", "a a b b c d"), 180, 4}, {heads(5, "y", "a b c d e"), 120, 1}, {heads(5, "0", "a b c d d d"), 120, 6}, {heads(4, "(app y (m 0 0))", "a a b c d e"), 192, 0}, {heads(6, "y", "a a a a a b"), 6, 120}, {heads(6, "y", "a b b b b b"), 6, 120}, {heads(3, "(app y (m 0 0 0))", "a b c d e f"), 120, 6},
	} {
		want, _ := reductsOf(c.s)[0].sum()
		got, ok := impl.TermStep(c.s, 0)
		checkSum(t, say("TermStep(%s, 0)", c.s), got, ok, want, true)
		if len(got.Terms) != c.terms || slices.ContainsFunc(got.Tops, func(n int) bool { return c.count > 0 && n != c.count }) {
			t.Error(say("TermStep(%s, 0) has %d terms, %.200v", c.s, len(got.Terms), got))
		}
	}
}

// checkDegrees checks that a term has the degrees of another one in all names.
func checkDegrees(t *testing.T, what, s, from string) {
	t.Helper()
	names, _ := impl.TermNames(from)
	if got, _ := impl.TermNames(s); !slices.Equal(got, names) {
		t.Errorf("%s: %s has the names %q, not %q", what, s, got, names)
	}
	for _, name := range names {
		if a, b := impl.TermDegree(from, name), impl.TermDegree(s, name); a != b {
			t.Errorf("%s: %s has the degree %d in %s, not %d", what, s, b, name, a)
		}
	}
}

func TestPromise32Steps(t *testing.T) {
	d := dice(83)
	steps, many, none := 0, 0, 0
	for i, s := range append(steppingTerms(&d, 1500, 40), someTerms()...) {
		for k, f := range reductsOf(s) {
			if k > 4 && i%5 > 0 {
				continue
			}
			want, ok := f.sum()
			got, fine := impl.TermStep(s, k)
			what := say("TermStep(%s, %d)", s, k)
			checkSum(t, what, got, fine, want, ok)
			if !fine {
				continue
			}
			steps++
			if len(got.Terms) > 1 && k > 0 {
				many++
			}
			if len(got.Terms) == 0 {
				none++
			}
			if !impl.SumWhole(got) || slices.ContainsFunc(got.Tops, func(n int) bool { return n < 1 }) {
				t.Error(say("%s = %v", what, got))
			}
			for _, u := range got.Terms {
				if impl.TermSize(u) >= impl.TermSize(s) {
					t.Errorf("%s has %s, which is not smaller", what, u)
				}
				checkDegrees(t, what, u, s)
			}
		}
	}
	if steps < 2000 || many < 50 || none < 100 {
		t.Errorf("%d steps, %d of them to more than one term, %d to none", steps, many, none)
	}
}

func TestPromise33AllStepsLeadToOneNormalSum(t *testing.T) {
	d := dice(89)
	done, many := 0, 0
	check := func(s string, k int) {
		step, ok := impl.TermStep(s, k)
		want, fine := impl.NormalSum(s)
		got, all := impl.NormalAll(step)
		if !ok || !fine || !all {
			return
		}
		if !sameSum(got, want) {
			t.Error(say("NormalSum(%s) = %v, but %v behind the step at %d", s, want, got, k))
		}
		done++
		if len(got.Terms) > 1 {
			many++
		}
	}
	for _, s := range append(steppingTerms(&d, 1500, 30), someTerms()...) {
		for k := range impl.RedexCount(s) {
			check(s, k)
		}
	}
	if done < 2000 || many < 200 {
		t.Errorf("%d steps, %d of them to more than one normal term", done, many)
	}
}

// normalEdges are terms with their normal sums at the edges that the document names: "no" if it fails, and a number for so many terms.
func normalEdges() [][2]string {
	return [][2]string{
		{"x", "1/1 x"}, {"(lam 0)", "1/1 (lam 0)"}, {"(app x (m (lam 0) y))", "1/1 (app x (m (lam 0) y))"}, {"(app (lam 0) (m x))", "1/1 x"}, {"(lam (app (lam 1) (m)))", "1/1 (lam 0)"}, {"(app x (m (app (lam 0) (m y)) (app (lam 0) (m y))))", "1/1 (app x (m y y))"},
		{"(app (lam (app 0 (m 0))) (m x y))", "1/1 (app x (m y)); 1/1 (app y (m x))"}, {"(app (lam (app x (m 0 0))) (m y y))", "2/1 (app x (m y y))"}, {"(app (app (lam (lam (app 0 (m 1)))) (m x)) (m y))", "1/1 (app y (m x))"}, {"(app (lam (app (lam 0) (m 0))) (m (app (lam 0) (m x))))", "1/1 x"},
		{"(app (lam (app 0 (m (app 0 (m))))) (m (lam (app x (m 0))) y))", "1/1 (app x (m (app y (m))))"}, {"(app (lam (app 0 (m 0 0))) (m (lam (app x (m 0 0))) y z))", "4/1 (app x (m y z)); 2/1 (app y (m (lam (app x (m 0 0))) z)); 2/1 (app z (m (lam (app x (m 0 0))) y))"}, {"(app (lam (app 0 (m 0))) (m (lam 0) x))", "1/1 (app x (m (lam 0))); 1/1 x"}, {"(app (lam (app 0 (m 0))) (m (lam 0) (lam 0)))", "2/1 (lam 0)"},
		// Terms that come to nothing, at once, later, and all that results.
		{"(app (lam 0) (m))", ""}, {"(app (lam x) (m y))", ""}, {"(app x (m (app (lam 0) (m))))", ""}, {"(lam (app (lam 1) (m 0)))", ""}, {"(app (lam 0) (m (app (lam 0) (m))))", ""}, {"(app (lam (app 0 (m 0))) (m (lam x) (lam y)))", ""}, {"(app (lam (app 0 (m 0))) (m (lam (app 0 (m 0))) (lam (app 0 (m 0)))))", ""}, {"(app (lam (app 0 (m 0))) (m (lam x) y))", "1/1 (app y (m (lam x)))"},
		// 6 terms and 7.
		{equals(6, 6), "720/1 (app x (m y y y y y y))"}, {crowd, "no"}, {equals(7, 6), ""}, {equals(6, 7), ""}, {equals(28, 28), "no"}, {equals(0, 50), ""}, {"(lam " + crowd + ")", "no"}, {"(app (lam 0) (m " + crowd + "))", "no"}, {"(app (lam x) (m " + crowd + "))", ""}, {"(app (app (lam y) (m)) (m " + crowd + "))", "no"},
		// A redex that is too large is met only if nothing ahead of it comes to nothing.
		{inBag(crowd, gone), "no"}, {inBag(crowd, goneFirst), ""}, {inBag(crowd, "y"), "no"}, {"(app " + gone + " (m " + crowd + "))", ""}, {"(app (lam (app 0 (m " + crowd + "))) (m (lam x)))", ""}, {"(app (lam (app x (m 0))) (m " + crowd + "))", "no"}, {"(app (lam (app 0 (m 0))) (m " + crowd + " (lam y)))", "no"}, {"(app (lam (app (lam (app x (m 0 0 0 0 0 0 0))) (m 0 0 0 0 0 y y))) (m a b c d e))", "no"}, {"(app (lam (app (lam (app x (m 0 0 0 0 0 0))) (m 0 0 0 0 0 y y))) (m a b c d e))", ""},
		// TermsMax terms and more.
		{heads(5, "y", "a b c d e"), "120"}, {heads(6, "y", "a a b c d e"), "no"}, {inBag(heads(5, "x", "a b c d d"), heads(5, "y", "a b b b b")), "300"}, {inBag(heads(5, "x", "a b c d d"), heads(6, "y", "a b b b b b")), "no"}, {inBag(heads(5, "x", "a b c d e"), heads(2, "y", "a b")), "240"}, {inBag(heads(5, "x", "a b c d e"), heads(3, "y", "a b b")), "no"},
		// More than TermsMax terms on the way alone, which would come to one, or to nothing.
		{delayed([]int{0, 0, 1, 1, 2, 3}, "a b c d e f"), "720/1 (app x (m a b c d e f))"}, {delayed([]int{0, 0, 1, 2, 3, 4}, "a b c d e f"), "no"}, {delayed([]int{0, 0, 1, 2, 3, 4}, "a a b c d e"), "720/1 (app x (m a a b c d e))"},
		{"(app (lam (app (lam y) (m " + nested("(app 0 (m ", "x", "))", 5) + "))) (m a b c d e))", ""}, {"(app (lam (app (lam y) (m " + nested("(app 0 (m ", "x", "))", 6) + "))) (m a b c d e f))", "no"},
		// 2 terms behind the first step, from each of which 60 or 180 come, of all of which all come behind the same step.
		{inBag("(app (lam (app 0 (m 0))) (m a b))", delayed([]int{0, 0, 1, 1, 2}, "a b c d e")), "120/1 (app v (m (app a (m b)) (app x (m a b c d e)))); 120/1 (app v (m (app b (m a)) (app x (m a b c d e))))"}, {inBag("(app (lam (app 0 (m 0))) (m a b))", delayed([]int{0, 0, 1, 1, 2, 3}, "a b c d e f")), "no"},
		// Behind the first step 60 normal terms, and 300 that come to nothing; and 30 and 150.
		{heads(5, "0", "a a b c d (lam z)"), "no"}, {heads(5, "0", "a a b b c (lam z)"), "30"},
		// Behind the first step 96 normal terms and 24 others, from each of which 12 or 6 come.
		{later(4, "y", "a a b c"), "no"}, {later(3, "y", "a b c"), "240"}, {later(4, "y", "a a b b"), "240"},
		// Of these some come to nothing, so that in the end there are not so many.
		{later(3, "0", "a a b (lam z)"), "no"}, {later(2, "0", "a b (lam z)"), "144"},
		// Large numbers: 720 * 720 * 720 * 2 and * 3.
		{alike(3), "373248000/1 (app x (m y y y y y y))"}, {alike(4), "no"}, {alike(6), "no"}, {inBag(alike(3), equals(2, 2)), "746496000/1 (app v (m (app x (m y y y y y y)) (app x (m y y))))"}, {inBag(alike(3), equals(3, 3)), "no"}, {inBag(alike(2), alike(2)), "no"},
		// The number is too large on the way alone, unless the term comes to nothing ahead.
		{inBag(alike(3), equals(2, 2), gone), ""}, {inBag(alike(3), equals(3, 3), gone), "no"}, {inBag(alike(3), equals(3, 3), goneFirst), ""},
		// Two ways to one term, each number small enough, together too large.
		{"(app (lam (app 0 (m 0))) (m (lam 0) (lam 0)))", "2/1 (lam 0)"}, {"(app (lam (app v (m (app (lam 0) (m 0)) 0))) (m a b))", "2/1 (app v (m a b))"}, {inBag(alike(3), "(app (lam (app y (m 0 (app (lam 0) (m 0))))) (m a b))"), "746496000/1 (app v (m (app x (m y y y y y y)) (app y (m a b))))"}, {inBag(alike(3), delayed([]int{0, 1, 2}, "a b c")), "no"},
	}
}

func TestPromise34NormalSumsAtTheEdges(t *testing.T) {
	for _, c := range normalEdges() {
		reckoned, steps, ok := normalOf(c[0])
		got, fine := impl.NormalSum(c[0])
		what := say("NormalSum(%s)", c[0])
		if n := impl.NormalLong(c[0]); n != steps || impl.NormalNone(c[0]) != (ok && len(reckoned) == 0) {
			t.Errorf("NormalLong(%s) = %d, not %d, NormalNone %v", c[0], n, steps, impl.NormalNone(c[0]))
		}
		if c[1] == "" || c[1] == "no" || strings.Contains(c[1], "/") {
			checkWant(t, what, got, fine, c[1], reckoned, ok)
			continue
		}
		checkSum(t, what, got, fine, reckoned, ok)
		if !fine || len(got.Terms) != number(c[1]) {
			t.Errorf("%s: %d terms, %v", what, len(got.Terms), fine)
		}
	}
}

func TestPromise34NormalSums(t *testing.T) {
	d := dice(97)
	done, many := 0, 0
	for _, s := range append(steppingTerms(&d, 3000, 40), someTerms()...) {
		want, _, ok := normalOf(s)
		got, fine := impl.NormalSum(s)
		what := say("NormalSum(%s)", s)
		checkSum(t, what, got, fine, want, ok)
		if !fine {
			continue
		}
		done++
		if len(got.Terms) > 1 {
			many++
		}
		if !impl.SumWhole(got) || slices.ContainsFunc(got.Tops, func(n int) bool { return n < 1 }) {
			t.Error(say("%s = %v", what, got))
		}
		for _, u := range got.Terms {
			if !impl.TermNormal(u) {
				t.Errorf("%s has %s, which is not normal", what, u)
			}
			checkDegrees(t, what, u, s)
		}
		if again, ok := impl.NormalAll(got); !ok || !sameSum(again, got) {
			t.Error(say("%s = %v, but again %v, %v", what, got, again, ok))
		}
	}
	if done < 2000 || many < 100 {
		t.Errorf("%d normal sums, %d of them with more than one term", done, many)
	}
}

// namedRow returns redexes that come to the names of a row, or, with more than one place, to their apps, in order.
func namedRow(n int, front, back string) impl.Sum {
	terms := []string{}
	for _, name := range nameRow()[:n] {
		terms = append(terms, front+name+back)
	}
	return rowSum(terms, n, 1, 2)
}

func TestPromise35NormalSumsOfSumsAtTheEdges(t *testing.T) {
	add := func(a, b impl.Sum) impl.Sum { s, _ := impl.SumAdd(a, b); return s }
	twoWays := "(app (lam (app y (m (app (lam 0) (m 0)) 0))) (m y y))"
	for _, c := range []struct {
		what  string
		s     impl.Sum
		terms int // -1 if it fails
		want  string
	}{
		{"nothing", impl.Sum{}, 0, ""}, {"normal terms", sumOf("-1/2 (lam 0); 1/3 x; 7/1 y"), 3, "-1/2 (lam 0); 1/3 x; 7/1 y"}, {"one step", sumOf("-2/3 (app (lam (app 0 (m 0))) (m x y))"), 2, "-2/3 (app x (m y)); -2/3 (app y (m x))"}, {"terms that come to nothing", sumOf("1/2 (app (lam 0) (m)); 1/3 (app (lam x) (m x))"), 0, ""}, {"a term that comes to nothing", sumOf("1/2 (app (lam 0) (m)); 1/3 x"), 1, "1/3 x"},
		{"equal results", sumOf("1/2 (app (lam 0) (m x)); 1/3 x"), 1, "5/6 x"}, {"results that vanish", sumOf("1/2 (app (lam 0) (m x)); -1/2 x"), 0, ""}, {"some of which vanish", sumOf("1/2 (app (lam (app 0 (m 0))) (m x y)); -1/2 (app x (m y))"), 1, "1/2 (app y (m x))"}, {"steps of different length", sumOf("1/2 (app (lam 0) (m (app (lam 0) (m x)))); -1/3 (app (lam 0) (m x)); 1/1 x"), 1, "7/6 x"}, {"numbers and fractions", sumOf("1/720 " + equals(6, 6)), 1, "1/1 (app x (m y y y y y y))"},
		{"a redex that is too large", sumOf("1/1 " + crowd + "; 1/1 x"), -1, ""}, {"two that would vanish", sumOf("1/1 " + crowd + "; -1/1 (app (lam 0) (m " + crowd + "))"), -1, ""}, {"one that is not met", sumOf("1/1 (app (lam x) (m " + crowd + ")); 1/1 x"), 1, "1/1 x"}, {"a number too large on the way of one term", sumOf("1/2 " + inBag(alike(3), equals(3, 3))), -1, ""}, {"too many terms on the way of one term", sumOf("1/2 " + delayed([]int{0, 0, 1, 2, 3, 4}, "a b c d e f")), -1, ""},
		{"a top of PartMax", sumOf("500000000/1 " + equals(2, 2)), 1, "1000000000/1 (app x (m y y))"}, {"one that is too large", sumOf("500000001/1 " + equals(2, 2)), -1, ""}, {"a top of -PartMax", sumOf("-500000000/1 " + equals(2, 2)), 1, "-1000000000/1 (app x (m y y))"}, {"one that is too small", sumOf("-500000001/1 " + equals(2, 2)), -1, ""}, {"large tops on the way that vanish", sumOf("-1000000000/1 " + twoWays + "; 1000000000/1 (app (lam (app y (m 0 0))) (m y y)); 1/1 x"), 1, "1/1 x"}, {"large tops that are turned", sumOf("1/1000000000 " + equals(2, 2)), 1, "1/500000000 (app x (m y y))"}, {"a top that is too large in lowest terms, too", sumOf("999999999/1000000 " + equals(6, 6)), -1, ""}, {"one that is not in lowest terms", sumOf("99999999/1000000 " + equals(6, 6)), 1, "899999991/12500 (app x (m y y y y y y))"},
		{"a bottom of PartMax", sumOf("1/512 (app (lam 0) (m y)); 1/1953125 y"), 1, "1953637/1000000000 y"}, {"one that is too large", sumOf("1/1024 (app (lam 0) (m y)); 1/1953125 y"), -1, ""},
		{"TermsMax terms", namedRow(300, "(app (lam 0) (m ", "))"), 300, ""}, {"TermsMax terms by 2", namedRow(150, "(app (lam (app 0 (m 0))) (m a ", "))"), 300, ""}, {"one more", namedRow(151, "(app (lam (app 0 (m 0))) (m a ", "))"), -1, ""}, {"TermsMax terms that come to few", namedRow(300, "(app (lam x) (m ", "))"), 0, ""}, {"too many terms", add(one(heads(6, "y", "a a b b c d")), one(heads(6, "z", "a a b b c d"))), -1, ""}, {"many terms that vanish", add(one(heads(6, "y", "a a b b c d")), sumOf("-1/1 (app (lam 0) (m "+heads(6, "y", "a a b b c d")+"))")), 0, ""}, {"TermsMax terms of two", add(one(heads(6, "y", "a a b b c d")), one(heads(6, "z", "a a a b c d"))), 300, ""},
	} {
		m, valid := mixedOf(c.s)
		reckoned, ok := normalOfSum(m)
		got, fine := impl.NormalAll(c.s)
		checkSum(t, c.what, got, fine, reckoned, ok)
		if !valid || fine != (c.terms >= 0) || fine && len(got.Terms) != c.terms || c.want != "" && showSum(got) != c.want {
			t.Error(say("%s: %d terms, %.200v, %v", c.what, len(got.Terms), got, fine))
		}
	}
}

func TestPromise35NormalSumsOfSums(t *testing.T) {
	d := dice(101)
	terms := slices.Concat(steppingTerms(&d, 150, 20), smallTerms(), []string{"(app (lam 0) (m x))", "(app (lam 0) (m y))", "(app (lam (app x (m 0))) (m y))"})
	sums := someSums()
	for i := range 500 {
		sums = append(sums, d.someSum(terms, 1+i%6))
	}
	done, changed, failed := 0, 0, 0
	for _, s := range sums {
		m, _ := mixedOf(s)
		want, ok := normalOfSum(m)
		got, fine := impl.NormalAll(s)
		checkSum(t, say("NormalAll(%.200v)", s), got, fine, want, ok)
		if !fine {
			failed++
			continue
		}
		done++
		if !sameSum(got, s) && len(got.Terms) > 0 {
			changed++
		}
		if again, ok := impl.NormalAll(got); !ok || !sameSum(again, got) {
			t.Error(say("NormalAll(%.200v) = %.200v, but again %.200v, %v", s, got, again, ok))
		}
		twice, ok := impl.SumTimes(s, 2, 1)
		if !ok {
			continue
		}
		double, valid := impl.SumTimes(got, 2, 1)
		if all, ok := impl.NormalAll(twice); ok != valid || !sameSum(all, double) {
			t.Error(say("NormalAll(%.200v) = %.200v, but of twice as much %.200v, %v", s, got, all, ok))
		}
	}
	if done < 300 || changed < 100 || failed < 30 {
		t.Errorf("%d normal sums, %d of them others, and %d failed", done, changed, failed)
	}
	for _, s := range badSums() {
		got, ok := impl.NormalAll(s)
		checkFails(t, say("NormalAll(%.200v)", s), got, ok)
	}
}

func TestPromise36Nothing(t *testing.T) {
	d := dice(103)
	none, applied, failed := 0, 0, 0
	terms := append(steppingTerms(&d, 1500, 30), someTerms()...)
	for _, c := range normalEdges() {
		terms = append(terms, c[0])
	}
	for _, s := range terms {
		want, _, ok := normalOf(s)
		got := impl.NormalNone(s)
		if got != (ok && len(want) == 0) {
			t.Fatalf("NormalNone(%s) = %v", s, got)
		}
		if !ok {
			failed++
		}
		if !got {
			continue
		}
		none++
		if impl.TermNormal(s) {
			t.Errorf("%s is normal and comes to nothing", s)
		}
		if sum, ok := impl.NormalSum(s); !ok || !emptySum(sum) {
			t.Error(say("%s comes to nothing, but to %v, %v", s, sum, ok))
		}
		app := "(app " + s + " (m))"
		bound, _ := impl.TermBind(s, "x")
		both, _ := impl.TermBind(app, "y")
		for _, u := range []string{app, bound, both} {
			if impl.TermValid(u) {
				applied++
				if !impl.NormalNone(u) {
					t.Errorf("%s comes to nothing, but not %s", s, u)
				}
			}
		}
	}
	if none < 500 || applied < 1500 || failed < 10 {
		t.Errorf("%d come to nothing, %d applied or bound, %d failed", none, applied, failed)
	}
}

func TestPromise37LongestWay(t *testing.T) {
	for _, c := range []struct {
		s    string
		want int
	}{
		{"x", 0}, {"(lam 0)", 0}, {"(app x (m (lam 0)))", 0}, {"(app (lam 0) (m x))", 1}, {"(app (lam 0) (m))", 1}, {"(app (lam x) (m y))", 1}, {equals(6, 6), 1}, {crowd, -1}, {equals(6, 7), 1}, {"(app (lam 0) (m (app (lam 0) (m x))))", 2}, {"(app (lam x) (m (app (lam 0) (m x))))", 1}, {inBag(gone, goneFirst), 1}, {inBag("(app (lam 0) (m x))", gone), 2}, {inBag("(app (lam 0) (m x))", goneFirst), 1},
		// The ways of the terms of a step are of different length, and some of these come to nothing.
		{"(app (lam (app 0 (m 0))) (m (lam 0) x))", 2}, {"(app (lam (app 0 (m (app 0 (m))))) (m (lam (app (lam 0) (m 0))) y))", 3}, {"(app (lam (app 0 (m 0))) (m (lam x) y))", 2}, {"(app (lam (app 0 (m 0))) (m (lam x) (lam y)))", 2},
		{alike(3), 3}, {alike(4), -1}, {delayed([]int{0, 0, 1, 1, 2, 3}, "a b c d e f"), 8}, {delayed([]int{0, 0, 1, 2, 3, 4}, "a b c d e f"), -1}, {nested("(app (lam ", "x", ") (m))", 29), 29}, {nested("(app (lam 0) (m ", "x", "))", 19), 19},
	} {
		if n := impl.NormalLong(c.s); n != c.want || n >= 0 && n != longOf(c.s) {
			t.Errorf("NormalLong(%s) = %d, not %d", c.s, n, c.want)
		}
	}
	d := dice(107)
	long := 0
	for _, s := range append(steppingTerms(&d, 1500, 36), someTerms()...) {
		_, ok := impl.NormalSum(s)
		n := impl.NormalLong(s)
		if ok != (n != -1) || ok && n != longOf(s) {
			t.Fatalf("NormalLong(%s) = %d", s, n)
		}
		if ok && (n >= impl.TermSize(s) || n < 0 || (n == 0) != impl.TermNormal(s)) {
			t.Errorf("NormalLong(%s) = %d", s, n)
		}
		if n > 2 {
			long++
		}
	}
	if long < 200 {
		t.Errorf("only %d long ways", long)
	}
}

func TestPromise38Heads(t *testing.T) {
	for s, want := range map[string]string{
		"x": "x", "k0": "k0", "z99": "z99", "(lam x)": "x", "(lam (lam m))": "m", "(app x (m))": "x", "(app x (m (lam 0) y))": "x", "(app (app x (m y)) (m z))": "x", "(app (app (app w (m)) (m)) (m))": "w", "(lam (app x (m 0)))": "x", "(lam (lam (app (app x1 (m 0)) (m 1 y))))": "x1", nested("(app ", "x", " (m))", 59): "x", nested("(lam ", "x", ")", 59): "x",
		"(lam 0)": "", "(lam (lam 1))": "", "(lam (app 0 (m x)))": "", "(lam (lam (app (app 1 (m x)) (m y))))": "", "(lam (app (app 0 (m)) (m x)))": "",
		// Not normal: at the head, in a bag, and under lam.
		"(app (lam x) (m))": "", "(app (lam 0) (m x))": "", "(app (app (lam x) (m)) (m))": "", "(app x (m (app (lam 0) (m y))))": "", "(app x (m (app (lam 0) (m))))": "", "(lam (app (lam x) (m)))": "", "(lam (app x (m (lam (app (lam 0) (m 0))))))": "", "(app (app x (m " + gone + ")) (m))": "", "(app x (m " + crowd + "))": "",
	} {
		if got, ok := impl.HeadName(s); got != want || ok != (want != "") {
			t.Errorf("HeadName(%s) = %q, %v, not %q", s, got, ok, want)
		}
	}
	d := dice(109)
	named := 0
	for _, s := range append(steppingTerms(&d, 300, 20), someTerms()...) {
		x, _ := termOf(s)
		for x.head == "lam" {
			x = x.parts[0]
		}
		for x.head == "app" {
			x = x.parts[0]
		}
		want := ""
		if len(reductsOf(s)) == 0 && !isIndex(x.atom) {
			want = x.atom
		}
		got, ok := impl.HeadName(s)
		if got != want || ok != (want != "") {
			t.Fatalf("HeadName(%s) = %q, %v, not %q", s, got, ok, want)
		}
		if !ok {
			continue
		}
		named++
		if names, _ := impl.TermNames(s); !slices.Contains(names, got) || !impl.TermNormal(s) {
			t.Errorf("HeadName(%s) = %q", s, got)
		}
	}
	if named < 100 {
		t.Errorf("only %d heads", named)
	}
}

func TestPromise39NormalSumsOfTheParts(t *testing.T) {
	d := dice(113)
	done, many := 0, 0
	for _, s := range append(steppingTerms(&d, 2500, 30), someTerms()...) {
		kids, _ := impl.TermKids(s)
		want, ok := impl.NormalSum(s)
		if len(kids) == 0 || kids[0] != "app" || len(kids) > 8 || !ok {
			continue
		}
		parts := []impl.Sum{}
		for _, u := range kids[1:] {
			part, fine := impl.NormalSum(u)
			ok = ok && fine
			parts = append(parts, part)
		}
		app, fine := impl.SumApply(parts[0], parts[1:])
		got, all := impl.NormalAll(app)
		if !ok || !fine || !all {
			continue
		}
		if !sameSum(got, want) {
			t.Error(say("NormalSum(%s) = %v, but by its parts %v", s, want, got))
		}
		done++
		if len(got.Terms) > 1 {
			many++
		}
	}
	if done < 1000 || many < 100 {
		t.Errorf("%d apps, %d with more than one term", done, many)
	}
}

// allOfSteps returns what the functions of the chapter say of a sum and a term, in one text, and checks that they leave what they are given as it is.
func allOfSteps(t *testing.T, s impl.Sum, term string) string {
	kept := copySum(s)
	step, stepped := impl.TermStep(term, 0)
	next, again := impl.TermStep(term, 1)
	normal, fine := impl.NormalSum(term)
	all, whole := impl.NormalAll(s)
	head, named := impl.HeadName(term)
	said := fmt.Sprint(step, stepped, next, again, normal, fine, all, whole, head, named, impl.RedexCount(term), impl.TermNormal(term), impl.NormalNone(term), impl.NormalLong(term))
	for _, x := range []impl.Sum{step, next, normal, all} {
		spoil(t, x)
	}
	if !sameSum(s, kept) {
		t.Error(say("%.300v became %.300v", kept, s))
	}
	return said
}

func TestCallsOfStepsKeepNothing(t *testing.T) {
	d := dice(127)
	terms := steppingTerms(&d, 100, 20)
	sums := append(someSums()[4:60], badSums()[:20]...)
	for len(sums) < len(terms) {
		sums = append(sums, d.someSum(terms, 5))
	}
	first := []string{}
	for i, s := range terms {
		first = append(first, allOfSteps(t, sums[i], s))
	}
	var wait sync.WaitGroup
	for range 4 {
		wait.Go(func() {
			for i := len(terms) - 1; i >= 0; i-- {
				if got := allOfSteps(t, sums[i], terms[i]); got != first[i] {
					t.Error(say("of %.200v and %s first %.200q, then %.200q", sums[i], terms[i], first[i], got))
				}
			}
		})
	}
	wait.Wait()
}
