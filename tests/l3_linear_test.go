package tests

import (
	"fmt"
	"math/big"
	"slices"
	"strings"
	"sync"
	"testing"

	"loop.example/resourceterms/impl"
)

// bagOf reads the terms of a bag, written with ", " between.
func bagOf(text string) []string {
	if text == "" {
		return nil
	}
	return strings.Split(text, ", ")
}

// chain returns a term with n places of x, no two of which can change their places unnoticed, and a head as its last term.
func chain(n int, last string) string {
	return nested("(app x (m ", last, "))", n)
}

// wide returns the app of a head and n times x.
func wide(head string, n int) string {
	return "(app " + head + " (m" + strings.Repeat(" x", n) + "))"
}

// large returns a closed term of a size from 2 on.
func large(size int) string {
	return nested("(lam ", "0", ")", size-1)
}

// linearTerms are terms with few places of x, edges and others.
func linearTerms(d *dice, count, size int) []string {
	all := []string{
		"x", "y", "(lam 0)", "(lam x)", "(lam (lam x))", "(app x (m))", "(app x (m x))", "(app y (m x x))", "(app x (m x y))", "(app y (m (lam x) (lam x)))",
		"(lam (app 0 (m 0 x)))", "(lam (lam (app 1 (m 0 x))))", "(app x (m (app y (m a x)) (app y (m b))))", "(app (app x (m)) (m (app x (m))))", chain(3, "y"), wide("x", 3), wide("y", 4),
	}
	for range count {
		all = append(all, d.placed(size))
	}
	return all
}

// checkWant checks that a sum, or the failing of a call, is what is written, and what the shapes say.
func checkWant(t *testing.T, what string, got impl.Sum, fine bool, want string, reckoned mixed, ok bool) {
	t.Helper()
	checkSum(t, what, got, fine, reckoned, ok)
	if fine != (want != "no") || fine && showSum(got) != want {
		t.Error(say("%.300s: %.300v, %v, not %.300s", what, got, fine, want))
	}
}

func TestPromise20PuttingAtTheEdges(t *testing.T) {
	six := "a, b, c, d, e, f"
	for _, c := range []struct{ s, name, bag, want string }{
		{"x", "x", "y", "1/1 y"}, {"x", "x", "x", "1/1 x"}, {"x", "x", "", ""}, {"x", "x", "y, y", ""}, {"x", "y", "", "1/1 x"}, {"x", "y", "z", ""}, {"(lam 0)", "x", "", "1/1 (lam 0)"}, {"(lam 0)", "x", "y", ""},
		{"(app x (m x))", "x", "y, z", "1/1 (app y (m z)); 1/1 (app z (m y))"}, {"(app x (m x))", "x", "z, y", "1/1 (app y (m z)); 1/1 (app z (m y))"},
		{"(app x (m x))", "x", "y, y", "2/1 (app y (m y))"}, {"(app x (m x))", "x", "", ""}, {"(app x (m x))", "x", "y", ""}, {"(app x (m x))", "x", "y, y, y", ""}, {"(app x (m x))", "y", "", "1/1 (app x (m x))"}, {"(app x (m y))", "y", "x", "1/1 (app x (m x))"},
		// Results that come out equal.
		{"(app a (m x x))", "x", "y, z", "2/1 (app a (m y z))"}, {"(app a (m x x))", "x", "z, z", "2/1 (app a (m z z))"}, {"(app a (m x x x))", "x", "y, z, y", "6/1 (app a (m y y z))"},
		{"(app x (m x x))", "x", "y, z, y", "4/1 (app y (m y z)); 2/1 (app z (m y y))"}, {"(app x (m x x))", "x", "z, y, y", "4/1 (app y (m y z)); 2/1 (app z (m y y))"}, {"(app x (m x x))", "x", "y, y, z", "4/1 (app y (m y z)); 2/1 (app z (m y y))"},
		{"(app a (m (lam x) (lam x)))", "x", "y, z", "2/1 (app a (m (lam y) (lam z)))"}, {"(app x (m (lam x)))", "x", "(lam y), y", "1/1 (app (lam y) (m (lam y))); 1/1 (app y (m (lam (lam y))))"},
		// The name in what is put is not replaced again.
		{"(app x (m x))", "x", "x, y", "1/1 (app x (m y)); 1/1 (app y (m x))"}, {"(app x (m x))", "x", "(app x (m x)), x", "1/1 (app (app x (m x)) (m x)); 1/1 (app x (m (app x (m x))))"}, {"x", "x", "(app x (m x x))", "1/1 (app x (m x x))"},
		// Names stay free under lam, and indices are those of their own lam.
		{"(lam x)", "x", "y", "1/1 (lam y)"}, {"(lam x)", "x", "k0", "1/1 (lam k0)"}, {"(lam x)", "x", "(lam 0)", "1/1 (lam (lam 0))"}, {"(lam (app 0 (m 0 x)))", "x", "k0", "1/1 (lam (app 0 (m 0 k0)))"},
		{"(lam (app x (m 0 x)))", "x", "(lam (app 0 (m y))), a", "1/1 (lam (app (lam (app 0 (m y))) (m 0 a))); 1/1 (lam (app a (m (lam (app 0 (m y))) 0)))"},
		{"(lam (lam (app 1 (m 0 x))))", "x", "(lam (app 0 (m (lam 1))))", "1/1 (lam (lam (app 1 (m (lam (app 0 (m (lam 1)))) 0))))"}, {"(app x (m (lam x)))", "x", "y, y", "2/1 (app y (m (lam y)))"},
		// Bags are sorted again, from the inside.
		{"(app a (m x y))", "x", "z", "1/1 (app a (m y z))"}, {"(app y (m (app y (m c)) (app y (m x))))", "x", "(lam 0)", "1/1 (app y (m (app y (m (lam 0))) (app y (m c))))"}, {"(app y (m (app y (m b c)) (app y (m b x))))", "x", "a", "1/1 (app y (m (app y (m a b)) (app y (m b c))))"}, {"(app m (m x))", "m", "x", "1/1 (app x (m x))"},
		// 6 terms and 7.
		{wide("y", 6), "x", six, "720/1 (app y (m a b c d e f))"}, {wide("y", 6), "x", "z, z, z, z, z, z", "720/1 (app y (m z z z z z z))"}, {wide("x", 5), "x", "a, b, a, b, a, b", "360/1 (app a (m a a b b b)); 360/1 (app b (m a a a b b))"}, {wide("x", 5), "x", "", ""}, {"x", "x", six, ""}, {"y", "x", six, ""},
		{wide("x", 5), "x", six, "120/1 (app a (m b c d e f)); 120/1 (app b (m a c d e f)); 120/1 (app c (m a b d e f)); 120/1 (app d (m a b c e f)); 120/1 (app e (m a b c d f)); 120/1 (app f (m a b c d e))"},
		{wide("x", 6), "x", six + ", g", "no"}, {wide("y", 7), "x", "z, z, z, z, z, z, z", "no"}, {"y", "x", "z, z, z, z, z, z, z", "no"}, {"x", "x", "z, z, z, z, z, z, z", "no"}, {"x", "x", strings.Repeat("z, ", 99999) + "z", "no"},
		// More than TermsMax terms.
		{chain(6, "y"), "x", six, "no"}, {chain(6, "y"), "x", "a, b, c, d, e, e", "no"},
		// The sizes 60 and 61.
		{"x", "x", large(60), "1/1 " + large(60)}, {"(lam x)", "x", large(59), "1/1 " + large(60)}, {"(lam x)", "x", large(60), "no"}, {"(app y (m x))", "x", large(58), "1/1 (app y (m " + large(58) + "))"}, {"(app y (m x))", "x", large(59), "no"},
		{"(app x (m x))", "x", large(58) + ", y", "1/1 (app " + large(58) + " (m y)); 1/1 (app y (m " + large(58) + "))"}, {"(app x (m x))", "x", large(58) + ", (lam y)", "no"}, {"(app x (m x))", "x", large(30) + ", " + large(30), "no"}, {wide("y", 6), "x", strings.Repeat(large(9)+", ", 5) + large(13), "720/1 (app y (m " + large(13) + strings.Repeat(" "+large(9), 5) + "))"}, {wide("y", 6), "x", strings.Repeat(large(9)+", ", 5) + large(14), "no"},
		// What would be too large is not made if the numbers are different.
		{"(lam x)", "x", large(60) + ", " + large(60), ""}, {"(lam 0)", "x", large(60), ""}, {large(60), "x", "", "1/1 " + large(60)}, {large(60), "x", "y", ""}, {wide("y", 6), "x", strings.Repeat(large(60)+", ", 4) + large(60), ""},
	} {
		bag := bagOf(c.bag)
		x, _ := termOf(c.s)
		reckoned := mixed{}
		if len(bag) < 7 {
			reckoned = x.put(c.name, shapesOf(bag))
		}
		got, ok := impl.LinearPut(c.s, c.name, bag)
		checkWant(t, say("LinearPut(%s, %s, %.200s)", c.s, c.name, c.bag), got, ok, c.want, reckoned, len(bag) < 7)
	}
	for _, c := range []struct {
		s, bag       string
		terms, count int
	}{
		{chain(6, "y"), "b, a, b, c, a, d", 180, 4}, {chain(6, "y"), "a, a, a, b, c, d", 120, 6}, {chain(5, "y"), "a, b, c, d, e", 120, 1}, {chain(5, "x"), "f, a, d, b, e, b", 0, 0}, {chain(4, "(app y (m x x))"), "a, f, c, d, e, a", 192, 0}, {chain(3, wide("y", 3)), six, 120, 6}, {chain(6, "y"), "a, a, a, a, a, a", 1, 720}, {chain(6, "y"), "a, a, a, a, a, (lam 0)", 6, 120},
	} {
		x, _ := termOf(c.s)
		got, ok := impl.LinearPut(c.s, "x", bagOf(c.bag))
		checkSum(t, say("LinearPut(%s, x, %s)", c.s, c.bag), got, ok, x.put("x", shapesOf(bagOf(c.bag))), true)
		if len(got.Terms) != c.terms || slices.ContainsFunc(got.Tops, func(n int) bool { return c.count > 0 && n != c.count }) {
			t.Error(say("LinearPut(%s, x, %s) has %d terms, %.200v", c.s, c.bag, len(got.Terms), got))
		}
	}
}

func TestPromise20Putting(t *testing.T) {
	d := dice(31)
	terms := slices.Concat(smallTerms(), []string{"(app x (m (lam x)))", "k0", "(lam (app 0 (m x)))", large(20)})
	done := map[int]int{}
	for _, s := range linearTerms(&d, 500, 24) {
		x, _ := termOf(s)
		n := impl.TermDegree(s, "x")
		k := n
		if d.roll(5) == 0 {
			k = d.roll(7)
		}
		bag := d.few(terms, k, "q")
		kept := slices.Clone(bag)
		got, ok := impl.LinearPut(s, "x", bag)
		checkSum(t, say("LinearPut(%s, x, %q)", s, kept), got, ok, x.put("x", shapesOf(bag)), true)
		if !slices.Equal(bag, kept) {
			t.Fatal(say("the bag %q became %q", kept, bag))
		}
		slices.Reverse(bag)
		if len(bag) > 2 {
			bag[0], bag[1] = bag[1], bag[0]
		}
		if again, fine := impl.LinearPut(s, "x", bag); fine != ok || !sameSum(again, got) {
			t.Error(say("LinearPut(%s, x, %q) = %v, but %v for %q", s, kept, got, again, bag))
		}
		if !ok {
			continue
		}
		want := 0
		if k == n {
			want = factorial(n)
			done[n]++
		}
		if top, bottom, fine := impl.SumTotal(got); !fine || top != want || bottom != 1 || k != n && !emptySum(got) {
			t.Error(say("LinearPut(%s, x, %q) = %v has the total %d, %d, %v", s, kept, got, top, bottom, fine))
		}
	}
	for n := range 7 {
		if done[n] < 4 {
			t.Error(say("only %d terms with the degree %d", done[n], n))
		}
	}
}

// checkFails checks that a call fails with an empty sum.
func checkFails(t *testing.T, what string, got impl.Sum, ok bool) {
	t.Helper()
	if ok || !emptySum(got) {
		t.Error(say("%.200s: %.200v, %v", what, got, ok))
	}
}

func TestPromise20InvalidTexts(t *testing.T) {
	for _, s := range otherTexts() {
		for _, bag := range [][]string{nil, {"y"}} {
			got, ok := impl.LinearPut(s, "x", bag)
			checkFails(t, say("LinearPut(%.80q, x, %q)", s, bag), got, ok)
		}
		for _, bag := range [][]string{{s}, {"y", s}, {s, "y"}, {"y", "y", "y", "y", "y", s}} {
			for _, text := range []string{"x", "(app x (m x))", "y"} {
				got, ok := impl.LinearPut(text, "x", bag)
				checkFails(t, say("LinearPut(%s, x, %.80q)", text, bag), got, ok)
			}
		}
	}
	for _, name := range noNames() {
		for _, bag := range [][]string{nil, {"y"}} {
			got, ok := impl.LinearPut("(app x (m y))", name, bag)
			checkFails(t, say("LinearPut((app x (m y)), %q, %q)", name, bag), got, ok)
		}
	}
}

func TestPromise21PuttingTheNameItself(t *testing.T) {
	d := dice(37)
	many := 0
	for _, s := range append(linearTerms(&d, 400, 40), someTerms()...) {
		for _, name := range []string{"x", "y", "m", "k0"} {
			n := impl.TermDegree(s, name)
			got, ok := impl.LinearPut(s, name, slices.Repeat([]string{name}, n))
			if want, _ := impl.SumOf(s, factorial(min(n, 6)), 1); n <= 6 && (!ok || !sameSum(got, want)) {
				t.Error(say("LinearPut(%s, %s) of the name itself = %v, %v", s, name, got, ok))
			}
			if n > 6 {
				many++
				checkFails(t, say("LinearPut(%s, %s) of the name itself", s, name), got, ok)
			}
		}
	}
	if many < 5 {
		t.Error(say("only %d terms with a degree greater than 6", many))
	}
}

func TestPromise22PuttingIsDerivingAgainAndAgain(t *testing.T) {
	d := dice(41)
	both, left := 0, 0
	for _, s := range linearTerms(&d, 500, 20) {
		n := impl.TermDegree(s, "x")
		if d.roll(4) == 0 {
			n = d.roll(7)
		}
		bag := d.few(smallTerms(), n, "x")
		put, ok := impl.LinearPut(s, "x", bag)
		many, fine := impl.DeriveMany(s, "x", bag)
		if !ok || !fine {
			continue
		}
		both++
		if len(put.Terms) < len(many.Terms) {
			left++
		}
		if got, none := impl.LinearNone(many, "x"); !none || !sameSum(got, put) {
			t.Error(say("LinearPut(%s, x, %q) = %v, but without the name DeriveMany has %v", s, bag, put, got))
		}
	}
	if both < 300 || left < 20 {
		t.Error(say("%d of both, %d with the name left", both, left))
	}
}

func TestPromise23SumsAtTheEdges(t *testing.T) {
	row := nameRow()
	heads := func(n, top, bottom int) impl.Sum {
		terms := []string{}
		for _, name := range row[:n] {
			terms = append(terms, "(app "+name+" (m x x))")
		}
		return rowSum(terms, n, top, bottom)
	}
	add := func(a, b impl.Sum) impl.Sum { s, _ := impl.SumAdd(a, b); return s }
	twoChains := add(one(chain(5, "y")), add(one(chain(5, "z")), one("(app x (m (app x (m (app x (m (app y (m x x))))))))")))
	for _, c := range []struct {
		what  string
		s     impl.Sum
		bag   string
		terms int // -1 if it fails
		want  string
	}{
		{"nothing", impl.Sum{}, "y", 0, ""}, {"an empty bag", sumOf("1/2 (app x (m)); 3/1 y; -1/7 z"), "", 2, "3/1 y; -1/7 z"}, {"one term", sumOf("1/2 (app x (m)); 3/1 y"), "(lam 0)", 1, "1/2 (app (lam 0) (m))"}, {"more terms than there are places", sumOf("1/2 (app x (m)); 3/1 y"), "a, b", 0, ""},
		{"different degrees", sumOf("1/3 (app x (m x)); 1/5 (app x (m)); 1/7 y"), "a, b", 2, "1/3 (app a (m b)); 1/3 (app b (m a))"}, {"equal terms", sumOf("1/6 (app y (m x x x)); -1/6 (app z (m x x x))"), "b, a, b", 2, "1/1 (app y (m a b b)); -1/1 (app z (m a b b))"},
		{"results that are equal", sumOf("1/2 (app x (m y)); 1/3 (app y (m x))"), "y", 1, "5/6 (app y (m y))"}, {"results that vanish", sumOf("1/2 (app x (m y)); -1/2 (app y (m x))"), "y", 0, ""}, {"some of which vanish", sumOf("2/1 (app x (m x y)); -1/1 (app y (m x x))"), "y, z", 1, "2/1 (app z (m y y))"},
		{"7 terms", sumOf("1/1 x"), "a, a, a, a, a, a, a", -1, ""}, {"7 terms for nothing", impl.Sum{}, "a, a, a, a, a, a, a", -1, ""}, {"6 terms for nothing", impl.Sum{}, "a, a, a, a, a, a", 0, ""},
		{"a large one", sumOf("1/1 (lam x); 1/1 x"), large(59), 2, "1/1 " + large(60) + "; 1/1 " + large(59)}, {"a term too large", sumOf("1/1 (lam x); 1/1 x"), large(60), -1, ""}, {"a term with another degree that would be too large", sumOf("1/1 (lam (app x (m x))); 1/1 x"), large(60), 1, "1/1 " + large(60)}, {"terms too large that would vanish", sumOf("1/1 (app x (m y)); -1/1 (app y (m x))"), large(59), -1, ""},
		{"a term with too many terms", sumOf("1/1 " + chain(6, "y") + "; 1/1 x"), "a, b, c, d, e, f", -1, ""}, {"a term with too many terms if it had the degree", sumOf("1/1 " + chain(6, "y") + "; 1/1 x"), "a", 1, "1/1 a"}, {"terms with too many terms that would vanish", sumOf("1/1 " + chain(6, "y") + "; -1/1 " + chain(6, "z")), "a, b, c, d, e, f", -1, ""},
		{"a top of PartMax", sumOf("500000000/1 (app y (m x x))"), "a, b", 1, "1000000000/1 (app y (m a b))"}, {"a top that is too large", sumOf("500000001/1 (app y (m x x))"), "a, b", -1, ""}, {"a top of -PartMax", sumOf("-500000000/1 (app y (m x x))"), "a, a", 1, "-1000000000/1 (app y (m a a))"}, {"a top that is too small", sumOf("-500000001/1 (app y (m x x))"), "a, a", -1, ""},
		{"a large top on the way alone", sumOf("-1000000000/1 (app x (m x y)); 1000000000/1 (app y (m x x))"), "y, z", 2, "1000000000/1 (app y (m y z)); -1000000000/1 (app z (m y y))"}, {"large tops on the way that vanish", sumOf("-1000000000/1 (app x (m x y)); 1000000000/1 (app y (m x x)); 1/1 (app z (m x x))"), "y, y", 1, "2/1 (app z (m y y))"}, {"a large top that is left", sumOf("1000000000/1 (app y (m x x)); 1/1 (app z (m x x))"), "y, y", -1, ""}, {"large tops that vanish", sumOf("1000000000/1 (app x (m y z)); -1000000000/1 (app y (m x z)); -1/1 (app z (m x y))"), "y", 1, "-1/1 (app z (m y y))"},
		{"a bottom of PartMax", sumOf("1/512 (app x (m y)); 1/1953125 (app y (m x))"), "y", 1, "1953637/1000000000 (app y (m y))"}, {"a bottom that is too large", sumOf("1/1024 (app x (m y)); 1/1953125 (app y (m x))"), "y", -1, ""}, {"large bottoms that are turned", sumOf("1/1000000000 (app y (m x x))"), "a, a", 1, "1/500000000 (app y (m a a))"},
		{"TermsMax terms", heads(300, 1, 2), "a, b", 300, ""}, {"TermsMax terms by 2", heads(150, 1, 2), "(lam 0), b", 150, ""}, {"TermsMax terms with many ways", twoChains, "a, b, c, d, e", 300, ""}, {"one more", add(twoChains, one(wide("z", 5))), "a, b, c, d, e", -1, ""}, {"many more", add(twoChains, one(chain(5, "a"))), "a, b, c, d, e", -1, ""}, {"many, and one with another degree", add(twoChains, one(wide("z", 4))), "a, b, c, d, e", 300, ""},
	} {
		m, _ := mixedOf(c.s)
		reckoned, ok := mixed{}, len(bagOf(c.bag)) < 7
		if ok {
			reckoned, ok = m.put("x", shapesOf(bagOf(c.bag)))
		}
		got, fine := impl.LinearSum(c.s, "x", bagOf(c.bag))
		checkSum(t, c.what, got, fine, reckoned, ok)
		if fine != (c.terms >= 0) || fine && len(got.Terms) != c.terms || c.want != "" && showSum(got) != c.want {
			t.Error(say("%s: %d terms, %.200v, %v", c.what, len(got.Terms), got, fine))
		}
	}
}

func TestPromise23TermsThatAllVanish(t *testing.T) {
	// Of 11 places one of each of 5 pairs is y, with the sign of the choice, and the others are x.
	// If 2 or more of these become y, both of a pair are, and the choices that come to this vanish.
	s := mixed{}
	for choice := range 32 {
		text, sign := "y", int64(1)
		for k := range 11 {
			atom := "x"
			if k < 10 && k%2 == choice>>(k/2)&1 {
				atom = "y"
			}
			text = "(app " + atom + " (m " + text + "))"
		}
		for k := range 5 {
			if choice>>k&1 == 1 {
				sign = -sign
			}
		}
		s.add(text, big.NewRat(sign, 7))
	}
	sum, _ := s.sum()
	if got, ok := impl.LinearSum(sum, "x", bagOf("a, b, c, y, y, y")); !ok || !emptySum(got) {
		t.Error(say("120 terms each: %.200v, %v", got, ok))
	}
	if got, ok := impl.LinearSum(sum, "x", bagOf("a, b, b, c, y, z")); ok || !emptySum(got) {
		t.Error(say("360 terms each: %.200v, %v", got, ok))
	}
	// Here all would vanish, too, but LinearPut of each term fails.
	if got, ok := impl.LinearSum(sum, "x", bagOf("a, b, c, d, y, y")); ok || !emptySum(got) {
		t.Error(say("360 terms each that vanish: %.200v, %v", got, ok))
	}
	again, ok := impl.DeriveSum(sum, "x", one("y"))
	if want, _ := s.derived("x", mixed{"y": big.NewRat(1, 1)}); !ok {
		t.Error("DeriveSum failed")
	} else {
		checkSum(t, "the derivative by y", again, ok, want, true)
	}
	if twice, ok := impl.DeriveSum(again, "x", one("y")); !ok || !emptySum(twice) {
		t.Error(say("the derivative by y, twice: %.200v, %v", twice, ok))
	}
}

// placedSum returns a sum of terms with places of x, as it is or with the degree n alone.
func (d *dice) placedSum(terms []string, n int) impl.Sum {
	if d.roll(4) > 0 {
		terms = slices.DeleteFunc(slices.Clone(terms), func(s string) bool { return impl.TermDegree(s, "x") != n })
	}
	return d.someSum(terms, 5)
}

func TestPromise23Sums(t *testing.T) {
	d := dice(43)
	terms := linearTerms(&d, 120, 12)
	done, failed := 0, 0
	for i := range 500 {
		n := []int{0, 1, 1, 2, 2, 2, 3, 3, 4, 5}[i%10]
		s := d.placedSum(terms, n)
		bag := d.few(smallTerms()[:2+i%12], n, "q")
		m, _ := mixedOf(s)
		want, ok := m.put("x", shapesOf(bag))
		got, fine := impl.LinearSum(s, "x", bag)
		checkSum(t, say("LinearSum(%v, x, %q)", s, bag), got, fine, want, ok)
		if !fine {
			failed++
			continue
		}
		if len(got.Terms) > 0 {
			done++
		}
		twice, valid := impl.SumTimes(s, 2, 1)
		double, small := impl.SumTimes(got, 2, 1)
		if !valid || !small {
			continue
		}
		if again, ok := impl.LinearSum(twice, "x", bag); !ok || !sameSum(again, double) {
			t.Error(say("LinearSum(%v, x, %q) = %v, %v, not %v", twice, bag, again, ok, double))
		}
	}
	if done < 200 || failed < 20 {
		t.Error(say("%d sums with terms, and %d failed", done, failed))
	}
	for _, s := range badSums() {
		for _, bag := range [][]string{nil, {"y"}} {
			got, ok := impl.LinearSum(s, "x", bag)
			checkFails(t, say("LinearSum(%.200v, x, %q)", s, bag), got, ok)
		}
	}
	for _, s := range []impl.Sum{{}, one("x"), one("y")} {
		for _, name := range noNames() {
			got, ok := impl.LinearSum(s, name, nil)
			checkFails(t, say("LinearSum(%v, %q)", s, name), got, ok)
		}
		for _, text := range otherTexts() {
			for _, bag := range [][]string{{text}, {"y", text}} {
				got, ok := impl.LinearSum(s, "x", bag)
				checkFails(t, say("LinearSum(%v, x, %.80q)", s, bag), got, ok)
			}
		}
	}
}

func TestPromise24DerivingAtTheEdges(t *testing.T) {
	for _, c := range []struct{ s, name, by, want string }{
		{"x", "x", "y", "1/1 y"}, {"x", "x", "x", "1/1 x"}, {"x", "y", "z", ""}, {"(lam 0)", "x", "y", ""}, {"(app x (m))", "x", "y", "1/1 (app y (m))"},
		{"(app x (m x))", "x", "y", "1/1 (app x (m y)); 1/1 (app y (m x))"}, {"(app x (m x))", "x", "x", "2/1 (app x (m x))"}, {"(app x (m x))", "y", "x", ""}, {"(app x (m y))", "y", "x", "1/1 (app x (m x))"},
		{"(app y (m x x))", "x", "a", "2/1 (app y (m a x))"}, {"(app y (m x x))", "x", "z", "2/1 (app y (m x z))"}, {"(app x (m x x x))", "x", "y", "3/1 (app x (m x x y)); 1/1 (app y (m x x x))"}, {"(app m (m m))", "m", "x", "1/1 (app m (m x)); 1/1 (app x (m m))"},
		{"(app y (m (lam x) (lam x)))", "x", "z", "2/1 (app y (m (lam x) (lam z)))"}, {"(app y (m (lam x) x))", "x", "(lam x)", "1/1 (app y (m (lam (lam x)) x)); 1/1 (app y (m (lam x) (lam x)))"},
		// The name in what is put stays.
		{"x", "x", "(app x (m x))", "1/1 (app x (m x))"}, {"(app x (m x))", "x", "(app x (m))", "1/1 (app (app x (m)) (m x)); 1/1 (app x (m (app x (m))))"},
		// Names stay free under lam, and indices are those of their own lam.
		{"(lam x)", "x", "k0", "1/1 (lam k0)"}, {"(lam (app 0 (m x)))", "x", "(lam 0)", "1/1 (lam (app 0 (m (lam 0))))"}, {"(lam (lam (app 1 (m 0 x x))))", "x", "(lam (app 0 (m y)))", "2/1 (lam (lam (app 1 (m (lam (app 0 (m y))) 0 x))))"},
		// Bags are sorted again, from the inside.
		{"(app y (m (app y (m c)) (app y (m x))))", "x", "a", "1/1 (app y (m (app y (m a)) (app y (m c))))"}, {"(app y (m x y))", "x", "z", "1/1 (app y (m y z))"},
		// The sizes 60 and 61.
		{"(lam x)", "x", large(59), "1/1 " + large(60)}, {"(lam x)", "x", large(60), "no"}, {"(app x (m x))", "x", large(58), "1/1 (app " + large(58) + " (m x)); 1/1 (app x (m " + large(58) + "))"}, {"(app x (m x))", "x", large(59), "no"}, {"x", "x", large(60), "1/1 " + large(60)}, {large(60), "x", large(60), ""}, {"(lam y)", "x", large(60), ""}, {wide("y", 58), "x", "z", "58/1 (app y (m" + strings.Repeat(" x", 57) + " z))"}, {wide("y", 58), "x", "(lam 0)", "no"}, {wide("x", 58), "x", "x", "59/1 " + wide("x", 58)},
	} {
		x, _ := termOf(c.s)
		got, ok := impl.Derive(c.s, c.name, c.by)
		checkWant(t, say("Derive(%s, %s, %s)", c.s, c.name, c.by), got, ok, c.want, x.derived(c.name, shapesOf([]string{c.by})[0]), true)
	}
}

func TestPromise24Deriving(t *testing.T) {
	d := dice(47)
	many := 0
	for i, s := range append(linearTerms(&d, 200, 40), someTerms()...) {
		x, _ := termOf(s)
		for _, name := range []string{"x", "y", "k0"} {
			n := impl.TermDegree(s, name)
			for _, by := range []string{name, "a", smallTerms()[i%14], large(2 + i%59)} {
				got, ok := impl.Derive(s, name, by)
				checkSum(t, say("Derive(%s, %s, %s)", s, name, by), got, ok, x.derived(name, shapesOf([]string{by})[0]), true)
				if !ok {
					continue
				}
				if top, bottom, fine := impl.SumTotal(got); !fine || top != n || bottom != 1 {
					t.Error(say("Derive(%s, %s, %s) = %v has the total %d, %d, %v", s, name, by, got, top, bottom, fine))
				}
				if want, _ := impl.SumOf(s, n, 1); by == name && !sameSum(got, want) {
					t.Error(say("Derive(%s, %s, %s) = %v", s, name, by, got))
				}
				if len(got.Terms) > 3 {
					many++
				}
			}
		}
	}
	if many < 50 {
		t.Error(say("only %d derivatives with more than 3 terms", many))
	}
	for _, s := range otherTexts() {
		for _, c := range [][2]string{{s, "y"}, {"x", s}, {"y", s}, {s, s}} {
			got, ok := impl.Derive(c[0], "x", c[1])
			checkFails(t, say("Derive(%.80q, x, %.80q)", c[0], c[1]), got, ok)
		}
	}
	for _, name := range noNames() {
		got, ok := impl.Derive("(app x (m y))", name, "y")
		checkFails(t, say("Derive((app x (m y)), %q, y)", name), got, ok)
	}
}

func TestPromise25DerivingSumsAtTheEdges(t *testing.T) {
	row := nameRow()
	apps := func(n int) impl.Sum {
		terms := []string{}
		for _, name := range row[:n] {
			terms = append(terms, "(app "+name+" (m x))")
		}
		return rowSum(terms, n, 1, 1)
	}
	chains := rowSum(row, 300, 1, 1)
	for i, name := range row[:300] {
		chains.Terms[i] = chain(29, name)
	}
	for _, c := range []struct {
		what  string
		s, by impl.Sum
		terms int // -1 if it fails
		want  string
	}{
		{"nothing", impl.Sum{}, one("y"), 0, ""}, {"by nothing", one("x"), impl.Sum{}, 0, ""}, {"nothing by nothing", impl.Sum{}, impl.Sum{}, 0, ""}, {"where the name is not", sumOf("1/2 y; 1/3 z"), one("y"), 0, ""},
		{"one pair", sumOf("2/3 x"), sumOf("-3/4 y"), 1, "-1/2 y"}, {"all pairs", sumOf("1/2 (app x (m)); 1/3 x"), sumOf("1/5 y; 1/7 z"), 4, "1/10 (app y (m)); 1/14 (app z (m)); 1/15 y; 1/21 z"}, {"two places", sumOf("1/2 (app x (m x)); 1/3 y"), sumOf("1/2 x; 1/1 y"), 3, "1/2 (app x (m x)); 1/2 (app x (m y)); 1/2 (app y (m x))"}, {"equal places", sumOf("1/2 (app y (m x x x))"), sumOf("2/3 x; 4/3 z"), 2, "1/1 (app y (m x x x)); 2/1 (app y (m x x z))"},
		{"results that are equal", sumOf("1/2 (app x (m y)); 1/3 (app y (m x))"), one("y"), 1, "5/6 (app y (m y))"}, {"results that vanish", sumOf("1/2 (app x (m y)); -1/2 (app y (m x))"), one("y"), 0, ""}, {"the square of a difference", sumOf("1/1 (app a (m x y)); -1/1 (app a (m x z))"), sumOf("1/1 y; -1/1 z"), 3, "1/1 (app a (m y y)); -2/1 (app a (m y z)); 1/1 (app a (m z z))"}, {"a difference of squares", sumOf("1/1 (app a (m x y)); 1/1 (app a (m x z))"), sumOf("1/1 y; -1/1 z"), 2, "1/1 (app a (m y y)); -1/1 (app a (m z z))"},
		{"the size 60", sumOf("1/1 (lam x); 1/1 x"), sumOf("1/1 " + large(59) + "; 1/1 y"), 4, ""}, {"the size 61", sumOf("1/1 (lam x); 1/1 x"), sumOf("1/1 " + large(60) + "; 1/1 y"), -1, ""}, {"the size 61 where the name is not", sumOf("1/1 (lam y); 1/1 x"), sumOf("1/1 " + large(60) + "; 1/1 y"), 2, ""}, {"too large, but they would vanish", sumOf("1/1 (app x (m y)); -1/1 (app y (m x))"), one(large(59)), -1, ""},
		{"a top of PartMax", sumOf("500000/1 (app y (m x x))"), sumOf("1000/1 z"), 1, "1000000000/1 (app y (m x z))"}, {"a top that is too large", sumOf("500001/1 (app y (m x x))"), sumOf("1000/1 z"), -1, ""}, {"a top of -PartMax", sumOf("-500000/1 (app y (m x x))"), sumOf("1000/1 z"), 1, "-1000000000/1 (app y (m x z))"}, {"a top that is too small", sumOf("-500001/1 (app y (m x x))"), sumOf("1000/1 z"), -1, ""}, {"a bottom of PartMax", sumOf("1/500000 (lam x)"), sumOf("1/2000 z"), 1, "1/1000000000 (lam z)"}, {"a bottom that is too large", sumOf("1/500001 (lam x)"), sumOf("1/2000 z"), -1, ""},
		{"large on the way alone", sumOf("1000000000/1 (app a (m x y)); -1000000000/1 (app a (m x z)); 1/1 x"), sumOf("1000000000/1 y; 1000000000/1 z"), -1, ""}, {"large ones that vanish", sumOf("1000000000/1 (app x (m y)); -1000000000/1 (app y (m x)); 1/1000000000 x"), sumOf("1000000000/1 y"), 1, "1/1 y"}, {"large bottoms that vanish", sumOf("1/999999937 (app x (m y)); -1/999999937 (app y (m x)); 2/1 x"), sumOf("1/999999929 y"), 1, "2/999999929 y"}, {"large ones that are turned", sumOf("1000000000/999999999 x"), sumOf("999999999/1000000000 y"), 1, "1/1 y"},
		{"TermsMax terms", apps(300), one("y"), 300, ""}, {"TermsMax terms by others", one("x"), rowSum(row, 300, 1, 2), 300, ""}, {"TermsMax terms by both", apps(20), rowSum(row, 15, 1, 2), 300, ""}, {"more terms by both", apps(43), rowSum(row, 7, 1, 2), -1, ""}, {"TermsMax pairs of two places", one("(app x (m x))"), rowSum(row, 150, 1, 1), 300, ""}, {"more pairs of two places", one("(app x (m x))"), rowSum(row, 151, 1, 1), -1, ""}, {"many terms of which two have the name", impl.Sum{Terms: append(slices.Clone(row[:298]), "x", "x1"), Tops: slices.Repeat([]int{1}, 300), Bottoms: slices.Repeat([]int{1}, 300)}, rowSum(row, 300, 1, 1), 300, ""},
		{"more than TermsMax pairs, of which many are equal", rowSum([]string{"(app y (m a x))", "(app y (m b x))", "(app y (m c x))", "(app y (m d x))", "(app y (m e x))"}, 5, 1, 1), rowSum([]string{"a", "b", "c", "d", "e"}, 5, 1, 1), 15, ""}, {"very many terms", apps(300), rowSum(row, 300, 1, 1), -1, ""}, {"very many large terms", chains, rowSum(row, 300, 1, 1), -1, ""}, {"very many places", one(wide("x", 58)), rowSum(row, 150, 1, 1), 300, ""},
	} {
		m, valid := mixedOf(c.s)
		n, fit := mixedOf(c.by)
		if !valid || !fit {
			t.Fatal(say("%s: no valid sums", c.what))
		}
		got, fine := impl.DeriveSum(c.s, "x", c.by)
		if len(m)*len(n) < 2000 {
			reckoned, ok := m.derived("x", n)
			checkSum(t, c.what, got, fine, reckoned, ok)
		}
		if fine != (c.terms >= 0) || len(got.Terms) != max(0, c.terms) || c.want != "" && showSum(got) != c.want || !impl.SumValid(got) {
			t.Error(say("%s: %d terms, %.200v, %v", c.what, len(got.Terms), got, fine))
		}
	}
}

func TestPromise25ManyTermsThatVanish(t *testing.T) {
	// The derivative of the sum of y^i z^(n-i) x by y - z is y^(n+1) - z^(n+1), for many heads at once.
	heads := nameRow()[:30]
	s := mixed{}
	for _, head := range heads {
		for i := range 10 {
			s.add("(app "+head+" (m x"+strings.Repeat(" y", i)+strings.Repeat(" z", 9-i)+"))", big.NewRat(int64(1+len(head)), 3))
		}
	}
	sum, _ := s.sum()
	by := sumOf("1/1 y; -1/1 z")
	got, ok := impl.DeriveSum(sum, "x", by)
	n, _ := mixedOf(by)
	want, _ := s.derived("x", n)
	checkSum(t, "many terms that vanish", got, ok, want, true)
	if len(sum.Terms) != 300 || len(got.Terms) != 60 {
		t.Error(say("%d terms become %d", len(sum.Terms), len(got.Terms)))
	}
}

func TestPromise25DerivingSums(t *testing.T) {
	d := dice(53)
	terms := linearTerms(&d, 120, 14)
	done, failed := 0, 0
	for i := range 900 {
		s, by := d.someSum(terms, 3), d.someSum(append(smallTerms()[:2+i%12], large(2+i%53)), 3)
		m, _ := mixedOf(s)
		n, _ := mixedOf(by)
		want, ok := m.derived("x", n)
		got, fine := impl.DeriveSum(s, "x", by)
		checkSum(t, say("DeriveSum(%v, x, %v)", s, by), got, fine, want, ok)
		if !fine {
			failed++
			continue
		}
		all, whole := impl.Sum{}, true
		for k, term := range by.Terms {
			part, ok1 := impl.DeriveSum(s, "x", one(term))
			times, ok2 := impl.SumTimes(part, by.Tops[k], by.Bottoms[k])
			next, ok3 := impl.SumAdd(all, times)
			all, whole = next, whole && ok1 && ok2 && ok3
		}
		if whole && !sameSum(all, got) {
			t.Error(say("DeriveSum(%v, x, %v) = %v, but by each term %v", s, by, got, all))
		}
		if whole && len(got.Terms) > 0 {
			done++
		}
	}
	if done < 150 || failed < 50 {
		t.Error(say("%d sums with terms, and %d failed", done, failed))
	}
	for _, s := range badSums() {
		for _, c := range [][2]impl.Sum{{s, one("y")}, {one("x"), s}, {s, {}}, {{}, s}, {s, s}} {
			got, ok := impl.DeriveSum(c[0], "x", c[1])
			checkFails(t, say("DeriveSum(%.200v, x, %.200v)", c[0], c[1]), got, ok)
		}
	}
	for _, name := range noNames() {
		for _, c := range [][2]impl.Sum{{one("x"), one("y")}, {{}, one("y")}, {one("x"), {}}, {{}, {}}} {
			got, ok := impl.DeriveSum(c[0], name, c[1])
			checkFails(t, say("DeriveSum(%v, %q, %v)", c[0], name, c[1]), got, ok)
		}
	}
}

func TestPromise26DerivingAgainAtTheEdges(t *testing.T) {
	for _, c := range []struct{ s, name, list, want string }{
		{"x", "x", "", "1/1 x"}, {"y", "x", "", "1/1 y"}, {"x", "x", "y", "1/1 y"}, {"x", "x", "y, z", ""}, {"y", "x", "y", ""}, {"x", "x", "x, x, x, x, x, x", "1/1 x"},
		{"(app x (m x))", "x", "y, z", "1/1 (app y (m z)); 1/1 (app z (m y))"}, {"(app x (m x))", "x", "y", "1/1 (app x (m y)); 1/1 (app y (m x))"}, {"(app x (m x))", "x", "y, y", "2/1 (app y (m y))"}, {"(app x (m x))", "x", "y, z, a", ""}, {"(app y (m x x x))", "x", "a, z", "6/1 (app y (m a x z))"},
		// The name in a term of the list is a place for the next ones.
		{"x", "x", "(app x (m x)), y", "1/1 (app x (m y)); 1/1 (app y (m x))"}, {"x", "x", "y, (app x (m x))", ""}, {"(app x (m x))", "x", "x, y", "2/1 (app x (m y)); 2/1 (app y (m x))"}, {"(app x (m x))", "x", "y, x", "1/1 (app x (m y)); 1/1 (app y (m x))"},
		{wide("y", 6), "x", "a, b, c, d, e, f", "720/1 (app y (m a b c d e f))"}, {wide("y", 6), "x", "z, z, z, z, z, z", "720/1 (app y (m z z z z z z))"}, {wide("y", 7), "x", "a, b, c, d, e, f, g", "no"}, {"y", "x", "z, z, z, z, z, z, z", "no"}, {"x", "x", strings.Repeat("x, ", 99999) + "x", "no"},
		// 59^5 is at most PartMax, 59^6 is not.
		{wide("x", 58), "x", "x, x, x, x, x", "714924299/1 " + wide("x", 58)}, {wide("x", 58), "x", "x, x, x, x, x, x", "no"}, {wide("y", 31), "x", "x, x, x, x, x, x", "887503681/1 " + wide("y", 31)}, {wide("y", 32), "x", "x, x, x, x, x, x", "no"},
		// What is too large on the way fails, even if nothing is left in the end.
		{wide("y", 58), "x", "(lam 0)", "no"}, {wide("y", 57), "x", "(lam 0), y", "3192/1 (app y (m (lam 0)" + strings.Repeat(" x", 55) + " y))"}, {wide("y", 57), "x", "(lam 0), (lam 0)", "no"}, {"(lam x)", "x", large(60) + ", y, y", "no"}, {"(lam x)", "x", "y, " + large(60), ""}, {"(lam x)", "x", large(59) + ", " + large(60), ""},
		// There are 6 * 5 * 4 * 3 = 360 terms on the way, and 720 at last.
		{chain(6, "y"), "x", "a, b, c", "120"}, {chain(6, "y"), "x", "a, b, c, d", "no"}, {chain(6, "y"), "x", "a, a, b, b", "90"}, {chain(6, "y"), "x", "a, a, b, b, c, c", "90"}, {chain(6, "y"), "x", "a, a, b, b, c, d", "180"}, {chain(6, "y"), "x", "a, b, c, d, d, d", "no"}, {chain(6, "y"), "x", "d, d, d, a, b, c", "120"}, {chain(17, "y"), "x", "a, b", "272"}, {chain(18, "y"), "x", "a, b", "no"}, {chain(18, "y"), "x", "a, b, y, y, y, y", "no"},
	} {
		reckoned, ok := mixed{}, len(bagOf(c.list)) < 7
		if ok {
			reckoned, ok = derivedMany(c.s, c.name, bagOf(c.list))
		}
		got, fine := impl.DeriveMany(c.s, c.name, bagOf(c.list))
		what := say("DeriveMany(%s, %s, %.200s)", c.s, c.name, c.list)
		if strings.Contains(c.want+" ", "/") || c.want == "" || c.want == "no" {
			checkWant(t, what, got, fine, c.want, reckoned, ok)
			continue
		}
		checkSum(t, what, got, fine, reckoned, ok)
		if !fine || len(got.Terms) != number(c.want) {
			t.Error(say("%s: %d terms, %v", what, len(got.Terms), fine))
		}
	}
}

func TestPromise26DerivingAgain(t *testing.T) {
	d := dice(59)
	done, failed := 0, 0
	for i, s := range linearTerms(&d, 600, 16) {
		list := d.few(append(smallTerms(), large(2+i%50)), d.roll(7), []string{"x", "q"}[i%2])
		kept := slices.Clone(list)
		want, ok := derivedMany(s, "x", list)
		got, fine := impl.DeriveMany(s, "x", list)
		checkSum(t, say("DeriveMany(%s, x, %q)", s, list), got, fine, want, ok)
		if !slices.Equal(list, kept) {
			t.Fatal(say("the list %q became %q", kept, list))
		}
		slices.Reverse(list)
		turned, back := impl.DeriveMany(s, "x", list)
		if i%2 == 0 && fine && back && !sameSum(got, turned) {
			t.Error(say("DeriveMany(%s, x, %q) = %v, but %v turned round", s, kept, got, turned))
		}
		if i%2 == 0 && fine && back && len(got.Terms) > 0 && len(list) > 1 {
			done++
		}
		if !fine {
			failed++
		}
	}
	if done < 50 || failed < 10 {
		t.Error(say("%d sums with terms, and %d failed", done, failed))
	}
	for _, s := range otherTexts() {
		for _, list := range [][]string{nil, {"y"}, {s}} {
			got, ok := impl.DeriveMany(s, "x", list)
			checkFails(t, say("DeriveMany(%.80q, x, %.80q)", s, list), got, ok)
		}
		for _, list := range [][]string{{s}, {"y", s}, {s, "y"}, {"y", "y", "y", s}} {
			for _, text := range []string{"x", "y"} {
				got, ok := impl.DeriveMany(text, "x", list)
				checkFails(t, say("DeriveMany(%s, x, %.80q)", text, list), got, ok)
			}
		}
	}
	for _, name := range noNames() {
		for _, list := range [][]string{nil, {"y"}, {"y", "y"}} {
			got, ok := impl.DeriveMany("(app x (m y))", name, list)
			checkFails(t, say("DeriveMany((app x (m y)), %q, %q)", name, list), got, ok)
		}
	}
}

// ones returns the sums of terms themselves.
func ones(terms []string) []impl.Sum {
	list := []impl.Sum{}
	for _, s := range terms {
		list = append(list, one(s))
	}
	return list
}

func TestPromise27DerivingAnApp(t *testing.T) {
	d := dice(61)
	done := 0
	for _, s := range append(linearTerms(&d, 600, 20), someTerms()...) {
		kids, _ := impl.TermKids(s)
		if len(kids) == 0 || kids[0] != "app" || len(kids) > 8 {
			continue
		}
		by := smallTerms()[d.roll(14)]
		got, ok := impl.Derive(s, "x", by)
		if !ok {
			continue
		}
		head, bag := one(kids[1]), ones(kids[2:])
		first, fine := impl.DeriveSum(head, "x", one(by))
		all, whole := impl.SumApply(first, bag)
		if !fine || !whole {
			t.Fatal(say("the first part of %s: %v, %v", s, fine, whole))
		}
		for i := range bag {
			part, ok1 := impl.Derive(kids[2+i], "x", by)
			list := slices.Clone(bag)
			list[i] = part
			apps, ok2 := impl.SumApply(head, list)
			next, ok3 := impl.SumAdd(all, apps)
			if !ok1 || !ok2 || !ok3 {
				t.Fatal(say("%s in the bag of %s: %v, %v, %v", kids[2+i], s, ok1, ok2, ok3))
			}
			all = next
		}
		if !sameSum(got, all) {
			t.Error(say("Derive(%s, x, %s) = %v, but by the parts %v", s, by, got, all))
		}
		if len(got.Terms) > 1 {
			done++
		}
	}
	if done < 150 {
		t.Error(say("only %d sums with more than one term", done))
	}
}

func TestPromise28Without(t *testing.T) {
	for _, c := range [][3]string{
		{"", "x", ""}, {"1/2 x", "x", ""}, {"1/2 x", "y", "1/2 x"}, {"1/2 x; -1/3 y", "x", "-1/3 y"}, {"1/2 x; -1/3 y", "y", "1/2 x"}, {"1/2 x; -1/3 y", "z", "1/2 x; -1/3 y"}, {"1/2 x1; -1/3 x10; 1/1 x2", "x1", "-1/3 x10; 1/1 x2"},
		{"1/2 (app m (m)); 1/3 (app x (m m)); 1/5 (app x (m x))", "m", "1/5 (app x (m x))"}, {"1/2 (lam (app 0 (m (lam x)))); 1/3 (lam 0)", "x", "1/3 (lam 0)"}, {"1/2 (app y (m (app y (m x y)))); 7/2 (app y (m (app y (m y y))))", "x", "7/2 (app y (m (app y (m y y))))"}, {"1/2 (lam 0)", "k0", "1/2 (lam 0)"},
	} {
		if got, ok := impl.LinearNone(sumOf(c[0]), c[1]); !ok || showSum(got) != c[2] {
			t.Error(say("LinearNone(%s, %s) = %v, %v", c[0], c[1], got, ok))
		}
	}
	for _, s := range someSums() {
		m, _ := mixedOf(s)
		for _, name := range append(someNames(), nameRow()[7]) {
			got, ok := impl.LinearNone(s, name)
			checkSum(t, say("LinearNone(%.200v, %s)", s, name), got, ok, m.without(name), true)
			for _, term := range got.Terms {
				if impl.TermDegree(term, name) != 0 {
					t.Error(say("LinearNone(%.200v, %s) has %s", s, name, term))
				}
			}
			if again, fine := impl.LinearNone(got, name); !fine || !sameSum(again, got) {
				t.Error(say("LinearNone(%.200v, %s) = %.200v, and again %.200v", s, name, got, again))
			}
		}
		if got, ok := impl.LinearNone(s, "q99"); !ok || !sameSum(got, s) {
			t.Error(say("LinearNone(%.200v, q99) = %.200v, %v", s, got, ok))
		}
	}
	for _, s := range badSums() {
		got, ok := impl.LinearNone(s, "x")
		checkFails(t, say("LinearNone(%.200v, x)", s), got, ok)
	}
	for _, name := range noNames() {
		for _, s := range []impl.Sum{{}, one("x")} {
			got, ok := impl.LinearNone(s, name)
			checkFails(t, say("LinearNone(%v, %q)", s, name), got, ok)
		}
	}
}

func TestPromise29PuttingOneName(t *testing.T) {
	d := dice(67)
	for _, s := range append(linearTerms(&d, 400, 40), someTerms()...) {
		for _, name := range []string{"x", "y", "m", "k0"} {
			n := impl.TermDegree(s, name)
			for _, by := range []string{"q", "a0", "z98"} {
				got, ok := impl.LinearPut(s, name, slices.Repeat([]string{by}, n))
				renamed, _ := impl.TermRename(s, name, by)
				want, _ := impl.SumOf(renamed, factorial(min(n, 6)), 1)
				if n <= 6 && (!ok || !sameSum(got, want)) {
					t.Error(say("LinearPut(%s, %s) of %s = %v, %v, not %v", s, name, by, got, ok, want))
				}
				if n > 6 {
					checkFails(t, say("LinearPut(%s, %s) of %s", s, name, by), got, ok)
				}
			}
		}
	}
}

// allOfPlaces returns what the functions of the chapter say of a sum and a term, in one text, and checks that they leave what they are given as it is.
func allOfPlaces(t *testing.T, s impl.Sum, term string) string {
	kept, bag := copySum(s), []string{"y", term, "(lam 0)", "y"}
	short := bag[:2:4]
	sums, fine := []impl.Sum{}, []bool{}
	note := func(got impl.Sum, ok bool) { sums, fine = append(sums, got), append(fine, ok) }
	note(impl.LinearPut(term, "x", short))
	note(impl.LinearPut(term, "x", short[:1]))
	note(impl.LinearPut(term, "x", nil))
	note(impl.LinearSum(s, "x", short))
	note(impl.LinearSum(s, "x", short[:1]))
	note(impl.Derive(term, "x", "y"))
	note(impl.DeriveSum(s, "x", s))
	note(impl.DeriveSum(s, "x", one(term)))
	note(impl.DeriveMany(term, "x", short))
	note(impl.DeriveMany(term, "x", nil))
	note(impl.LinearNone(s, "x"))
	all := fmt.Sprint(sums, fine)
	for _, x := range sums {
		spoil(t, x)
	}
	if !sameSum(s, kept) || !slices.Equal(bag, []string{"y", term, "(lam 0)", "y"}) {
		t.Error(say("%.300v became %.300v, and the bag %q", kept, s, bag))
	}
	return all
}

func TestCallsOfPlacesKeepNothing(t *testing.T) {
	d := dice(71)
	sums := slices.Concat(someSums()[4:60], badSums()[:20])
	terms := linearTerms(&d, len(sums), 12)
	for range 20 {
		sums = append(sums, d.someSum(terms, 6))
	}
	first := []string{}
	for i, s := range sums {
		first = append(first, allOfPlaces(t, s, terms[i%len(terms)]))
	}
	var wait sync.WaitGroup
	for range 4 {
		wait.Go(func() {
			for i := len(sums) - 1; i >= 0; i-- {
				if got := allOfPlaces(t, sums[i], terms[i%len(terms)]); got != first[i] {
					t.Error(say("of %.200v first %.200q, then %.200q", sums[i], first[i], got))
				}
			}
		})
	}
	wait.Wait()
}
