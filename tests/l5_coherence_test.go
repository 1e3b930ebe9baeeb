package tests

import (
	"fmt"
	"slices"
	"strings"
	"sync"
	"testing"

	"loop.example/resourceterms/impl"
)

// tree returns a term with bags within each other, each one with a small term, too.
func tree(n int, last string) string {
	return sortedText(nested("(app x (m (app x (m)) ", last, "))", n))
}

// unlike returns n different terms that are coherent.
func unlike(n int) []string {
	list := []string{}
	for i := range n {
		list = append(list, "(app a (m"+strings.Repeat(" b", i)+"))")
	}
	return list
}

// uniformHeads returns the uniform redex with n places, each one the first part of an app, and n different terms in its bag.
func uniformHeads(n int) string {
	return heads(n, "y", strings.Join(unlike(n), " "))
}

// smallTermTexts returns all resource terms of at most a size with the names x and y.
func smallTermTexts(size int) []string {
	all := []string{}
	for n := 1; n <= size; n++ {
		for _, x := range smallShapes(n) {
			if s := x.text(); x.closed(0) && s == x.sorted().text() {
				all = append(all, s)
			}
		}
	}
	return all
}

// badTexts are texts that are no resource terms, of which some would be uniform if they were sorted.
func badTexts() []string {
	return append(otherTexts(), "(app x (m (app y (m)) (app y (m z))))", "(lam (app x (m (app 0 (m)) (app 0 (m x)))))", "(app (app x (m (lam 0) (app x (m)))) (m))", "(app x y)", "(app x u0)")
}

// someCliques returns lists of terms in one lambda term each, or with some in one that is changed.
func someCliques(d *dice, count, size int) [][]string {
	all := [][]string{}
	for i := range count {
		m := d.lambda(1+d.roll(16), 0)
		list := d.clique(m, 1+d.roll(6), size)
		if i%2 == 0 {
			list = append(list, d.clique(d.changed(m), 1+d.roll(2), size)...)
		}
		all = append(all, list)
	}
	return all
}

// checkCoherent checks what is said of two terms against the pairs, in both orders, and what follows if they are coherent.
func checkCoherent(t *testing.T, known pairs, a, b string) bool {
	t.Helper()
	want := known.coherentTexts(a, b)
	for _, c := range [][2]string{{a, b}, {b, a}} {
		if got := impl.Coherent(c[0], c[1]); got != want {
			t.Fatalf("Coherent(%s, %s) = %v", c[0], c[1], got)
		}
	}
	if !want {
		return false
	}
	first, _ := impl.TermKids(a)
	second, _ := impl.TermKids(b)
	if (len(first) == 0) != (len(second) == 0) || len(first) > 0 && first[0] != second[0] || len(first) == 0 && a != b {
		t.Errorf("%s and %s are coherent with different heads", a, b)
	}
	if !impl.Uniform(a) || !impl.Uniform(b) {
		t.Errorf("%s and %s are coherent, but not both with themselves", a, b)
	}
	for _, name := range []string{"x", "y", "k0", "q"} {
		x, ok := impl.TermBind(a, name)
		y, fine := impl.TermBind(b, name)
		if ok && fine && !impl.Coherent(x, y) {
			t.Errorf("%s and %s are coherent, but not %s and %s", a, b, x, y)
		}
	}
	return true
}

func TestPromise40CoherentAtTheEdges(t *testing.T) {
	for _, c := range []struct {
		a, b string
		want bool
	}{
		// Atoms, and names against indices.
		{"x", "x", true}, {"x", "y", false}, {"x", "x0", false}, {"x0", "x00", false}, {"k0", "k0", true}, {"u0", "u0", true}, {"u0", "x", false}, {"(lam 0)", "(lam 0)", true}, {"(lam 0)", "(lam x)", false}, {"(lam (lam 0))", "(lam (lam 1))", false}, {"(lam (lam 1))", "(lam (lam 1))", true}, {"(lam (lam 0))", "(lam (lam x))", false}, {"(lam k0)", "(lam 0)", false}, {nested("(lam ", "58", ")", 59), nested("(lam ", "58", ")", 59), true}, {nested("(lam ", "58", ")", 59), nested("(lam ", "57", ")", 59), false},
		// Different heads.
		{"x", "(lam x)", false}, {"x", "(app x (m))", false}, {"(lam x)", "(app x (m))", false}, {"(lam x)", "(lam (lam x))", false}, {"(lam 0)", "(lam (app 0 (m)))", false}, {"(app x (m))", "(app (app x (m)) (m))", false}, {"(app x (m))", "(app (lam x) (m))", false},
		// Empty bags in one term and in both.
		{"(app x (m))", "(app x (m))", true}, {"(app x (m))", "(app y (m))", false}, {"(app x (m))", "(app x (m y))", true}, {"(app x (m))", "(app x (m y y y))", true}, {"(app x (m))", "(app y (m y))", false}, {"(app x (m (app y (m))))", "(app x (m (app y (m z))))", true}, {"(app x (m))", "(app x (m (app y (m)) (app y (m z))))", true}, {"(app (app x (m)) (m y))", "(app (app x (m y)) (m))", true}, {"(app (app x (m z)) (m))", "(app (app x (m y)) (m))", false},
		// Each two terms of both bags together, also of the same bag, each of them with itself.
		{"(app x (m y))", "(app x (m y y))", true}, {"(app x (m y))", "(app x (m z))", false}, {"(app x (m y))", "(app x (m y z))", false}, {"(app x (m y z))", "(app x (m))", false}, {"(app x (m y z))", "(app x (m y z))", false}, {"(app x (m (app y (m a b))))", "(app x (m))", false}, {"(app x (m (app y (m a b))))", "(app x (m (app y (m))))", false}, {"(app x (m (app y (m a)) (app y (m b))))", "(app x (m (app y (m))))", false}, {"(app x (m (app y (m a)) (app y (m))))", "(app x (m (app y (m a a))))", true}, {"(app x (m (lam 0) y))", "(app x (m))", false}, {"(app x (m (app y (m a))))", "(app x (m (app y (m b)) (app y (m))))", false},
		// The first parts.
		{"(app (app x (m y z)) (m))", "(app (app x (m)) (m))", false}, {"(app (app x (m)) (m y))", "(app (app x (m)) (m z))", false}, {"(app (lam 0) (m x))", "(app (lam 0) (m))", true}, {"(app (lam 0) (m x))", "(app (lam x) (m x))", false}, {"(lam (app 0 (m 0)))", "(lam (app 0 (m 0 0)))", true}, {"(lam (app 0 (m 0)))", "(lam (app 0 (m x)))", false},
		// Bags in bags.
		{"(app x (m (app x (m (app x (m y))))))", "(app x (m (app x (m (app x (m)) (app x (m y y))))))", true}, {"(app x (m (app x (m (app x (m y))))))", "(app x (m (app x (m (app x (m)) (app x (m z))))))", false}, {"(app x (m (app x (m (app x (m y)))) (app x (m))))", "(app x (m (app x (m (app x (m))))))", true}, {"(app x (m (app x (m (app x (m y)))) (app x (m))))", "(app x (m (app x (m (app x (m (lam y)))))))", false},
		{tree(14, "(app x (m))"), tree(14, "(app x (m))"), true}, {tree(14, "(app x (m))"), tree(13, "(app x (m))"), true}, {tree(14, "(app x (m))"), tree(7, "(app x (m x))"), false}, {tree(13, "(app x (m (app x (m))))"), tree(7, "(app x (m))"), true}, {tree(14, "x"), tree(14, "x"), false},
	} {
		if checkCoherent(t, pairs{}, sortedText(c.a), sortedText(c.b)) != c.want {
			t.Errorf("Coherent(%s, %s) = %v", c.a, c.b, !c.want)
		}
	}
}

// A term that is coherent with any other one is coherent with itself, so none of those that are not is coherent with anything.
func TestPromise40AllSmallTerms(t *testing.T) {
	known := pairs{}
	all := append(smallTermTexts(5), unlike(4)...)
	different, not := 0, 0
	for i, a := range all {
		if !impl.Uniform(a) {
			not++
		}
		for _, b := range all[i:] {
			if checkCoherent(t, known, a, b) && a != b {
				different++
			}
		}
	}
	if len(all) < 400 || different < 300 || not < 20 {
		t.Errorf("%d terms, %d pairs of different ones that are coherent, %d not with themselves", len(all), different, not)
	}
}

func TestPromise40Coherent(t *testing.T) {
	d := dice(131)
	yes, no := 0, 0
	check := func(a, b string) {
		if checkCoherent(t, pairs{}, a, b) && a != b {
			yes++
		} else if a != b {
			no++
		}
	}
	for _, list := range someCliques(&d, 600, 60) {
		for i, a := range list {
			for _, b := range list[i:] {
				check(a, b)
			}
		}
	}
	terms := append(someTerms(), steppingTerms(&d, 100, 30)...)
	for i, a := range terms {
		check(a, a)
		check(a, terms[d.roll(len(terms))])
		check(a, terms[(i+1)%len(terms)])
	}
	if yes < 500 || no < 1000 {
		t.Errorf("%d pairs of different terms that are coherent, %d that are not", yes, no)
	}
}

func TestPromise40InvalidTexts(t *testing.T) {
	for _, s := range badTexts() {
		for _, c := range [][2]string{{s, s}, {s, "x"}, {"x", s}, {s, "(app x (m))"}, {"(app x (m))", s}, {"(lam 0)", s}, {s, ""}} {
			if impl.Coherent(c[0], c[1]) {
				t.Errorf("Coherent(%.80q, %.80q)", c[0], c[1])
			}
		}
	}
	for _, c := range unsortedTexts() {
		if impl.Coherent(c[0], c[1]) || impl.Coherent(c[1], c[0]) {
			t.Errorf("Coherent took %q, which is not sorted", c[0])
		}
	}
}

func TestPromise41UniformAtTheEdges(t *testing.T) {
	for s, want := range map[string]bool{
		"x": true, "u0": true, "(lam 0)": true, "(lam x)": true, "(lam (lam 1))": true, "(app x (m))": true, "(app x (m y))": true, "(app x (m y y y))": true, "(app x (m y z))": false, "(app x (m y y z))": false, "(app x (m (lam 0) (lam 0)))": true, "(app x (m (lam 0) (lam x)))": false, "(app x (m (lam 0) x))": false, "(lam (app 0 (m 0 0)))": true, "(lam (app 0 (m 0 x)))": false, "(lam (lam (app 0 (m 0 1))))": false,
		"(app x (m (app y (m a)) (app y (m))))": true, "(app x (m (app y (m a a)) (app y (m a)) (app y (m))))": true, "(app x (m (app y (m a)) (app y (m b))))": false, "(app x (m (app y (m a)) (app y (m b)) (app y (m))))": false, "(app x (m (app y (m a)) (app z (m a))))": false, "(app x (m (app y (m a b))))": false, "(app (app x (m y z)) (m))": false, "(app (app x (m y)) (m z))": true, "(lam (app x (m y z)))": false, "(app (lam (app 0 (m 0))) (m x x))": true, "(app (lam (app 0 (m 0))) (m x y))": false,
		"(app x (m (app (app y (m a)) (m)) (app (app y (m)) (m a))))": true, "(app x (m (app (app y (m a)) (m)) (app (app y (m b)) (m))))": false, "(app x (m (lam (app 0 (m))) (lam (app 0 (m 0)))))": true,
		// Bags of which not each term, or each one only with some others, is the cause.
		"(app x (m (app y (m (app z (m a)))) (app y (m (app z (m)))) (app y (m (app z (m b))))))": false, "(app x (m (app y (m (app z (m a)) (app z (m)))) (app y (m (app z (m a a))))))": true,
		"(app x (m" + strings.Repeat(" x", 58) + "))": true, "(app x (m" + strings.Repeat(" x", 57) + " y))": false, tree(14, "(app x (m))"): true, tree(14, "x"): false, crowd: true, uniformHeads(6): true, heads(2, "y", "a b"): false, nested("(app x (m ", "(lam x)", "))", 29): true, nested("(app ", "(app x (m y z))", " (m))", 56): false, nested("(lam ", "0", ")", 59): true,
	} {
		s = sortedText(s)
		if got := impl.Uniform(s); got != want || got != (pairs{}).coherentTexts(s, s) {
			t.Errorf("Uniform(%s) = %v", s, got)
		}
	}
}

func TestPromise41Uniform(t *testing.T) {
	d := dice(137)
	terms := slices.Concat(someTerms(), smallTermTexts(5), steppingTerms(&d, 300, 30))
	for _, list := range someCliques(&d, 300, 60) {
		terms = append(terms, list...)
	}
	yes, no := 0, 0
	for _, s := range terms {
		want := (pairs{}).coherentTexts(s, s)
		if got := impl.Uniform(s); got != want || got != impl.Coherent(s, s) {
			t.Fatalf("Uniform(%s) = %v", s, got)
		}
		if !want {
			no++
			continue
		}
		kids, _ := impl.TermKids(s)
		for _, u := range kids[min(1, len(kids)):] {
			if !impl.Uniform(u) {
				t.Errorf("%s is uniform, but not its kid %s", s, u)
			}
		}
		if len(kids) > 0 && kids[0] == "app" {
			yes++
			if !impl.Clique(kids[2:]) {
				t.Errorf("%s is uniform, but its bag is no clique", s)
			}
		}
	}
	if yes < 1000 || no < 300 {
		t.Errorf("%d uniform apps, %d terms that are not uniform", yes, no)
	}
	for _, s := range badTexts() {
		if impl.Uniform(s) {
			t.Errorf("Uniform(%.80q)", s)
		}
	}
}

// checkClique checks what is said of a list against the pairs, and what follows if it is a clique.
func checkClique(t *testing.T, list []string) bool {
	t.Helper()
	want := (pairs{}).cliqueTexts(list)
	if got := impl.Clique(list); got != want {
		t.Fatalf("Clique(%.300q) = %v", list, got)
	}
	turned := slices.Clone(list)
	slices.Reverse(turned)
	if impl.Clique(turned) != want {
		t.Errorf("Clique(%.300q) = %v, but not turned round", list, want)
	}
	if !want {
		return false
	}
	for _, s := range list {
		if !impl.Uniform(s) {
			t.Errorf("%.300q is a clique, but %s is not uniform", list, s)
		}
	}
	if len(list) > 0 && !impl.Clique(list[1:]) {
		t.Errorf("%.300q is a clique, but not without the first one", list)
	}
	if !impl.Clique(append(turned, list...)) {
		t.Errorf("%.300q is a clique, but not twice", list)
	}
	return true
}

func TestPromise42CliquesAtTheEdges(t *testing.T) {
	if !impl.Clique(nil) || !impl.Clique([]string{}) {
		t.Errorf("nothing is no clique")
	}
	for _, c := range []struct {
		list string
		want bool
	}{
		{"x", true}, {"(lam 0)", true}, {"(app x (m y z))", false}, {"(app x (m y y))", true}, {"x, x", true}, {"x, x, x", true}, {"x, y", false}, {"x, y, x", false}, {"x, x, y", false}, {"x, (lam x)", false}, {"(lam x), (app x (m))", false}, {"(lam 0), (lam x)", false}, {"(app x (m)), (app y (m))", false},
		{"(app x (m)), (app x (m y)), (app x (m y y))", true}, {"(app x (m)), (app x (m y)), (app x (m z))", false}, {"(app x (m)), (app x (m y z))", false}, {"(app x (m y z)), (app x (m y z))", false}, {"(app x (m y)), (app x (m)), (app x (m y)), (app x (m))", true},
		// Of each two neighbours both are coherent, but not the first and the last one.
		{"(app x (m (app y (m a)))), (app x (m (app y (m)))), (app x (m (app y (m b))))", false}, {"(app (app x (m)) (m a)), (app (app x (m)) (m)), (app (app x (m b)) (m)), (app (app x (m b)) (m b))", false}, {"(app (app x (m)) (m a)), (app (app x (m)) (m)), (app (app x (m b)) (m)), (app (app x (m b)) (m a))", true},
		{"(lam (app 0 (m))), (lam (app 0 (m 0))), (lam (app 0 (m 0 0)))", true}, {"(lam (app 0 (m))), (lam (app 0 (m 0))), (lam (app 0 (m x)))", false}, {strings.Join(unlike(50), ", "), true}, {strings.Join(append(unlike(50), "(app a (m c))"), ", "), false}, {strings.Join([]string{tree(14, "(app x (m))"), tree(13, "(app x (m))"), tree(5, "(app x (m))"), "(app x (m))"}, ", "), true},
	} {
		if checkClique(t, bagOf(c.list)) != c.want {
			t.Errorf("Clique of %.200s: %v", c.list, !c.want)
		}
	}
	many := slices.Repeat([]string{"(app x (m y))", "(app x (m))"}, 30000)
	if !impl.Clique(many) || impl.Clique(append(many, "(app x (m z))")) || impl.Clique(append(many, "")) {
		t.Errorf("Clique took a wrong list of %d texts", len(many))
	}
}

func TestPromise42Cliques(t *testing.T) {
	d := dice(139)
	yes, no := 0, 0
	for _, list := range someCliques(&d, 1500, 60) {
		if checkClique(t, list) {
			yes++
		} else {
			no++
		}
	}
	small := smallTermTexts(4)
	for range 2000 {
		checkClique(t, d.few(small, d.roll(4), "q"))
	}
	if yes < 500 || no < 200 {
		t.Errorf("%d cliques, %d other lists", yes, no)
	}
}

func TestPromise42InvalidTexts(t *testing.T) {
	for _, s := range badTexts() {
		for _, list := range [][]string{{s}, {s, s}, {s, "x"}, {"x", s}, {"x", "x", s}, {"x", s, "x"}, {s, "(app x (m))", "(app x (m y))"}, {"(app x (m))", "(app x (m y))", s}} {
			if impl.Clique(list) {
				t.Errorf("Clique(%.100q)", list)
			}
			if m, ok := impl.CliqueJoin(list); ok || m != "" {
				t.Errorf("CliqueJoin(%.100q) = %q, %v", list, m, ok)
			}
		}
	}
	for _, c := range unsortedTexts() {
		if impl.Clique([]string{c[1], c[0]}) || impl.Clique([]string{c[0], c[1]}) {
			t.Errorf("Clique took %q, which is not sorted", c[0])
		}
	}
}

// checkJoin checks the lambda term of a list against the one that is reckoned, and that all of the list are in it.
func checkJoin(t *testing.T, list []string) (string, bool) {
	t.Helper()
	got, fine := impl.CliqueJoin(list)
	want := ""
	if len(list) > 0 && (pairs{}).cliqueTexts(list) {
		if m := joinedShape(shapesOf(list)); m.size() <= 60 {
			want = m.lambdaText()
		}
	}
	if got != want || fine != (want != "") {
		t.Fatalf("CliqueJoin(%.300q) = %q, %v, not %q", list, got, fine, want)
	}
	if !fine {
		return "", false
	}
	if m, ok := lambdaOf(got); !ok || !m.hasAll(shapesOf(list)) {
		t.Errorf("CliqueJoin(%.300q) = %s, in which not all are", list, got)
	}
	return got, true
}

func TestJoinsAtTheEdges(t *testing.T) {
	long := func(n int) string { return nested("(app ", "x", " (m))", n) }
	told := func(n int) string { return nested("(app ", "x", " u0)", n) }
	for _, c := range []struct{ list, want string }{
		// No list, and no clique.
		{"", "no"}, {"x, y", "no"}, {"x, (lam x)", "no"}, {"(app x (m y z))", "no"}, {"(app x (m)), (app x (m y z))", "no"}, {"(app x (m)), (app x (m y)), (app x (m z))", "no"}, {"(lam 0), (lam x)", "no"},
		{"x", "x"}, {"x, x, x", "x"}, {"u0", "u0"}, {"(lam 0)", "(lam 0)"}, {"(lam (lam 1)), (lam (lam 1))", "(lam (lam 1))"}, {nested("(lam ", "58", ")", 59), nested("(lam ", "58", ")", 59)},
		// Nothing told.
		{"(app x (m))", "(app x u0)"}, {"(app u0 (m))", "(app u0 u0)"}, {"(app x (m u0))", "(app x u0)"}, {"(app x (m)), (app x (m))", "(app x u0)"}, {"(lam (app 0 (m)))", "(lam (app 0 u0))"}, {"(app (app x (m)) (m))", "(app (app x u0) u0)"}, {"(app x (m (app y (m))))", "(app x (app y u0))"}, {"(app (lam 0) (m))", "(app (lam 0) u0)"},
		// Told by one, by others, or by several together.
		{"(app x (m y))", "(app x y)"}, {"(app x (m y y y))", "(app x y)"}, {"(app x (m)), (app x (m y))", "(app x y)"}, {"(app x (m y)), (app x (m))", "(app x y)"}, {"(app (app x (m)) (m y)), (app (app x (m z)) (m))", "(app (app x z) y)"}, {"(app x (m (app (app y (m)) (m a)) (app (app y (m b)) (m))))", "(app x (app (app y b) a))"}, {"(app x (m (app (app y (m)) (m a)))), (app x (m (app (app y (m b)) (m)))), (app x (m))", "(app x (app (app y b) a))"}, {"(lam (app 0 (m))), (lam (app 0 (m (lam (app 1 (m)))))), (lam (app 0 (m (lam (app 1 (m 0))))))", "(lam (app 0 (lam (app 1 0))))"}, {"(app x (m (lam (app 0 (m))))), (app x (m (lam (app 0 (m y)))))", "(app x (lam (app 0 y)))"},
		{strings.Join(unlike(50), ", "), "(app a b)"}, {tree(14, "(app x (m))"), nested("(app x ", "u0", ")", 15)}, {nested("(app x (m ", "x", "))", 29), nested("(app x ", "x", ")", 29)}, {"(app x (m" + strings.Repeat(" x", 58) + "))", "(app x x)"},
		// SizeMax and more.
		{nested("(lam ", "0", ")", 59), nested("(lam ", "0", ")", 59)}, {long(29), told(29)}, {"(lam " + long(29) + ")", "(lam " + told(29) + ")"}, {"(lam (lam " + long(29) + "))", "no"}, {long(30), "no"}, {long(59), "no"}, {"(lam " + nested("(app x (m ", "x", "))", 29) + ")", "(lam " + nested("(app x ", "x", ")", 29) + ")"},
		{"(app (app x (m " + large(28) + ")) (m)), (app (app x (m)) (m " + large(29) + "))", "(app (app x " + large(28) + ") " + large(29) + ")"}, {"(app (app x (m " + large(29) + ")) (m)), (app (app x (m)) (m " + large(29) + "))", "no"}, {"(app x (m " + large(58) + "))", "(app x " + large(58) + ")"}, {"(app x (m (app y (m))" + strings.Repeat(" (app y (m z))", 18) + "))", "(app x (app y z))"}, {"(app (app (app x (m " + large(30) + ")) (m)) (m)), (app (app (app x (m)) (m " + large(20) + ")) (m)), (app (app (app x (m)) (m)) (m " + large(20) + "))", "no"},
	} {
		list := bagOf(c.list)
		for i, s := range list {
			list[i] = sortedText(s)
		}
		got, ok := checkJoin(t, list)
		if ok != (c.want != "no") || ok && got != c.want {
			t.Errorf("CliqueJoin of %.200s: %q, %v, not %q", c.list, got, ok, c.want)
		}
	}
	if m, ok := impl.CliqueJoin(nil); ok || m != "" {
		t.Errorf("CliqueJoin of nothing: %q, %v", m, ok)
	}
	many := slices.Repeat([]string{"(app x (m y))", "(app x (m))"}, 30000)
	if m, ok := impl.CliqueJoin(many); !ok || m != "(app x y)" {
		t.Errorf("CliqueJoin of %d texts: %q, %v", len(many), m, ok)
	}
}

func TestJoinsAreOfLeastSize(t *testing.T) {
	d := dice(149)
	lambdas := [][]*shape{}
	for size := 1; size <= 5; size++ {
		lambdas = append(lambdas, smallLambdas(size, "x", "y", "z", "m", "k0", "u0", "0", "1", "2"))
	}
	done, many := 0, 0
	for done < 1000 {
		list := d.clique(d.lambda(1+d.roll(9), 0), 1+d.roll(4), 20)
		text, ok := checkJoin(t, list)
		m, _ := lambdaOf(text)
		if !ok || m.size() > 6 {
			continue
		}
		done++
		if m.size() > 3 && slices.ContainsFunc(list, func(s string) bool { return s != list[0] }) {
			many++
		}
		for _, smaller := range lambdas[:m.size()-1] {
			for _, n := range smaller {
				if n.hasAll(shapesOf(list)) {
					t.Errorf("CliqueJoin(%q) = %s, but all are in %s", list, text, n.lambdaText())
				}
			}
		}
	}
	if many < 100 {
		t.Errorf("only %d lists of different terms", many)
	}
}

func TestJoins(t *testing.T) {
	d := dice(151)
	done, large, failed := 0, 0, 0
	for _, list := range someCliques(&d, 1500, 60) {
		text, ok := checkJoin(t, list)
		if !ok {
			failed++
			continue
		}
		done++
		if m, _ := lambdaOf(text); m.size() > 8 {
			large++
		}
	}
	for _, s := range someTerms() {
		checkJoin(t, []string{s})
		checkJoin(t, []string{s, s})
	}
	if done < 500 || large < 100 || failed < 100 {
		t.Errorf("%d joins, %d of them large, %d failed", done, large, failed)
	}
}

// apartTexts reports whether two texts are different coherent terms with normal sums in both of which no term is, and how many terms these have.
func apartTexts(a, b string) (bool, int) {
	if a == b || !(pairs{}).coherentTexts(a, b) {
		return false, 0
	}
	m, _, ok := normalOf(a)
	n, _, fine := normalOf(b)
	if !ok || !fine {
		return false, 0
	}
	for text := range m {
		if n[text] != nil {
			return false, 0
		}
	}
	return true, min(len(m), len(n))
}

func TestPromise43ApartAtTheEdges(t *testing.T) {
	for _, c := range []struct {
		a, b string
		want bool
	}{
		// Equal terms, whatever they come to.
		{"x", "x", false}, {"(lam 0)", "(lam 0)", false}, {"(app x (m))", "(app x (m))", false}, {"(app (lam 0) (m x))", "(app (lam 0) (m x))", false}, {"(app (lam 0) (m))", "(app (lam 0) (m))", false},
		// Terms that are not coherent, whatever they come to.
		{"x", "y", false}, {"x", "(lam x)", false}, {"x", "(app (lam 0) (m x))", false}, {"(lam x)", "(lam 0)", false}, {"(app x (m y))", "(app x (m z))", false}, {"(app x (m y z))", "(app x (m))", false}, {"(app (lam 0) (m x))", "(app (lam 0) (m y))", false}, {"(app (lam 0) (m x))", "(app (lam x) (m))", false}, {"(app (lam 0) (m x y))", "(app (lam 0) (m))", false}, {"(app (lam 0) (m))", "(app (lam x) (m x))", false},
		{"(app (lam (app 0 (m 0))) (m x y))", "(app (lam (app 0 (m 0))) (m x x))", false}, {"(app (app x (m y z)) (m))", "(app (app x (m y z)) (m y))", false},
		// Normal terms.
		{"(app x (m))", "(app x (m y))", true}, {"(app x (m y))", "(app x (m y y))", true}, {"(lam (app 0 (m)))", "(lam (app 0 (m 0)))", true}, {"(app (app x (m)) (m y))", "(app (app x (m y)) (m))", true}, {"(app x (m (app y (m a))))", "(app x (m (app y (m a)) (app y (m a))))", true},
		// Terms that come to nothing, one and both.
		{"(app (lam 0) (m x))", "(app (lam 0) (m))", true}, {"(app (lam 0) (m))", "(app (lam 0) (m x x))", true}, {"(app (lam x) (m y))", "(app (lam x) (m))", true}, {"(app (lam x) (m y))", "(app (lam x) (m y y))", true},
		{"(app (lam 0) (m (app x (m))))", "(app (lam 0) (m (app x (m y))))", true}, {"(app (lam (app x (m 0))) (m y))", "(app (lam (app x (m 0 0))) (m y y))", true}, {"(app (lam (app 0 (m 0))) (m (lam (app 0 (m))) (lam (app 0 (m 0)))))", "(app (lam (app 0 (m 0))) (m (lam (app 0 (m)))))", true}, {"(app (lam (app x (m 0 0))) (m (app y (m z)) (app y (m))))", "(app (lam (app x (m 0))) (m (app y (m z))))", true}, {uniformHeads(5), uniformHeads(4), false}, {heads(5, "y", strings.Join(unlike(5), " ")), heads(5, "y", strings.Join(append(unlike(4), unlike(4)[1]), " ")), true},
		// Bags as large as a redex may have.
		{equals(7, 6), equals(6, 6), true}, {emptied(crowd), equals(7, 6), true}, {equals(6, 6), equals(6, 5), true}, {emptied(alike(3)), alike(3), true}, {"(app x (m " + alike(3) + "))", "(app x (m))", true}, {"(app (lam x) (m " + crowd + "))", "(app (lam x) (m))", true}, {emptied(uniformHeads(5)), uniformHeads(5), true},
	} {
		a, b := sortedText(c.a), sortedText(c.b)
		want, _ := apartTexts(a, b)
		if want != c.want || impl.NormalApart(a, b) != want || impl.NormalApart(b, a) != want {
			t.Errorf("NormalApart(%s, %s) = %v, %v turned round, reckoned %v", a, b, impl.NormalApart(a, b), impl.NormalApart(b, a), want)
		}
	}
}

// emptied returns a redex with an empty bag in place of its own one.
func emptied(s string) string {
	x, _ := shapeOf(s)
	return appShape(x.parts[0]).text()
}

func TestPromise43NormalSumsThatFail(t *testing.T) {
	for _, c := range [][2]string{
		{crowd, emptied(crowd)}, {crowd, equals(7, 6)}, {crowd, equals(7, 8)}, {uniformHeads(6), emptied(uniformHeads(6))}, {alike(4), emptied(alike(4))}, {"(app x (m " + crowd + "))", "(app x (m))"}, {"(app x (m " + alike(4) + "))", "(app x (m))"}, {"(app v (m " + equals(7, 6) + " " + crowd + "))", "(app v (m))"}, {"(app v (m " + crowd + "))", "(app v (m " + crowd + " " + crowd + "))"}, {"(lam " + crowd + ")", "(lam " + emptied(crowd) + ")"},
	} {
		a, b := sortedText(c[0]), sortedText(c[1])
		if _, ok := impl.NormalSum(a); ok || a == b || !impl.Coherent(a, b) {
			t.Errorf("%s does not fail, or %s is not another one that is coherent", a, b)
		}
		if impl.NormalApart(a, b) || impl.NormalApart(b, a) {
			t.Errorf("NormalApart(%s, %s) = %v, %v turned round", a, b, impl.NormalApart(a, b), impl.NormalApart(b, a))
		}
		if !impl.Uniform(a) || impl.NormalClique(a) {
			t.Errorf("NormalClique(%s) = %v", a, impl.NormalClique(a))
		}
	}
}

func TestPromise43Apart(t *testing.T) {
	d := dice(157)
	lists := someCliques(&d, 1500, 30)
	for _, s := range steppingTerms(&d, 100, 20) {
		lists = append(lists, []string{s, steppingTerms(&d, 1, 20)[0]})
	}
	done, both, not := 0, 0, 0
	for _, list := range lists {
		for i, a := range list {
			for _, b := range list[i:] {
				want, least := apartTexts(a, b)
				got := impl.NormalApart(a, b)
				if got != want || impl.NormalApart(b, a) != want {
					t.Fatalf("NormalApart(%s, %s) = %v", a, b, got)
				}
				_, ok := impl.NormalSum(a)
				_, fine := impl.NormalSum(b)
				if got != (a != b && ok && fine && impl.Coherent(a, b)) {
					t.Errorf("NormalApart(%s, %s) = %v, with sums %v, %v", a, b, got, ok, fine)
				}
				if !got {
					not++
					continue
				}
				done++
				if least > 0 && (!impl.TermNormal(a) || !impl.TermNormal(b)) {
					both++
				}
			}
		}
	}
	if done < 1000 || both < 100 || not < 500 {
		t.Errorf("%d pairs apart, %d of them that step to something, %d others", done, both, not)
	}
}

func TestPromise43InvalidTexts(t *testing.T) {
	for _, s := range badTexts() {
		for _, c := range [][2]string{{s, s}, {s, "x"}, {"x", s}, {s, "(app x (m))"}, {"(app x (m))", s}} {
			if impl.NormalApart(c[0], c[1]) {
				t.Errorf("NormalApart(%.80q, %.80q)", c[0], c[1])
			}
		}
		if impl.NormalClique(s) {
			t.Errorf("NormalClique(%.80q)", s)
		}
	}
	for _, c := range unsortedTexts() {
		if impl.NormalApart(c[0], c[1]) || impl.NormalApart(c[1], c[0]) {
			t.Errorf("NormalApart took %q, which is not sorted", c[0])
		}
	}
}

// normalClique reports whether a resource term is uniform and its normal sum a clique, and how many terms this has.
func normalClique(s string) (bool, int) {
	m, _, ok := normalOf(s)
	list := []string{}
	for text := range m {
		list = append(list, text)
	}
	known := pairs{}
	return ok && known.coherentTexts(s, s) && known.cliqueTexts(list), len(m)
}

func TestPromise44NormalCliquesAtTheEdges(t *testing.T) {
	for s, want := range map[string]bool{
		"x": true, "(lam 0)": true, "(app x (m y y))": true, "(app x (m (app y (m z)) (app y (m))))": true, "(app (lam 0) (m x))": true, "(app (lam (app 0 (m 0))) (m x x))": true, "(app (lam (app 0 (m 0))) (m (app x (m y)) (app x (m))))": true, uniformHeads(2): true, uniformHeads(5): true,
		// Terms that come to nothing.
		"(app (lam 0) (m))": true, "(app (lam x) (m y y))": true, equals(6, 7): true, equals(7, 6): true, "(app (lam 0) (m x y))": false, "(app (lam x) (m y z))": false,
		// Terms that are not uniform, whatever they come to.
		"(app x (m y z))": false, "(app (lam (app 0 (m 0))) (m x y))": false, "(app (lam (app x (m 0 0))) (m y z))": false, "(app (lam (app x (m 0 y))) (m y))": false, "(app (lam x) (m (app y (m a b))))": false, "(app x (m (app (lam 0) (m y)) y))": false, "(app x (m (app (lam 0) (m y)) (app (lam y) (m))))": false, "(app (app (lam (lam x)) (m)) (m y z))": false,
		// Normal sums that fail.
		crowd: false, equals(6, 6): true, "(app x (m " + crowd + "))": false, "(app (lam x) (m " + crowd + "))": true, uniformHeads(6): false, alike(3): true, alike(4): false, "(app v (m " + alike(3) + "))": true, "(lam " + alike(4) + ")": false,
	} {
		reckoned, _ := normalClique(s)
		if got := impl.NormalClique(s); got != want || got != reckoned {
			t.Errorf("NormalClique(%s) = %v, reckoned %v", s, got, reckoned)
		}
	}
}

func TestPromise44NormalCliques(t *testing.T) {
	d := dice(163)
	terms := slices.Concat(steppingTerms(&d, 500, 30), someTerms())
	for _, list := range someCliques(&d, 1500, 40) {
		terms = append(terms, list...)
	}
	for _, c := range normalEdges() {
		terms = append(terms, c[0])
	}
	done, many, not := 0, 0, 0
	for _, s := range terms {
		want, n := normalClique(s)
		got := impl.NormalClique(s)
		sum, ok := impl.NormalSum(s)
		if got != want || got != (ok && impl.Uniform(s)) {
			t.Fatalf("NormalClique(%s) = %v", s, got)
		}
		if !got {
			not++
			continue
		}
		for _, u := range sum.Terms {
			if !impl.Uniform(u) {
				t.Errorf("%s is a normal clique, but comes to %s, which is not uniform", s, u)
			}
		}
		if !impl.TermNormal(s) && n > 0 {
			done++
		}
		if n > 1 {
			many++
		}
	}
	if done < 200 || many < 20 || not < 200 {
		t.Errorf("%d come to a clique, %d of them to one of more than one term, %d do not", done, many, not)
	}
}

// allOfCoherence returns what the functions of the chapter say of a list and its first and last terms, in one text, and checks that they leave the list as it is.
func allOfCoherence(t *testing.T, list []string) string {
	kept := slices.Clone(list)
	a, b := "", ""
	if len(list) > 0 {
		a, b = list[0], list[len(list)-1]
	}
	m, ok := impl.CliqueJoin(list)
	said := fmt.Sprint(m, ok, impl.Clique(list), impl.Coherent(a, b), impl.Uniform(a), impl.NormalApart(a, b), impl.NormalClique(b))
	if !slices.Equal(list, kept) {
		t.Errorf("%q became %q", kept, list)
	}
	return said
}

func TestCallsOfCoherenceKeepNothing(t *testing.T) {
	d := dice(167)
	lists := append(someCliques(&d, 300, 30), nil, []string{"x"}, badTexts()[:20])
	first := []string{}
	for _, list := range lists {
		first = append(first, allOfCoherence(t, list))
	}
	var wait sync.WaitGroup
	for range 4 {
		wait.Go(func() {
			for i := len(lists) - 1; i >= 0; i-- {
				if got := allOfCoherence(t, lists[i]); got != first[i] {
					t.Errorf("of %.200q first %q, then %q", lists[i], first[i], got)
				}
			}
		})
	}
	wait.Wait()
}
