package impl

import "testing"

// sumMapOf returns the sum of some terms, each one once.
func sumMapOf(texts ...string) sumMap {
	m := sumMap{}
	for _, text := range texts {
		m.add(text, fractionOf(1, 1))
	}
	return m
}

// Normal sums of different coherent terms are always apart, so that it is to be seen here alone that they are looked at.
func TestApart(t *testing.T) {
	for _, c := range []struct {
		m, n sumMap
		want bool
	}{
		{sumMap{}, sumMap{}, true}, {sumMap{}, sumMapOf("x"), true}, {sumMapOf("x"), sumMapOf("y"), true}, {sumMapOf("x"), sumMapOf("x"), false}, {sumMapOf("x", "y", "z"), sumMapOf("a", "y"), false}, {sumMapOf("x", "y"), sumMapOf("(lam x)", "a"), true},
	} {
		if apart(c.m, c.n) != c.want || apart(c.n, c.m) != c.want {
			t.Errorf("%v and %v are apart: %v, %v turned round", c.m.texts(), c.n.texts(), apart(c.m, c.n), apart(c.n, c.m))
		}
	}
}

func TestJointsGrow(t *testing.T) {
	var j joint = untold{}
	grown := []joint{j}
	terms := []string{"(lam (app (app 0 (m)) (m)))", "(lam (app (app 0 (m)) (m (lam 1) (lam 1))))", "(lam (app (app 0 (m (app x (m)))) (m)))", "(lam (app (app 0 (m (app x (m y)) (app x (m)))) (m (lam 1))))"}
	texts := []string{"u0", "(lam (app (app 0 u0) u0))", "(lam (app (app 0 u0) (lam 1)))", "(lam (app (app 0 (app x u0)) (lam 1)))", "(lam (app (app 0 (app x y)) (lam 1)))"}
	sizes := []int{1, 6, 7, 9, 9}
	for _, text := range terms {
		next, ok := j.coherent(partOf(t, newTermPool(), text))
		if !ok {
			t.Fatalf("%s is not coherent with %s", text, j.text())
		}
		j = next
		grown = append(grown, j)
	}
	for i, j := range grown {
		if j.text() != texts[i] || j.size() != sizes[i] {
			t.Errorf("of %d terms: %s of the size %d, not %s of %d", i, j.text(), j.size(), texts[i], sizes[i])
		}
	}
	for _, text := range []string{"x", "(lam x)", "(app x (m))", "(lam (app 0 (m)))", "(lam (app (app x (m)) (m)))", "(lam (app (app 0 (m 0)) (m)))", "(lam (app (app 0 (m (app x (m z)))) (m)))", "(lam (app (app 0 (m)) (m (lam 0))))", "(lam (app (app 0 (m)) (m (lam 0) (lam 1))))", "(lam (app (app 0 (m)) (m (lam 1) x)))"} {
		if _, ok := j.coherent(partOf(t, newTermPool(), text)); ok {
			t.Errorf("%s is coherent with %s", text, j.text())
		}
	}
}
