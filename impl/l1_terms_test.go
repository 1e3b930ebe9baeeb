package impl

import (
	"strings"
	"testing"
)

// A resource term reaches SizeMax long before the limits of texts, so these are looked at here, where texts are read.

func TestReadTextLimits(t *testing.T) {
	for _, c := range []struct {
		text string
		ok   bool
	}{
		{strings.Repeat("a", TextMax), true},
		{strings.Repeat("a", TextMax+1), false},
		{"(" + strings.Repeat("a ", TextMax/2-2) + "aa)", true},
		{"(" + strings.Repeat("a ", TextMax/2-1) + "aa)", false},
		{strings.Repeat("(", 100) + "a" + strings.Repeat(")", 100), true},
		{strings.Repeat("(", 101) + "a" + strings.Repeat(")", 101), false},
		{"(" + strings.Repeat("(a) ", 500) + "a)", true},
		{"(" + strings.Repeat("(", 99) + "a" + strings.Repeat(")", 99) + " " + strings.Repeat("(", 99) + "a" + strings.Repeat(")", 99) + ")", true},
		{"(" + strings.Repeat("(", 99) + "a" + strings.Repeat(")", 99) + " " + strings.Repeat("(", 100) + "a" + strings.Repeat(")", 100) + ")", false},
		{"", false}, {"()", false}, {"(a )", false}, {"( a)", false}, {"(a  b)", false}, {"(a b", false}, {"a)", false}, {"a b", false}, {"(a)b", false}, {"(a(b))", false}, {"A", false},
		{"a", true}, {"09", true}, {"(a)", true}, {"((a) b)", true},
	} {
		if _, ok := readText(c.text); ok != c.ok {
			t.Errorf("readText of %d bytes, %.20q: %v, not %v", len(c.text), c.text, ok, c.ok)
		}
	}
}

func TestReadIndexLimits(t *testing.T) {
	for i, s := range strings.Fields("0 1 2 3 4 5 6 7 8 9 10") {
		if n, ok := readIndex(s); !ok || n != i {
			t.Errorf("readIndex(%q) = %d, %v", s, n, ok)
		}
	}
	if n, ok := readIndex("99"); !ok || n != 99 {
		t.Errorf("readIndex(\"99\") = %d, %v", n, ok)
	}
	for _, s := range []string{"", "00", "01", "09", "100", "099", "-1", "+1", "1a", "x", " 1"} {
		if n, ok := readIndex(s); ok || n != 0 {
			t.Errorf("readIndex(%q) = %d, %v", s, n, ok)
		}
	}
	p := newTermPool()
	if _, ok := p.fromAtom("99", 100); !ok {
		t.Error("the index 99 is none within 100 lam")
	}
	if _, ok := p.fromAtom("99", 99); ok {
		t.Error("the index 99 is one within 99 lam")
	}
}

func TestEqualTermsShareOnePointer(t *testing.T) {
	p := newTermPool()
	a, _ := p.read("(app (lam 0) (m (lam 0) (lam 0)))")
	if a.first != a.bag[0] || a.bag[0] != a.bag[1] {
		t.Error("equal parts of a term are not one pointer")
	}
	if b, _ := p.readUnsorted("(lam 0)"); b != a.first {
		t.Error("equal terms are not one pointer")
	}
	b, _ := p.readUnsorted("(app x (m (app y (m b a)) (app y (m a b))))")
	if b.bag[0] != b.bag[1] {
		t.Error("terms that are equal when they are sorted are not one pointer")
	}
	if len(newTermPool().known) != 0 {
		t.Error("a new pool has terms of another one")
	}
}
