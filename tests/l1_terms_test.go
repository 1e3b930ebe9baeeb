package tests

import (
	"slices"
	"strings"
	"sync"
	"testing"

	"loop.example/resourceterms/impl"
)

// nested returns a text with a number of copies of front and back around what is in the middle.
func nested(front, middle, back string, n int) string {
	return strings.Repeat(front, n) + middle + strings.Repeat(back, n)
}

// edgeTerms are resource terms at the edges that the document names.
func edgeTerms() []string {
	return []string{
		"x", "m", "w", "k0", "a00", "z99", "l1", "x1",
		"(lam 0)", "(lam x)", "(lam (lam 1))", "(lam (lam 0))", "(lam k0)",
		"(app x (m))", "(app x (m x))", "(app m (m m m))", "(app x (m y y y))",
		"(app (app x (m)) (m (app x (m))))",
		"(app x (m (app y (m a b)) (app y (m a b)) (lam (app 0 (m 0 0 x))) z))",
		"(app x (m (app y (m (app z (m a b)) c)) d))",
		"(app x (m (app y (m a)) (app y (m))))",
		"(lam (app 0 (m (lam (app 1 (m 0 1 k0))) k0)))",
		"(lam (app 0 (m (app x (m)) (lam 0) (lam 1) 0 k0 x x0 x00 x01 x1 x10 x2)))",
		nested("(lam ", "0", ")", 59), nested("(lam ", "58", ")", 59), nested("(lam ", "(app 9 (m 10 9))", ")", 11),
		nested("(lam ", "(app 57 (m))", ")", 58),
		nested("(app ", "x", " (m))", 59), nested("(app x (m ", "x", "))", 29), nested("(app x (m ", "(lam x)", "))", 29),
		"(app x (m" + strings.Repeat(" x", 58) + "))",
		"(app z99 (m" + strings.Repeat(" z99", 58) + "))",
	}
}

// unsortedTexts are no resource terms, but become the ones behind them.
func unsortedTexts() [][2]string {
	return [][2]string{
		{"(app x (m y x))", "(app x (m x y))"},
		{"(app x (m y x y))", "(app x (m x y y))"},
		{"(app x (m x10 x2 x1 x))", "(app x (m x x1 x10 x2))"},
		{"(app x (m x (lam 0)))", "(app x (m (lam 0) x))"},
		{"(app x (m (lam 0) (app x (m))))", "(app x (m (app x (m)) (lam 0)))"},
		{"(app x (m (app y (m)) (app y (m a))))", "(app x (m (app y (m a)) (app y (m))))"},
		// As they are, the terms of the outer bag ascend; sorted from the inside they do not.
		{"(app x (m (app y (m b a)) (app y (m a c))))", "(app x (m (app y (m a b)) (app y (m a c))))"},
		{"(app x (m (app y (m c d)) (app y (m d a))))", "(app x (m (app y (m a d)) (app y (m c d))))"},
		{"(app (app x (m b a)) (m))", "(app (app x (m a b)) (m))"},
		{"(lam (app 0 (m x 0)))", "(lam (app 0 (m 0 x)))"},
		{"(lam (lam (app 0 (m 1 0))))", "(lam (lam (app 0 (m 0 1))))"},
		{nested("(lam ", "(app 0 (m 9 10))", ")", 11), nested("(lam ", "(app 0 (m 10 9))", ")", 11)},
		{"(app x (m y" + strings.Repeat(" x", 57) + "))", "(app x (m" + strings.Repeat(" x", 57) + " y))"},
	}
}

// noTerms are texts that do not become resource terms.
func noTerms() []string {
	return []string{
		"", " ", "0", "1", "99", "X", "é", "x\n", "x ", " x", "x y", "\x00", "_", "-", "x-", "x\xff",
		"ab", "lam", "app", "xyz", "x1y", "x123", "x1a", "1x", "z100", "a000", "0x", "xX",
		"()", "(x)", "((x))", "(m)", "(m x)", "(lam)", "(lam )", "(lam x y)", "(lam x", "lam x", "(lam  x)", "(lam x )", "( lam x)", "(lam x))", "((lam) x)", "(lam\tx)", "(Lam x)", "(lam (x))", "(lam x)(lam x)", "(lam x) (lam x)",
		"(lam 1)", "(lam 00)", "(lam 01)", "(lam -1)", "(lam +0)", "(lam 100)", "(lam (lam 2))", "(app (lam 0) (m 0))", "(app 0 (m))", "(app x (m 0))", "(lam (app 0 (m 1)))",
		"(app x)", "(app (m))", "(app x m)", "(app x x)", "(app x ())", "(app x (m)", "(app x (m)))", "(app x (n))", "(app x (n x))", "(app x (mm))", "(app x (m1 x))", "(app x (m  x))", "(app x (m x ))", "(app x ( m))", "(app x  (m))", "(app x (m) )", "(app x (m) (m))", "(app x y (m))", "(app x (m (m)))", "(app (m) (m))", "(app x ((m)))", "(app x (M))", "(app x (x m))", "(app x (m X))", "(app (app x) (m))", "(app x(m))", "(app x (m (lam)))", "(apple x (m))", "(lambda x)", "(x x (m))",
		nested("(lam ", "0", ")", 60), nested("(lam ", "59", ")", 59), nested("(lam ", "99", ")", 59), nested("(lam ", "98", ")", 99), nested("(lam ", "99", ")", 100), nested("(lam ", "0", ")", 101),
		nested("(app ", "x", " (m))", 60), nested("(app x (m ", "x", "))", 30), "(app x (m" + strings.Repeat(" x", 59) + "))", "(app x (m y" + strings.Repeat(" x", 58) + "))",
		strings.Repeat("a", 4000), strings.Repeat("a", 4001), nested("(", "x", ")", 100), nested("(", "x", ")", 101),
		"(app x (m" + strings.Repeat(" x", 1994) + "))", "(app x (m" + strings.Repeat(" x", 1995) + "))",
		strings.Repeat("(", 1000000), strings.Repeat("(lam ", 200000), nested("(lam ", "0", ")", 100000), strings.Repeat(" ", 4001),
	}
}

// noNames are texts that are no names.
func noNames() []string {
	return []string{"", " ", "0", "9", "1x", "ab", "lam", "app", "xyz", "x123", "a000", "x1a", "X", "X1", "x ", " x", "x-", "x_", "é", "x\x00", "{", "`", "x/", "x:", "(lam 0)", "(app x (m))"}
}

// someTerms are resource terms: edges, small ones, and larger ones of all sizes.
func someTerms() []string {
	all := edgeTerms()
	for _, c := range unsortedTexts() {
		all = append(all, c[1])
	}
	for size := 1; size <= 4; size++ {
		for _, x := range smallShapes(size) {
			if s := x.text(); x.closed(0) && s == x.sorted().text() {
				all = append(all, s)
			}
		}
	}
	d := dice(7)
	for i := range 240 {
		all = append(all, d.grow(1+i%60, 0).sorted().text())
	}
	return all
}

// otherTexts are texts that are no resource terms.
func otherTexts() []string {
	all := noTerms()
	for _, c := range unsortedTexts() {
		all = append(all, c[0])
	}
	return all
}

// someNames are names that are in some terms and not in others.
func someNames() []string {
	return []string{"x", "y", "m", "w", "k0", "a9", "b10", "x00", "a", "q"}
}

// checkText holds TermValid, TermSort and TermSize of any text against what the shape says.
func checkText(t *testing.T, s string) {
	t.Helper()
	want := ""
	x, ok := shapeOf(s)
	if ok {
		want = x.sorted().text()
	}
	if got, fine := impl.TermSort(s); got != want || fine != ok {
		t.Errorf("TermSort(%.80q) = %.80q, %v, not %.80q, %v", s, got, fine, want, ok)
	}
	valid, size := ok && want == s, -1
	if valid {
		size = x.size()
	}
	if impl.TermValid(s) != valid {
		t.Errorf("TermValid(%.80q) is not %v", s, valid)
	}
	if n := impl.TermSize(s); n != size {
		t.Errorf("TermSize(%.80q) = %d, not %d", s, n, size)
	}
}

func TestTextsAtTheEdges(t *testing.T) {
	for _, s := range edgeTerms() {
		if got, ok := impl.TermSort(s); !impl.TermValid(s) || !ok || got != s {
			t.Errorf("%.80q is no resource term", s)
		}
		checkText(t, s)
	}
	for _, c := range unsortedTexts() {
		if got, ok := impl.TermSort(c[0]); !ok || got != c[1] {
			t.Errorf("TermSort(%q) = %q, %v", c[0], got, ok)
		}
		checkText(t, c[0])
		checkText(t, c[1])
	}
	for _, s := range noTerms() {
		if got, ok := impl.TermSort(s); ok || got != "" {
			t.Errorf("TermSort(%.80q) = %q, %v", s, got, ok)
		}
		checkText(t, s)
	}
}

func TestTextsAllSmallOnes(t *testing.T) {
	for size := 1; size <= 5; size++ {
		for _, x := range smallShapes(size) {
			checkText(t, x.text())
		}
	}
}

func TestTextsWithOneByteChanged(t *testing.T) {
	terms := edgeTerms()[:22]
	d := dice(11)
	for i := range 40 {
		terms = append(terms, d.grow(2+i%9, 0).text())
	}
	for _, s := range terms {
		for i := range len(s) + 1 {
			if i < len(s) {
				checkText(t, s[:i]+s[i+1:])
				checkText(t, s[:i]+s[i:i+1]+s[i:])
			}
			for _, c := range []string{"(", ")", " ", "x", "m", "0", "1", "9", "A", "\n", "\x80", "/", ":", "`", "{"} {
				checkText(t, s[:i]+c+s[i:])
				if i < len(s) {
					checkText(t, s[:i]+c+s[i+1:])
				}
			}
		}
	}
}

func TestTextsOfAllSizes(t *testing.T) {
	d := dice(3)
	for i := range 1300 {
		checkText(t, d.grow(1+i%65, 0).text())
	}
}

func TestPromise1ValidTermsAreSorted(t *testing.T) {
	for _, s := range slices.Concat(someTerms(), otherTexts()) {
		_, want := termOf(s)
		if impl.TermValid(s) != want {
			t.Fatalf("TermValid(%.80q) is not %v", s, want)
		}
		if got, ok := impl.TermSort(s); want && (!ok || got != s) {
			t.Errorf("TermSort(%q) = %q, %v", s, got, ok)
		}
		if n := impl.TermSize(s); want && (n < 1 || n > impl.SizeMax) {
			t.Errorf("TermSize(%q) = %d", s, n)
		}
	}
	if impl.TextMax != 4000 || impl.SizeMax != 60 {
		t.Error("TextMax or SizeMax is another number")
	}
}

func TestPromise2SortingOnce(t *testing.T) {
	d := dice(5)
	texts := slices.Concat(someTerms(), otherTexts())
	for i := range 600 {
		texts = append(texts, d.grow(1+i%62, 0).text())
	}
	for _, s := range texts {
		_, want := shapeOf(s)
		got, ok := impl.TermSort(s)
		if ok != want {
			t.Fatalf("TermSort(%.80q): %v", s, ok)
		}
		if again, fine := impl.TermSort(got); ok && (!fine || again != got || !impl.TermValid(got) || len(got) != len(s)) {
			t.Errorf("TermSort(%q) = %q, and of that %q, %v", s, got, again, fine)
		}
	}
}

func TestPromise3SizesAreThoseOfKids(t *testing.T) {
	for _, c := range []struct {
		text string
		size int
	}{
		{"x", 1}, {"z99", 1}, {"(lam x)", 2}, {"(lam 0)", 2}, {"(app x (m))", 2}, {"(app x (m x))", 3}, {"(app x (m x x))", 4},
		{"(app (lam 0) (m (lam 0) (lam 0)))", 7}, {"(app x (m (app y (m a b)) c))", 7},
		{nested("(lam ", "0", ")", 59), 60}, {"(app x (m" + strings.Repeat(" x", 58) + "))", 60},
		{"(app x (m y x))", -1}, {"0", -1}, {"", -1}, {nested("(lam ", "0", ")", 60), -1},
	} {
		if n := impl.TermSize(c.text); n != c.size {
			t.Errorf("TermSize(%q) = %d, not %d", c.text, n, c.size)
		}
	}
	for _, s := range someTerms() {
		kids, ok := impl.TermKids(s)
		n := 1
		for i, k := range kids {
			if i > 0 {
				n += impl.TermSize(k)
			}
		}
		if !ok || impl.TermSize(s) != n {
			t.Errorf("TermSize(%q) = %d, not %d", s, impl.TermSize(s), n)
		}
	}
}

func TestPromise4NamesAscend(t *testing.T) {
	for _, c := range []struct {
		text  string
		names []string
	}{
		{"x", []string{"x"}}, {"(lam 0)", nil}, {"(lam x)", []string{"x"}}, {"(app x (m x x))", []string{"x"}}, {"(app y (m x))", []string{"x", "y"}},
		{"(app m (m))", []string{"m"}}, {"(lam (app 0 (m 0 k0)))", []string{"k0"}},
		{"(app x2 (m (lam (app x (m x10))) x1 y))", []string{"x", "x1", "x10", "x2", "y"}},
		{"(app a (m (app b (m (app c (m d))))))", []string{"a", "b", "c", "d"}},
	} {
		if got, ok := impl.TermNames(c.text); !ok || !slices.Equal(got, c.names) {
			t.Errorf("TermNames(%q) = %q, %v", c.text, got, ok)
		}
	}
	for _, s := range someTerms() {
		names, ok := impl.TermNames(s)
		if !ok || !slices.IsSorted(names) || len(slices.Compact(slices.Clone(names))) != len(names) {
			t.Fatalf("TermNames(%q) = %q, %v", s, names, ok)
		}
		x, _ := termOf(s)
		if len(names) != len(x.names()) {
			t.Errorf("TermNames(%q) = %q", s, names)
		}
		for _, name := range names {
			if impl.TermDegree(s, name) < 1 {
				t.Errorf("TermDegree(%q, %q) is less than 1", s, name)
			}
		}
		for _, name := range someNames() {
			if !slices.Contains(names, name) && impl.TermDegree(s, name) != 0 {
				t.Errorf("TermDegree(%q, %q) is not 0", s, name)
			}
		}
	}
	for _, s := range otherTexts() {
		if names, ok := impl.TermNames(s); ok || len(names) > 0 {
			t.Errorf("TermNames(%.80q) = %q, %v", s, names, ok)
		}
	}
}

func TestPromise5Degrees(t *testing.T) {
	for _, s := range someTerms() {
		x, _ := termOf(s)
		names, _ := impl.TermNames(s)
		for _, name := range someNames() {
			n := impl.TermDegree(s, name)
			if n != x.names()[name] || n > impl.TermSize(s) || (n == 0) == slices.Contains(names, name) {
				t.Errorf("TermDegree(%q, %q) = %d", s, name, n)
			}
			if u, ok := impl.TermBind(s, name); ok && impl.TermDegree(u, name) != 0 {
				t.Errorf("TermBind(%q, %q) = %q, in which the name is", s, name, u)
			}
		}
		for _, name := range noNames() {
			if n := impl.TermDegree(s, name); n != -1 {
				t.Errorf("TermDegree(%q, %q) = %d", s, name, n)
			}
		}
	}
	for _, s := range otherTexts() {
		if n := impl.TermDegree(s, "x"); n != -1 {
			t.Errorf("TermDegree(%.80q, x) = %d", s, n)
		}
	}
}

func TestPromise6Kids(t *testing.T) {
	for _, c := range []struct {
		text string
		kids []string
	}{
		{"x", nil}, {"m", nil}, {"(lam x)", []string{"lam", "x"}}, {"(lam 0)", []string{"lam", "k0"}}, {"(lam k0)", []string{"lam", "k0"}},
		{"(lam (lam 1))", []string{"lam", "(lam k0)"}}, {"(lam (lam 0))", []string{"lam", "(lam 0)"}},
		{"(lam (app 0 (m 0 a k0 x)))", []string{"lam", "(app k0 (m a k0 k0 x))"}},
		{"(lam (app x (m (app 0 (m)) (app a (m)))))", []string{"lam", "(app x (m (app a (m)) (app k0 (m))))"}},
		{"(lam (lam (app 1 (m 0 1))))", []string{"lam", "(lam (app k0 (m 0 k0)))"}},
		{"(app x (m))", []string{"app", "x"}}, {"(app x (m y y z))", []string{"app", "x", "y", "y", "z"}},
		{"(app (app x (m y)) (m (lam 0) x))", []string{"app", "(app x (m y))", "(lam 0)", "x"}},
	} {
		if got, ok := impl.TermKids(c.text); !ok || !slices.Equal(got, c.kids) {
			t.Errorf("TermKids(%q) = %q, %v", c.text, got, ok)
		}
	}
	for _, s := range someTerms() {
		kids, ok := impl.TermKids(s)
		x, _ := termOf(s)
		if !ok || (len(kids) == 0) != (x.head == "") || len(kids) > 0 && kids[0] != x.head {
			t.Fatalf("TermKids(%q) = %q, %v", s, kids, ok)
		}
		for i, k := range kids {
			if i > 0 && !impl.TermValid(k) {
				t.Errorf("TermKids(%q) has %q", s, k)
			}
		}
		switch x.head {
		case "lam":
			want := x.parts[0].swap(0, opened("k0")).sorted().text()
			if len(kids) != 2 || kids[1] != want {
				t.Errorf("TermKids(%q) = %q, not %q", s, kids, want)
			}
		case "app":
			bag, fine := impl.BagSort(kids[2:])
			if !fine || "(app "+kids[1]+" "+bag+")" != s {
				t.Errorf("TermKids(%q) = %q, and BagSort of them %q", s, kids, bag)
			}
		}
	}
	for _, s := range otherTexts() {
		if kids, ok := impl.TermKids(s); ok || len(kids) > 0 {
			t.Errorf("TermKids(%.80q) = %q, %v", s, kids, ok)
		}
	}
}

// opened returns the leaf that puts a name in the place of an index as large as the number of lam around it.
func opened(name string) func(string, int) string {
	return func(atom string, lams int) string {
		if atom == digits(lams) {
			return name
		}
		return atom
	}
}

func TestPromise7Bags(t *testing.T) {
	for _, c := range []struct {
		list []string
		bag  string
	}{
		{nil, "(m)"}, {[]string{}, "(m)"}, {[]string{"x"}, "(m x)"}, {[]string{"y", "x", "y"}, "(m x y y)"},
		{[]string{"x2", "x10", "x1", "x", "(lam 0)", "(app x (m))"}, "(m (app x (m)) (lam 0) x x1 x10 x2)"},
		{[]string{"(app x (m))", "(app x (m a))"}, "(m (app x (m a)) (app x (m)))"},
		{slices.Repeat([]string{"x"}, 58), "(m" + strings.Repeat(" x", 58) + ")"},
		{[]string{nested("(lam ", "0", ")", 57)}, "(m " + nested("(lam ", "0", ")", 57) + ")"},
		{[]string{"x", nested("(lam ", "0", ")", 56)}, "(m " + nested("(lam ", "0", ")", 56) + " x)"},
	} {
		if got, ok := impl.BagSort(c.list); !ok || got != c.bag {
			t.Errorf("BagSort(%q) = %q, %v", c.list, got, ok)
		}
	}
	for _, list := range [][]string{
		slices.Repeat([]string{"x"}, 59), slices.Repeat([]string{"x"}, 100000), {nested("(lam ", "0", ")", 58)}, {nested("(lam ", "0", ")", 59)}, {"x", nested("(lam ", "0", ")", 57)}, {nested("(lam ", "0", ")", 57), "x"},
		{""}, {"x", ""}, {"0"}, {"x", "0", "y"}, {"(m)"}, {"x y"}, {"(app x (m y x))"}, {"x", "(app x (m y x))"}, {"lam"},
	} {
		if got, ok := impl.BagSort(list); ok || got != "" {
			t.Errorf("BagSort of %d texts = %q, %v", len(list), got, ok)
		}
	}
	for _, s := range otherTexts() {
		if got, ok := impl.BagSort([]string{"x", s}); ok || got != "" {
			t.Errorf("BagSort with %.80q = %q, %v", s, got, ok)
		}
	}
}

func TestPromise7BagsInAnyOrder(t *testing.T) {
	d := dice(13)
	terms := someTerms()
	done, failed := 0, 0
	for i := range 4000 {
		list, size := []string{}, 2
		for range i % 6 {
			s := terms[d.roll(len(terms))]
			list, size = append(list, s), size+impl.TermSize(s)
		}
		given := slices.Clone(list)
		bag, ok := impl.BagSort(list)
		if !slices.Equal(list, given) || ok != (size <= 60) {
			t.Fatalf("BagSort(%q) = %q, %v, with %q behind it", given, bag, ok, list)
		}
		slices.Reverse(given)
		if turned, fine := impl.BagSort(given); turned != bag || fine != ok {
			t.Errorf("BagSort(%q) = %q, but %q turned round", list, bag, turned)
		}
		if !ok {
			failed++
			continue
		}
		done++
		slices.Sort(given)
		if bag != strings.TrimSuffix("(m "+strings.Join(given, " "), " ")+")" {
			t.Errorf("BagSort(%q) = %q", list, bag)
		}
		if kids, fine := impl.TermKids("(app w " + bag + ")"); !fine || len(kids) != 2+len(list) {
			t.Errorf("BagSort(%q) = %q, with the parts %q", list, bag, kids)
		}
	}
	if done < 100 || failed < 100 {
		t.Errorf("%d bags, and %d too large", done, failed)
	}
}

func TestPromise8Renaming(t *testing.T) {
	for _, c := range [][4]string{
		{"x", "x", "y", "y"}, {"x", "y", "z", "x"}, {"x", "x", "x", "x"}, {"(lam 0)", "x", "y", "(lam 0)"}, {"(lam x)", "x", "k0", "(lam k0)"},
		{"(app x (m x y))", "x", "z", "(app z (m y z))"}, {"(app x (m x y))", "x", "y", "(app y (m y y))"}, {"(app x (m x y))", "y", "a", "(app x (m a x))"},
		{"(app m (m m))", "m", "a", "(app a (m a))"}, {"(app a (m a))", "a", "m", "(app m (m m))"},
		{"(app x (m x1 x10))", "x1", "z99", "(app x (m x10 z99))"}, {"(lam (app 0 (m (lam (app 1 (m b x))) x)))", "x", "a", "(lam (app 0 (m (lam (app 1 (m a b))) a)))"},
		// The inner bags are sorted first.
		{"(app x (m (app y (m a b)) (app y (m a c))))", "a", "z", "(app x (m (app y (m b z)) (app y (m c z))))"},
		{"(app x (m (app y (m b d)) (app y (m c))))", "b", "e", "(app x (m (app y (m c)) (app y (m d e))))"},
		{"(app x (m" + strings.Repeat(" x", 58) + "))", "x", "z99", "(app z99 (m" + strings.Repeat(" z99", 58) + "))"},
	} {
		if got, ok := impl.TermRename(c[0], c[1], c[2]); !ok || got != c[3] {
			t.Errorf("TermRename(%q, %q, %q) = %q, %v", c[0], c[1], c[2], got, ok)
		}
	}
	for _, s := range someTerms() {
		x, _ := termOf(s)
		for _, name := range someNames() {
			for _, by := range []string{"x", "k0", "a", "z99", "q"} {
				got, ok := impl.TermRename(s, name, by)
				want := x.swap(0, func(atom string, lams int) string {
					if atom == name {
						return by
					}
					return atom
				}).sorted().text()
				if !ok || got != want || impl.TermSize(got) != impl.TermSize(s) {
					t.Errorf("TermRename(%q, %q, %q) = %q, %v", s, name, by, got, ok)
				}
				if name != by && (impl.TermDegree(got, name) != 0 || impl.TermDegree(got, by) != impl.TermDegree(s, name)+impl.TermDegree(s, by)) {
					t.Errorf("TermRename(%q, %q, %q) = %q, with other degrees", s, name, by, got)
				}
			}
		}
	}
	for _, s := range otherTexts() {
		checkNone(t, "TermRename", s, "x", func() (string, bool) { return impl.TermRename(s, "x", "y") })
	}
	for _, name := range noNames() {
		checkNone(t, "TermRename", "(app x (m y))", name, func() (string, bool) { return impl.TermRename("(app x (m y))", name, "y") })
		checkNone(t, "TermRename by", "(app x (m y))", name, func() (string, bool) { return impl.TermRename("(app x (m y))", "x", name) })
		checkNone(t, "TermRename by itself", "(app x (m y))", name, func() (string, bool) { return impl.TermRename("(app x (m y))", name, name) })
		checkNone(t, "TermRename of no name there by", "(lam 0)", name, func() (string, bool) { return impl.TermRename("(lam 0)", "x", name) })
	}
}

// checkNone checks that a call fails with an empty text.
func checkNone(t *testing.T, what, s, name string, call func() (string, bool)) {
	t.Helper()
	if got, ok := call(); ok || got != "" {
		t.Errorf("%s of %.80q and %q: %q, %v", what, s, name, got, ok)
	}
}

func TestPromise9Binding(t *testing.T) {
	for _, c := range [][3]string{
		{"x", "x", "(lam 0)"}, {"x", "y", "(lam x)"}, {"k0", "k0", "(lam 0)"}, {"m", "m", "(lam 0)"}, {"(lam x)", "x", "(lam (lam 1))"}, {"(lam 0)", "x", "(lam (lam 0))"},
		{"(app x (m x y))", "x", "(lam (app 0 (m 0 y)))"}, {"(app x (m (lam 0) x))", "x", "(lam (app 0 (m (lam 0) 0)))"}, {"(app x (m a x))", "x", "(lam (app 0 (m 0 a)))"},
		{"(app m (m m))", "m", "(lam (app 0 (m 0)))"}, {"(app x (m (app y (m a)) (app y (m b))))", "b", "(lam (app x (m (app y (m 0)) (app y (m a)))))"},
		{"(lam (app 0 (m (lam (app x (m 0 1 x))) x)))", "x", "(lam (lam (app 0 (m (lam (app 2 (m 0 1 2))) 1))))"},
		{nested("(lam ", "(app 0 (m 9 x))", ")", 10), "x", nested("(lam ", "(app 0 (m 10 9))", ")", 11)},
		{nested("(lam ", "x", ")", 58), "x", nested("(lam ", "58", ")", 59)},
	} {
		if got, ok := impl.TermBind(c[0], c[1]); !ok || got != c[2] {
			t.Errorf("TermBind(%q, %q) = %q, %v", c[0], c[1], got, ok)
		}
	}
	for _, s := range someTerms() {
		x, _ := termOf(s)
		for _, name := range someNames() {
			want := ""
			if x.size() < 60 {
				want = lamShape(x).swap(-1, func(atom string, lams int) string {
					if atom == name {
						return digits(lams)
					}
					return atom
				}).sorted().text()
			}
			got, ok := impl.TermBind(s, name)
			if got != want || ok != (want != "") {
				t.Errorf("TermBind(%q, %q) = %q, %v, not %q", s, name, got, ok, want)
			}
			if back, fine := impl.TermOpen(got, name); ok && (!fine || back != s) {
				t.Errorf("TermOpen(%q, %q) = %q, %v, not %q", got, name, back, fine, s)
			}
		}
	}
	for _, s := range append(otherTexts(), nested("(lam ", "x", ")", 59), nested("(app x (m ", "(lam x)", "))", 29)) {
		checkNone(t, "TermBind", s, "x", func() (string, bool) { return impl.TermBind(s, "x") })
	}
	for _, name := range noNames() {
		checkNone(t, "TermBind", "(app x (m y))", name, func() (string, bool) { return impl.TermBind("(app x (m y))", name) })
	}
}

func TestPromise10Opening(t *testing.T) {
	for _, c := range [][3]string{
		{"(lam 0)", "x", "x"}, {"(lam 0)", "k0", "k0"}, {"(lam x)", "y", "x"}, {"(lam (lam 1))", "x", "(lam x)"}, {"(lam (lam 0))", "x", "(lam 0)"},
		{"(lam (app 0 (m 0 y)))", "z", "(app z (m y z))"}, {"(lam (app 0 (m (lam 0) 0)))", "m", "(app m (m (lam 0) m))"},
		{"(lam (lam (app 0 (m (lam (app 2 (m 0 1 2))) 1))))", "x", "(lam (app 0 (m (lam (app x (m 0 1 x))) x)))"},
		{"(lam (app x (m (app y (m 0)) (app y (m a)))))", "b", "(app x (m (app y (m a)) (app y (m b))))"},
		{nested("(lam ", "(app 0 (m 10 9))", ")", 11), "x", nested("(lam ", "(app 0 (m 9 x))", ")", 10)},
		{nested("(lam ", "58", ")", 59), "z99", nested("(lam ", "z99", ")", 58)},
	} {
		if got, ok := impl.TermOpen(c[0], c[1]); !ok || got != c[2] {
			t.Errorf("TermOpen(%q, %q) = %q, %v", c[0], c[1], got, ok)
		}
	}
	for _, s := range someTerms() {
		x, _ := termOf(s)
		for _, name := range someNames() {
			want := ""
			if x.head == "lam" && x.names()[name] == 0 {
				want = x.parts[0].swap(0, opened(name)).sorted().text()
			}
			got, ok := impl.TermOpen(s, name)
			if got != want || ok != (want != "") {
				t.Errorf("TermOpen(%q, %q) = %q, %v, not %q", s, name, got, ok, want)
			}
			if back, fine := impl.TermBind(got, name); ok && (!fine || back != s) {
				t.Errorf("TermBind(%q, %q) = %q, %v, not %q", got, name, back, fine, s)
			}
		}
	}
	for _, s := range append(otherTexts(), "x", "(app x (m))", "(app (lam 0) (m))", "(lam z)", "(lam (app 0 (m (lam (app z (m))))))", "(lam (app 0 (m y x)))") {
		checkNone(t, "TermOpen", s, "z", func() (string, bool) { return impl.TermOpen(s, "z") })
	}
	for _, name := range noNames() {
		checkNone(t, "TermOpen", "(lam 0)", name, func() (string, bool) { return impl.TermOpen("(lam 0)", name) })
	}
}

// allOf returns what the functions of the chapter say of a text, in one text.
func allOf(s string) string {
	names, _ := impl.TermNames(s)
	kids, _ := impl.TermKids(s)
	sorted, _ := impl.TermSort(s)
	bag, _ := impl.BagSort([]string{s, "x", s})
	renamed, _ := impl.TermRename(s, "x", "a")
	bound, _ := impl.TermBind(s, "x")
	open, _ := impl.TermOpen(s, "q")
	all := slices.Concat(names, kids, []string{sorted, bag, renamed, bound, open})
	if impl.TermValid(s) {
		all = append(all, digits(impl.TermSize(s)), digits(impl.TermDegree(s, "x")))
	}
	// What is done to results is not to be seen in later ones.
	for _, list := range [][]string{names, kids} {
		for i := range list {
			list[i] = "spoilt"
		}
		_ = append(list, "spoilt")
	}
	return strings.Join(all, ";")
}

func TestCallsKeepNothing(t *testing.T) {
	terms := slices.Concat(someTerms(), unsortedTexts()[0][:], noTerms())
	first := []string{}
	for _, s := range terms {
		first = append(first, allOf(s))
	}
	var wait sync.WaitGroup
	for range 4 {
		wait.Go(func() {
			for i := len(terms) - 1; i >= 0; i-- {
				if got := allOf(terms[i]); got != first[i] {
					t.Errorf("of %.80q first %q, then %q", terms[i], first[i], got)
				}
			}
		})
	}
	wait.Wait()
}
