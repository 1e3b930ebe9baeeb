package tests

import (
	"fmt"
	"math/big"
	"slices"
	"strings"
	"sync"
	"testing"

	"loop.example/resourceterms/impl"
)

// one returns the sum of a term itself.
func one(term string) impl.Sum {
	return impl.Sum{Terms: []string{term}, Tops: []int{1}, Bottoms: []int{1}}
}

// badFractions are a top and a bottom that are no fraction, or one that is too large.
func badFractions() [][2]int {
	return [][2]int{
		{1, 0}, {0, 0}, {1, -1}, {-1, -1}, {0, -1}, {2, -4}, {1000000001, 1}, {-1000000001, 1}, {1, 1000000001}, {0, 1000000001}, {1000000001, 1000000001}, {2000000000, 2000000000}, {2000000000, 2}, {2, 2000000000},
		{-1 << 63, 1}, {1<<63 - 1, 1}, {1, -1 << 63}, {1, 1<<63 - 1}, {-1 << 63, -1 << 63}, {1<<32 + 1, 1}, {1, 1<<32 + 1},
	}
}

func TestPromise11ValidSums(t *testing.T) {
	for _, s := range someSums() {
		if _, ok := mixedOf(s); !ok || !impl.SumValid(s) {
			t.Fatal(say("%.300v is no valid sum", s))
		}
		sum := impl.Sum{}
		for i, term := range s.Terms {
			if top, bottom, ok := impl.SumPart(s, term); !ok || top != s.Tops[i] || bottom != s.Bottoms[i] {
				t.Error(say("SumPart(%.300v, %q) = %d, %d, %v", s, term, top, bottom, ok))
			}
			part, ok := impl.SumOf(term, s.Tops[i], s.Bottoms[i])
			if !ok {
				t.Fatal(say("SumOf(%q, %d, %d) failed", term, s.Tops[i], s.Bottoms[i]))
			}
			if sum, ok = impl.SumAdd(part, sum); !ok {
				t.Fatal(say("SumAdd of terms of %.300v failed", s))
			}
		}
		if !sameSum(sum, s) {
			t.Error(say("the terms of %.300v come to %.300v", s, sum))
		}
	}
	for _, s := range badSums() {
		if impl.SumValid(s) {
			t.Error(say("%.300v is valid", s))
		}
	}
	if impl.TermsMax != 300 || impl.PartMax != 1000000000 {
		t.Error("TermsMax or PartMax is another number")
	}
}

func TestPromise12OneTerm(t *testing.T) {
	for _, c := range []struct {
		term        string
		top, bottom int
		want        string
	}{
		{"x", 1, 1, "1/1 x"}, {"x", 2, 4, "1/2 x"}, {"x", -2, 4, "-1/2 x"}, {"x", 0, 1, ""}, {"x", 0, 4, ""}, {"x", 0, 1000000000, ""}, {"x", 6, 4, "3/2 x"}, {"x", 4, 2, "2/1 x"}, {"x", -7, 7, "-1/1 x"},
		{"x", 1000000000, 1, "1000000000/1 x"}, {"x", -1000000000, 1, "-1000000000/1 x"}, {"x", 1, 1000000000, "1/1000000000 x"}, {"x", 1000000000, 1000000000, "1/1 x"}, {"x", -1000000000, 1000000000, "-1/1 x"},
		{"x", 1000000000, 999999999, "1000000000/999999999 x"}, {"x", 999999998, 1000000000, "499999999/500000000 x"}, {"(lam 0)", 3, 9, "1/3 (lam 0)"}, {"(app x (m x x))", 9, 3, "3/1 (app x (m x x))"},
	} {
		if got, ok := impl.SumOf(c.term, c.top, c.bottom); !ok || !sameSum(got, sumOf(c.want)) {
			t.Error(say("SumOf(%q, %d, %d) = %v, %v", c.term, c.top, c.bottom, got, ok))
		}
	}
	d := dice(19)
	for _, term := range someTerms() {
		top, bottom := d.someNumber()-d.someNumber(), d.someNumber()
		got, ok := impl.SumOf(term, top, bottom)
		want := mixed{}
		want.add(term, big.NewRat(int64(top), int64(bottom)))
		checkSum(t, "SumOf "+term, got, ok, want, true)
		f := big.NewRat(int64(top), int64(bottom))
		if a, b, fine := impl.SumPart(got, term); !impl.SumValid(got) || len(got.Terms) > 1 || (len(got.Terms) == 0) != (top == 0) || !fine || f.Cmp(big.NewRat(int64(a), int64(b))) != 0 || int64(b) != f.Denom().Int64() {
			t.Error(say("SumOf(%q, %d, %d) = %v, with the part %d, %d, %v", term, top, bottom, got, a, b, fine))
		}
	}
	for _, text := range otherTexts() {
		if got, ok := impl.SumOf(text, 1, 1); ok || !emptySum(got) {
			t.Error(say("SumOf(%.80q, 1, 1) = %v, %v", text, got, ok))
		}
		if got, ok := impl.SumOf(text, 0, 1); ok || !emptySum(got) {
			t.Error(say("SumOf(%.80q, 0, 1) = %v, %v", text, got, ok))
		}
	}
	for _, f := range badFractions() {
		if got, ok := impl.SumOf("x", f[0], f[1]); ok || !emptySum(got) {
			t.Error(say("SumOf(x, %d, %d) = %v, %v", f[0], f[1], got, ok))
		}
	}
}

func TestPromise13AddingAtTheEdges(t *testing.T) {
	row := nameRow()
	all := rowSum(row, 300, 1, 1)
	for _, c := range []struct {
		what       string
		a, b, want impl.Sum
		ok         bool
	}{
		{"halves", sumOf("1/2 x"), sumOf("1/2 x"), sumOf("1/1 x"), true},
		{"different terms", sumOf("1/2 y"), sumOf("1/2 x"), sumOf("1/2 x; 1/2 y"), true},
		{"a term that vanishes", sumOf("1/2 x; 1/3 y"), sumOf("-1/2 x; 1/6 y"), sumOf("1/2 y"), true},
		{"all terms vanish", sumOf("1/2 x; 1/3 y"), sumOf("-1/2 x; -1/3 y"), sumOf(""), true},
		{"nothing", sumOf(""), impl.Sum{Terms: []string{}, Tops: []int{}, Bottoms: []int{}}, sumOf(""), true},
		{"nothing more", all, sumOf(""), all, true},
		{"a top of PartMax", sumOf("999999999/1 x"), sumOf("1/1 x"), sumOf("1000000000/1 x"), true},
		{"a top of one more", sumOf("1000000000/1 x"), sumOf("1/1 x"), sumOf(""), false},
		{"a top of -PartMax", sumOf("-999999999/1 x"), sumOf("-1/1 x"), sumOf("-1000000000/1 x"), true},
		{"a top of one less", sumOf("-1000000000/1 x"), sumOf("-1/1 x"), sumOf(""), false},
		{"PartMax and -PartMax", sumOf("1000000000/1 x"), sumOf("-1000000000/1 x"), sumOf(""), true},
		{"a bottom of PartMax", sumOf("1/1024 x"), sumOf("1/1953125 x"), sumOf(""), false},
		{"a bottom of PartMax at last", sumOf("1/512 x"), sumOf("1/1953125 x"), sumOf("1953637/1000000000 x"), true},
		{"large bottoms", sumOf("1/1000000000 x"), sumOf("1/999999999 x"), sumOf(""), false},
		{"large bottoms that are the same", sumOf("1/1000000000 x"), sumOf("999999999/1000000000 x"), sumOf("1/1 x"), true},
		{"a large one among others", sumOf("1/1 a; 1000000000/1 x; 1/1 z"), sumOf("1/1 x"), sumOf(""), false},
		{"TermsMax terms", rowSum(row, 299, 1, 1), one(row[299]), all, true},
		{"TermsMax terms and one more", all, one(row[300]), sumOf(""), false},
		{"one more, but one vanishes", rowSum(row, 300, 1, 1), impl.Sum{Terms: []string{row[0], row[300]}, Tops: []int{-1, 1}, Bottoms: []int{1, 1}}, rowSum(row[1:], 300, 1, 1), true},
		{"many more", all, rowSum(appRow(300), 300, 1, 1), sumOf(""), false},
		{"TermsMax terms twice", all, all, rowSum(row, 300, 2, 1), true},
	} {
		if got, ok := impl.SumAdd(c.a, c.b); ok != c.ok || !sameSum(got, c.want) {
			t.Error(say("%s: %.300v, %v", c.what, got, ok))
		}
	}
}

func TestPromise13Adding(t *testing.T) {
	all, mix := someSums(), []mixed{}
	for _, s := range all {
		m, _ := mixedOf(s)
		mix = append(mix, m)
	}
	edges := len(edgeSums())
	for i, a := range all {
		for k, b := range all {
			if i >= edges && (i+k)%9 > 0 {
				continue
			}
			got, ok := impl.SumAdd(a, b)
			checkSum(t, say("SumAdd(%.200v, %.200v)", a, b), got, ok, mix[i].plus(mix[k]), true)
			if turned, fine := impl.SumAdd(b, a); fine != ok || !sameSum(turned, got) {
				t.Error(say("SumAdd(%.200v, %.200v) = %.200v, but %.200v exchanged", a, b, got, turned))
			}
			minus, fine := impl.SumTimes(b, -1, 1)
			if !fine {
				t.Fatal(say("SumTimes(%.200v, -1, 1) failed", b))
			}
			if back, fine := impl.SumAdd(got, minus); ok && (!fine || !sameSum(back, a)) {
				t.Error(say("SumAdd(%.200v, %.200v) without the second one is %.200v, %v", a, b, back, fine))
			}
		}
	}
	for _, s := range badSums() {
		for _, pair := range [][2]impl.Sum{{s, one("x")}, {one("x"), s}, {s, {}}, {{}, s}, {s, s}} {
			if got, ok := impl.SumAdd(pair[0], pair[1]); ok || !emptySum(got) {
				t.Error(say("SumAdd(%.200v, %.200v) = %.200v, %v", pair[0], pair[1], got, ok))
			}
		}
	}
}

func TestPromise14TimesAtTheEdges(t *testing.T) {
	for _, c := range []struct {
		s           string
		top, bottom int
		want        string
		ok          bool
	}{
		{"1/2 x; 3/1 y", 2, 1, "1/1 x; 6/1 y", true}, {"1/2 x; 3/1 y", 2, 4, "1/4 x; 3/2 y", true}, {"3/2 x", 2, 3, "1/1 x", true}, {"3/2 x", -4, 6, "-1/1 x", true},
		{"1/2 x; 3/1 y", 0, 1, "", true}, {"1/2 x", 0, 1000000000, "", true}, {"", 5, 7, "", true}, {"", 0, 1, "", true},
		{"1000000000/1 x", 1, 1000000000, "1/1 x", true}, {"1/1000000000 x", 1000000000, 1, "1/1 x", true}, {"1/1000000000 x", -1000000000, 1, "-1/1 x", true},
		{"1000000000/999999999 x", 999999999, 1000000000, "1/1 x", true}, {"1000000000/999999999 x", 1000000000, 1000000000, "1000000000/999999999 x", true},
		{"1000000000/1 x", 2, 1, "", false}, {"500000000/1 x", 2, 1, "1000000000/1 x", true}, {"500000000/1 x", -2, 1, "-1000000000/1 x", true}, {"500000001/1 x", 2, 1, "", false}, {"500000001/1 x", -2, 1, "", false},
		{"1/1000000000 x", 1, 2, "", false}, {"1/500000000 x", 1, 2, "1/1000000000 x", true}, {"1/500000001 x", 1, 2, "", false}, {"1/2 x", 1, 1000000000, "", false},
		{"1/1 a; 1/1000000000 x; 1/1 z", 1, 3, "", false}, {"1000000000/1 x", 1000000000, 1, "", false}, {"1/1000000000 x", 1, 1000000000, "", false},
		{"1000000000/1 x", 0, 1, "", true},
	} {
		if got, ok := impl.SumTimes(sumOf(c.s), c.top, c.bottom); ok != c.ok || !sameSum(got, sumOf(c.want)) {
			t.Error(say("SumTimes(%s, %d, %d) = %v, %v", c.s, c.top, c.bottom, got, ok))
		}
	}
}

func TestPromise14Times(t *testing.T) {
	d := dice(23)
	for _, s := range someSums() {
		x, _ := mixedOf(s)
		for i := range 12 {
			top, bottom := []int{0, 1, -1, 2, -3, d.someNumber() - d.someNumber()}[i%6], 1
			if i > 2 {
				bottom = d.someNumber()
			}
			got, ok := impl.SumTimes(s, top, bottom)
			checkSum(t, say("SumTimes(%.200v, %d, %d)", s, top, bottom), got, ok, x.times(big.NewRat(int64(top), int64(bottom))), true)
			if top == 0 && (!ok || !emptySum(got)) {
				t.Error(say("SumTimes(%.200v, 0, %d) = %.200v, %v", s, bottom, got, ok))
			}
			if ok && !impl.SumValid(got) {
				t.Error(say("SumTimes(%.200v, %d, %d) = %.200v is invalid", s, top, bottom, got))
			}
			if back, fine := impl.SumTimes(got, bottom, top); ok && top > 0 && (!fine || !sameSum(back, s)) {
				t.Error(say("SumTimes(%.200v, %d, %d) = %.200v, and back %.200v, %v", s, top, bottom, got, back, fine))
			}
		}
	}
	for _, f := range badFractions() {
		for _, s := range []impl.Sum{one("x"), {}, sumOf("1/2 x; 1/3 y")} {
			if got, ok := impl.SumTimes(s, f[0], f[1]); ok || !emptySum(got) {
				t.Error(say("SumTimes(%v, %d, %d) = %v, %v", s, f[0], f[1], got, ok))
			}
		}
	}
	for _, s := range badSums() {
		for _, f := range [][2]int{{1, 1}, {0, 1}, {1, 2}, {-1, 1}} {
			if got, ok := impl.SumTimes(s, f[0], f[1]); ok || !emptySum(got) {
				t.Error(say("SumTimes(%.200v, %d, %d) = %.200v, %v", s, f[0], f[1], got, ok))
			}
		}
	}
}

func TestPromise15Parts(t *testing.T) {
	terms := append(smallTerms(), edgeTerms()...)
	terms = append(terms, nameRow()[0], nameRow()[150], nameRow()[299], nameRow()[300])
	for _, s := range someSums() {
		x, _ := mixedOf(s)
		twice, valid := impl.SumAdd(s, s)
		for _, term := range terms {
			want := big.NewRat(0, 1)
			if x[term] != nil {
				want = x[term]
			}
			top, bottom, ok := impl.SumPart(s, term)
			if !ok || bottom < 1 || (top == 0) == slices.Contains(s.Terms, term) || int64(top) != want.Num().Int64() || int64(bottom) != want.Denom().Int64() {
				t.Error(say("SumPart(%.200v, %q) = %d, %d, %v", s, term, top, bottom, ok))
			}
			if a, b, fine := impl.SumPart(twice, term); valid && (!fine || big.NewRat(int64(a), int64(b)).Cmp(new(big.Rat).Add(want, want)) != 0) {
				t.Error(say("SumPart(%.200v, %q) = %d, %d, %v, not twice %d, %d", twice, term, a, b, fine, top, bottom))
			}
		}
	}
	for _, text := range otherTexts() {
		for _, s := range []impl.Sum{{}, one("x")} {
			if top, bottom, ok := impl.SumPart(s, text); ok || top != 0 || bottom != 0 {
				t.Error(say("SumPart(%v, %.80q) = %d, %d, %v", s, text, top, bottom, ok))
			}
		}
	}
	for _, s := range badSums() {
		for _, term := range []string{"x", "y", "a00"} {
			if top, bottom, ok := impl.SumPart(s, term); ok || top != 0 || bottom != 0 {
				t.Error(say("SumPart(%.200v, %q) = %d, %d, %v", s, term, top, bottom, ok))
			}
		}
	}
}

func TestPromise16ApplyingSmallSums(t *testing.T) {
	for _, c := range []struct {
		s, list, want string // the sums of a list have " | " between them
	}{
		{"1/1 x", "1/1 y", "1/1 (app x (m y))"}, {"1/2 x", "2/3 y", "1/3 (app x (m y))"}, {"1/1 x; 3/2 y", "1/1 z", "1/1 (app x (m z)); 3/2 (app y (m z))"},
		{"1/1 x", "1/1 y | 1/1 a", "1/1 (app x (m a y))"},
		{"1/1 x", "1/1 a; 1/1 b | 1/1 a; 1/1 b", "1/1 (app x (m a a)); 2/1 (app x (m a b)); 1/1 (app x (m b b))"},
		{"1/1 x", "1/2 a; 1/3 b | 1/5 a; 1/7 b", "1/10 (app x (m a a)); 29/210 (app x (m a b)); 1/21 (app x (m b b))"},
		{"1/1 x", "1/1 a | 1/1 a | 1/1 a | 1/1 a | 1/1 a | 1/1 a", "1/1 (app x (m a a a a a a))"},
		{"1/1 x", "1/1 a; 1/1 b | 1/1 a; -1/1 b", "1/1 (app x (m a a)); -1/1 (app x (m b b))"},
		{"1/1 x", "1/2 a; 1/3 b | 1/2 a; -1/3 b", "1/4 (app x (m a a)); -1/9 (app x (m b b))"},
		{"1/1 x", "1/1 a; -1/1 b | 1/1 a; -2/1 b | 1/1 a; -3/1 b | 1/1 a; 1/1 b | 1/1 a; 2/1 b | 1/1 a; 3/1 b", "1/1 (app x (m a a a a a a)); -14/1 (app x (m a a a a b b)); 49/1 (app x (m a a b b b b)); -36/1 (app x (m b b b b b b))"},
		{"1/1 x", "1/1 (app x (m)); 1/1 x", "1/1 (app x (m (app x (m)))); 1/1 (app x (m x))"},
		{"1/1 (app x (m)); 1/1 x", "1/1 x", "1/1 (app (app x (m)) (m x)); 1/1 (app x (m x))"},
		{"1/1 (lam 0)", "1/1 (lam 0) | 1/1 (lam x)", "1/1 (app (lam 0) (m (lam 0) (lam x)))"},
		// What is large on the way alone is not asked.
		{"1/1 x", "1000000000/1 a | 1000000000/1 a | 1/1000000000 a | 1/1000000000 a", "1/1 (app x (m a a a a))"},
		{"1/1 x", "1/1000000000 a | 1/1000000000 b | 1/1000000000 c | 1000000000/1 d | 1000000000/1 e | 1000000000/1 f", "1/1 (app x (m a b c d e f))"},
		{"1/1000000000 x", "1000000000/1 a | 999999937/999999929 a | 999999929/999999937 a", "1/1 (app x (m a a a))"},
		{"1/1 x", "1/999999937 a; 1/999999929 b | 999999937/1 a; -999999929/1 b", "no"},
		{"1/1 x", "1000000000/1 a; 1000000000/1 b | 1/1000000000 a; -1/1000000000 b", "1/1 (app x (m a a)); -1/1 (app x (m b b))"},
		{"1/1 x", "1000000000/1 a; 1/1000000000 b | 1/1000000000 a; -1/1000000000 b", "no"},
	} {
		list := listOf(c.list)
		mix := []mixed{}
		for _, x := range list {
			m, _ := mixedOf(x)
			mix = append(mix, m)
		}
		head, _ := mixedOf(sumOf(c.s))
		want := head.applied(mix)
		got, ok := impl.SumApply(sumOf(c.s), list)
		checkSum(t, "SumApply of "+c.list, got, ok, want, true)
		if ok && showSum(got) != c.want || ok != (c.want != "no") {
			t.Error(say("SumApply(%s; %s) = %v", c.s, c.list, got))
		}
	}
}

func TestPromise16ApplyingAtTheEdges(t *testing.T) {
	row := nameRow()
	x, empty := one("x"), impl.Sum{}
	large := one(nested("(lam ", "0", ")", 57)) // of the size 58
	six := func(s impl.Sum) []impl.Sum { return slices.Repeat([]impl.Sum{s}, 6) }
	signs := rowSum(row, 32, 1, 1)
	for i := 16; i < 32; i++ {
		signs.Tops[i] = -1
	}
	for _, c := range []struct {
		what  string
		s     impl.Sum
		list  []impl.Sum
		terms int // -1 if it fails
	}{
		{"a nil list", sumOf("1/2 x; 3/1 y"), nil, 2}, {"an empty list", sumOf("1/2 x; 3/1 y"), []impl.Sum{}, 2}, {"a sum without terms", empty, nil, 0},
		{"a list of 6", x, six(x), 1}, {"a list of 7", x, append(six(x), x), -1}, {"a list of 7 without terms", empty, append(six(empty), empty), -1}, {"a list of 100000", x, slices.Repeat([]impl.Sum{x}, 100000), -1},
		{"a head without terms", empty, six(x), 0}, {"one without terms", x, []impl.Sum{x, empty, x}, 0}, {"one without terms ahead", x, []impl.Sum{empty, x}, 0}, {"one without terms at last", x, []impl.Sum{x, empty}, 0},
		{"the size 60", x, []impl.Sum{large}, 1}, {"the size 61", x, []impl.Sum{large, x}, -1}, {"the size 61 by the head", one("(lam 0)"), []impl.Sum{large}, -1}, {"the size 60 by the head", large, []impl.Sum{x}, 1}, {"the size 61 by the head and more", large, []impl.Sum{x, x}, -1}, {"the size 59", large, nil, 1},
		{"the size 60 by the head alone", one(nested("(lam ", "0", ")", 58)), nil, 1}, {"the size 61 by the head alone", one(nested("(lam ", "0", ")", 59)), nil, -1},
		{"one of the terms too large", x, []impl.Sum{sumOf("1/1 " + nested("(lam ", "0", ")", 58) + "; 1/1 x")}, -1},
		{"one of the terms too large, but nothing to choose", x, []impl.Sum{sumOf("1/1 " + nested("(lam ", "0", ")", 58) + "; 1/1 x"), empty}, 0}, {"nothing to choose for what is too large", empty, []impl.Sum{large, large}, 0},
		{"TermsMax terms by the head", rowSum(row, 300, 1, 1), six(x), 300}, {"TermsMax terms by one of a list", x, []impl.Sum{x, x, rowSum(row, 300, 1, 2), x}, 300},
		{"TermsMax terms by both", rowSum(row, 150, 1, 1), []impl.Sum{x, sumOf("1/1 x; 1/1 y")}, 300}, {"two more by both", rowSum(row, 151, 1, 1), []impl.Sum{x, sumOf("1/1 x; 1/1 y")}, -1},
		{"TermsMax terms by bags", x, []impl.Sum{rowSum(row, 24, 1, 1), rowSum(row, 24, 2, 1)}, 300}, {"more terms by bags", x, []impl.Sum{rowSum(row, 25, 1, 1), rowSum(row, 25, 2, 1)}, -1},
		{"TermsMax terms of 20 and 15", x, []impl.Sum{rowSum(row, 20, 1, 1), rowSum(row[20:], 15, 1, 1)}, 300}, {"301 terms of 43 and 7", x, []impl.Sum{rowSum(row, 43, 1, 1), rowSum(row[43:], 7, 1, 1)}, -1},
		{"many terms of which some vanish", x, []impl.Sum{rowSum(row, 32, 1, 1), signs}, 272}, {"many terms of which too few vanish", x, []impl.Sum{rowSum(row, 33, 1, 1), signs}, -1},
		{"bags of 6 in 210 ways", x, six(rowSum(row, 5, 1, 1)), 210}, {"bags of 6 in 462 ways", x, six(rowSum(row, 6, 1, 1)), -1},
		{"more choices than can be gone through", rowSum(row, 300, 1, 1), six(rowSum(row, 300, 1, 1)), -1}, {"the same for one head", x, six(rowSum(row, 300, 1, 999999999)), -1},
		{"six rows of different terms", x, []impl.Sum{rowSum(row, 50, 1, 1), rowSum(row[50:], 50, 1, 1), rowSum(row[100:], 50, 1, 1), rowSum(row[150:], 50, 1, 1), rowSum(row[200:], 50, 1, 1), rowSum(row[250:], 50, 1, 1)}, -1},
		// On the way there are 450 terms: a polynomial of 6 terms becomes one of 4.
		{"more than TermsMax terms on the way", rowSum(row, 75, 1, 1), []impl.Sum{sumOf("1/1 x; -1/1 y"), sumOf("1/1 x; -2/1 y"), sumOf("1/1 x; -3/1 y"), sumOf("1/1 x; 1/1 y"), sumOf("1/1 x; 2/1 y"), sumOf("1/1 x; 3/1 y")}, 300},
		{"a top of PartMax", x, []impl.Sum{sumOf("500000000/1 x"), sumOf("2/1 y")}, 1}, {"a top that is too large", x, []impl.Sum{sumOf("500000001/1 x"), sumOf("2/1 y")}, -1}, {"a top of -PartMax", sumOf("-2/1 x"), []impl.Sum{sumOf("500000000/1 x")}, 1}, {"a bottom of PartMax", x, []impl.Sum{sumOf("1/500000000 x"), sumOf("1/2 y")}, 1}, {"a bottom that is too large", sumOf("1/500000001 x"), []impl.Sum{sumOf("1/2 y")}, -1},
		{"a top that is too large by two choices", x, []impl.Sum{sumOf("1000000000/1 a; 1/1 b"), sumOf("1/1 a; 1/1 b")}, -1}, {"a top that is not too large", x, []impl.Sum{sumOf("999999999/1 a; 1/1 b"), sumOf("1/1 a; 1/1 b")}, 3},
	} {
		got, ok := impl.SumApply(c.s, c.list)
		if ok != (c.terms >= 0) || len(got.Terms) != max(0, c.terms) || ok && !impl.SumValid(got) || !ok && !emptySum(got) {
			t.Error(say("%s: %d terms, %v", c.what, len(got.Terms), ok))
		}
	}
	if got, ok := impl.SumApply(sumOf("1/2 x; 3/1 y"), nil); !ok || !sameSum(got, sumOf("1/2 (app x (m)); 3/1 (app y (m))")) {
		t.Error(say("applied to nothing: %v, %v", got, ok))
	}
	for _, s := range badSums() {
		for _, c := range [][]impl.Sum{{s}, {s, x}, {x, s}, {x, s, x}, {empty, s}, {x, empty, s}, {empty, empty, s}, {x, x, x, x, x, x, s}} {
			if got, ok := impl.SumApply(c[0], c[1:]); ok || !emptySum(got) {
				t.Error(say("SumApply(%.200v) = %.200v, %v", c, got, ok))
			}
		}
	}
}

func TestPromise16Applying(t *testing.T) {
	d := dice(29)
	done, failed := 0, 0
	for i := range 1200 {
		s := d.someSum(smallTerms(), 1+i%3)
		list, mix := []impl.Sum{}, []mixed{}
		for range d.roll(7) {
			x := d.someSum(smallTerms()[:3+i%12], 2+i%3)
			for len(x.Terms) == 0 && d.roll(16) > 0 {
				x = d.someSum(smallTerms()[:3+i%12], 2+i%3)
			}
			if len(list) > 0 && d.roll(3) == 0 {
				x = list[d.roll(len(list))]
			}
			if d.roll(3) == 0 && len(x.Terms) > 1 { // opposite signs, so that something vanishes
				x = copySum(x)
				x.Tops[0] = -x.Tops[0]
			}
			m, _ := mixedOf(x)
			list, mix = append(list, x), append(mix, m)
		}
		head, _ := mixedOf(s)
		want := head.applied(mix)
		got, ok := impl.SumApply(s, list)
		checkSum(t, say("SumApply(%v, %v)", s, list), got, ok, want, true)
		turned := slices.Clone(list)
		slices.Reverse(turned)
		if again, fine := impl.SumApply(s, turned); fine != ok || !sameSum(again, got) {
			t.Error(say("SumApply(%v, %v) = %v, but %v turned round", s, list, got, again))
		}
		if !ok {
			failed++
			continue
		}
		product := head.total()
		for _, m := range mix {
			product.Mul(product, m.total())
		}
		top, bottom, small := partOf(product)
		if a, b, fine := impl.SumTotal(got); fine != small || a != top || b != bottom {
			t.Error(say("SumTotal of SumApply(%v, %v) = %d, %d, %v, not %v", s, list, a, b, fine, product))
		}
		if len(got.Terms) > 0 {
			done++
		}
	}
	if done < 200 || failed < 200 {
		t.Error(say("%d sums with terms, and %d failed", done, failed))
	}
}

func TestPromise17Binding(t *testing.T) {
	for _, c := range [][3]string{
		{"", "x", ""}, {"1/2 x", "x", "1/2 (lam 0)"}, {"1/2 x", "y", "1/2 (lam x)"}, {"-1/2 a; 3/1 x", "x", "3/1 (lam 0); -1/2 (lam a)"}, {"-1/2 a; 3/1 x", "a", "-1/2 (lam 0); 3/1 (lam x)"},
		{"2/1 (lam 0); 1/1 (lam x); 5/1 x", "x", "2/1 (lam (lam 0)); 1/1 (lam (lam 1)); 5/1 (lam 0)"},
		{"1/3 (app x (m a x)); 1/5 (app x (m b x)); 1/7 (app x (m x))", "x", "1/3 (lam (app 0 (m 0 a))); 1/5 (lam (app 0 (m 0 b))); 1/7 (lam (app 0 (m 0)))"},
		{"1/3 (app a (m)); 1/5 (app b (m)); 1/7 (lam 0); -4/9 b", "b", "1/5 (lam (app 0 (m))); 1/3 (lam (app a (m))); 1/7 (lam (lam 0)); -4/9 (lam 0)"},
		{"1/2 " + nested("(lam ", "0", ")", 58), "x", "1/2 " + nested("(lam ", "0", ")", 59)},
	} {
		want := mixed{}
		if m, ok := mixedOf(sumOf(c[0])); ok {
			want = m.bound(c[1])
		}
		got, ok := impl.SumBind(sumOf(c[0]), c[1])
		checkSum(t, "SumBind "+c[0], got, ok, want, true)
		if showSum(got) != c[2] {
			t.Error(say("SumBind(%s, %s) = %v", c[0], c[1], got))
		}
	}
	for _, s := range someSums() {
		x, _ := mixedOf(s)
		a, b, small := impl.SumTotal(s)
		for _, name := range append(someNames(), nameRow()[7]) {
			got, ok := impl.SumBind(s, name)
			checkSum(t, say("SumBind(%.200v, %q)", s, name), got, ok, x.bound(name), true)
			if !ok {
				continue
			}
			if c, d, fine := impl.SumTotal(got); len(got.Terms) != len(s.Terms) || c != a || d != b || fine != small {
				t.Error(say("SumBind(%.200v, %q) has %d terms and the total %d, %d, %v", s, name, len(got.Terms), c, d, fine))
			}
			for i, term := range s.Terms[:min(4, len(s.Terms))] {
				lam, _ := impl.TermBind(term, name)
				if top, bottom, fine := impl.SumPart(got, lam); !fine || top != s.Tops[i] || bottom != s.Bottoms[i] {
					t.Error(say("SumPart(%.200v, %q) = %d, %d, %v", got, lam, top, bottom, fine))
				}
			}
		}
	}
	for _, s := range []impl.Sum{sumOf("1/2 " + nested("(lam ", "0", ")", 59)), sumOf("1/2 " + nested("(lam ", "0", ")", 59) + "; 1/1 a"), sumOf("1/1 (app x (m" + strings.Repeat(" x", 58) + ")); 1/1 a")} {
		if got, ok := impl.SumBind(s, "x"); !impl.SumValid(s) || ok || !emptySum(got) {
			t.Error(say("SumBind(%v, x) = %v, %v", s, got, ok))
		}
	}
	for _, s := range badSums() {
		if got, ok := impl.SumBind(s, "x"); ok || !emptySum(got) {
			t.Error(say("SumBind(%.200v, x) = %.200v, %v", s, got, ok))
		}
	}
	for _, name := range noNames() {
		for _, s := range []impl.Sum{{}, one("x")} {
			if got, ok := impl.SumBind(s, name); ok || !emptySum(got) {
				t.Error(say("SumBind(%v, %q) = %v, %v", s, name, got, ok))
			}
		}
	}
}

// primesFrom returns the greatest primes below a number.
func primesFrom(n, count int) []int {
	primes := []int{}
	for n--; len(primes) < count; n-- {
		if big.NewInt(int64(n)).ProbablyPrime(0) {
			primes = append(primes, n)
		}
	}
	return primes
}

func TestPromise18TotalsAtTheEdges(t *testing.T) {
	row := nameRow()
	// The bottoms on the way are the product of 149 primes; only 1/3 is left.
	wide := rowSum(row, 299, 1, 3)
	for i, p := range primesFrom(1000000000, 149) {
		wide.Bottoms[i], wide.Bottoms[297-i] = p, p
		wide.Tops[i], wide.Tops[297-i] = 1+i, -1-i
	}
	left := copySum(wide)
	left.Tops[0]++
	for _, c := range []struct {
		what        string
		s           impl.Sum
		top, bottom int
		ok          bool
	}{
		{"nothing", impl.Sum{}, 0, 1, true}, {"one", sumOf("1/2 x"), 1, 2, true}, {"lowest terms", sumOf("1/6 x; 1/3 y"), 1, 2, true}, {"a whole number", sumOf("1/2 x; 1/3 y; 1/6 z"), 1, 1, true}, {"nothing left", sumOf("1/2 x; -1/3 y; -1/6 z"), 0, 1, true},
		{"less than 0", sumOf("1/2 x; -3/2 y"), -1, 1, true}, {"a top of PartMax", sumOf("999999999/1 x; 1/1 y"), 1000000000, 1, true}, {"a top that is too large", sumOf("1000000000/1 x; 1/1 y"), 0, 0, false},
		{"a top of -PartMax", sumOf("-999999999/1 x; -1/1 y"), -1000000000, 1, true}, {"a top that is too small", sumOf("-1000000000/1 x; -1/1 y"), 0, 0, false},
		{"a large top on the way", sumOf("1000000000/1 x; 1000000000/1 y; -1000000000/1 z"), 1000000000, 1, true}, {"a bottom of PartMax", sumOf("1/512 x; 1/1953125 y"), 1953637, 1000000000, true}, {"a bottom that is too large", sumOf("1/1024 x; 1/1953125 y"), 0, 0, false},
		{"large bottoms on the way", sumOf("1/999999937 a; 1/999999929 b; -1/999999937 c; -1/999999929 d"), 0, 1, true}, {"300 halves", rowSum(row, 300, 1, 2), 150, 1, true}, {"300 large ones", rowSum(row, 300, 1000000000, 1), 0, 0, false}, {"300 parts", rowSum(row, 300, 1, 1000000000), 3, 10000000, true},
		{"very large bottoms on the way", wide, 1, 3, true}, {"very large bottoms of which one is left", left, 0, 0, false},
	} {
		if !impl.SumValid(c.s) {
			t.Fatal(say("%s: no valid sum", c.what))
		}
		for range 3 {
			if top, bottom, ok := impl.SumTotal(c.s); ok != c.ok || top != c.top || bottom != c.bottom {
				t.Error(say("%s: %d, %d, %v", c.what, top, bottom, ok))
			}
		}
	}
}

func TestPromise18Totals(t *testing.T) {
	for _, s := range someSums() {
		x, _ := mixedOf(s)
		top, bottom, small := partOf(x.total())
		if a, b, ok := impl.SumTotal(s); ok != small || a != top || b != bottom {
			t.Error(say("SumTotal(%.300v) = %d, %d, %v, not %v", s, a, b, ok, x.total()))
		}
		minus, _ := impl.SumTimes(s, -1, 1)
		if a, b, ok := impl.SumTotal(minus); ok != small || a != -top || b != bottom {
			t.Error(say("SumTotal(%.300v) = %d, %d, %v, not %d, %d", minus, a, b, ok, -top, bottom))
		}
	}
	for _, s := range badSums() {
		if top, bottom, ok := impl.SumTotal(s); ok || top != 0 || bottom != 0 {
			t.Error(say("SumTotal(%.300v) = %d, %d, %v", s, top, bottom, ok))
		}
	}
}

func TestPromise19WholeSums(t *testing.T) {
	for _, c := range []struct {
		s     impl.Sum
		whole bool
	}{
		{impl.Sum{}, true}, {impl.Sum{Terms: []string{}, Tops: []int{}, Bottoms: []int{}}, true}, {sumOf("1/1 x"), true}, {sumOf("-1000000000/1 x; 7/1 y"), true}, {rowSum(nameRow(), 300, 5, 1), true},
		{sumOf("1/2 x"), false}, {sumOf("3/2 x; 1/1 y"), false}, {sumOf("1/1 x; 1/2 y"), false}, {sumOf("1/1 x; 1/1000000000 y; 2/1 z"), false}, {rowSum(nameRow(), 301, 5, 1), false},
	} {
		if impl.SumWhole(c.s) != c.whole {
			t.Error(say("SumWhole(%.300v) is not %v", c.s, c.whole))
		}
	}
	found := 0
	for _, s := range someSums() {
		want := !slices.ContainsFunc(s.Bottoms, func(n int) bool { return n != 1 })
		if impl.SumWhole(s) != want {
			t.Error(say("SumWhole(%.300v) is not %v", s, want))
		}
		if !want {
			continue
		}
		found++
		if x, ok := impl.SumTimes(s, 3, 1); ok && !impl.SumWhole(x) {
			t.Error(say("%.300v, 3 times, is not whole", s))
		}
		if x, ok := impl.SumAdd(s, s); ok && !impl.SumWhole(x) {
			t.Error(say("%.300v, twice, is not whole", s))
		}
	}
	if found < 10 {
		t.Error(say("only %d whole sums", found))
	}
	for _, s := range badSums() {
		if impl.SumWhole(s) {
			t.Error(say("SumWhole(%.300v)", s))
		}
	}
}

// allOfSum returns what the functions of the chapter say of a sum, in one text, and checks that they leave it as it is.
func allOfSum(t *testing.T, s impl.Sum) string {
	kept := copySum(s)
	list := []impl.Sum{s, one("x"), s}
	twice, ok1 := impl.SumAdd(s, s)
	half, ok2 := impl.SumTimes(s, 1, 2)
	applied, ok3 := impl.SumApply(s, list)
	other, ok4 := impl.SumApply(one("y"), list[:2])
	bound, ok5 := impl.SumBind(s, "x")
	top, bottom, ok6 := impl.SumTotal(s)
	a, b, ok7 := impl.SumPart(s, "x")
	same, ok8 := impl.SumAdd(s, impl.Sum{})
	all := fmt.Sprint(twice, ok1, half, ok2, applied, ok3, other, ok4, bound, ok5, top, bottom, ok6, a, b, ok7, same, ok8, impl.SumValid(s), impl.SumWhole(s))
	for _, x := range []impl.Sum{twice, half, applied, other, bound, same} {
		spoil(t, x)
	}
	if !sameSum(s, kept) || !sameSum(list[0], kept) || !sameSum(list[2], kept) || !sameSum(list[1], one("x")) {
		t.Error(say("%.300v became %.300v", kept, s))
	}
	return all
}

// spoil writes over all that the slices of a sum can hold, and checks that none of them shares memory with another one.
func spoil(t *testing.T, s impl.Sum) {
	bottoms := slices.Clone(s.Bottoms[:cap(s.Bottoms)])
	for i := range s.Tops[:cap(s.Tops)] {
		s.Tops[:cap(s.Tops)][i] = 777
	}
	if !slices.Equal(bottoms, s.Bottoms[:cap(s.Bottoms)]) {
		t.Error("tops and bottoms share memory")
	}
	for i := range s.Bottoms[:cap(s.Bottoms)] {
		s.Bottoms[:cap(s.Bottoms)][i] = 777
	}
	for i := range s.Terms[:cap(s.Terms)] {
		s.Terms[:cap(s.Terms)][i] = "spoilt"
	}
}

func TestCallsOfSumsKeepNothing(t *testing.T) {
	sums := slices.Concat(someSums()[:70], badSums()[:40])
	first := []string{}
	for _, s := range sums {
		first = append(first, allOfSum(t, s))
	}
	var wait sync.WaitGroup
	for range 4 {
		wait.Go(func() {
			for i := len(sums) - 1; i >= 0; i-- {
				if got := allOfSum(t, sums[i]); got != first[i] {
					t.Error(say("of %.200v first %.200q, then %.200q", sums[i], first[i], got))
				}
			}
		})
	}
	wait.Wait()
}
