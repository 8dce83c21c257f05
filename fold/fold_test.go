package fold_test

import (
	"math"
	"math/rand"
	"slices"
	"testing"
	"unicode"

	"springhouse/api"
	"springhouse/fold"
	"springhouse/utf"
)

// noSigns are numbers that are no sign; some would be one that is Valid or Mapped if they were cut to 32 bits or to 21.
var noSigns = []int{
	-1, -2, -'A', -0x80, -0xFEE0, -0x10FFFF, math.MinInt, math.MinInt + 'a', math.MinInt + 'A', math.MinInt32, math.MinInt32 + 'A',
	0xD800, 0xD801, 0xDBFF, 0xDC00, 0xDFFE, 0xDFFF,
	0x110000, 0x110001, 0x110000 + 'a', 0x200000 + 'A', math.MaxInt32, 1 << 32, 1<<32 + 'a', 1<<32 + 'A', 1<<32 + 0xAD, math.MaxInt - 1, math.MaxInt,
}

// becomes is what the document says of a sign, at and beside the bounds of each of its lines.
var becomes = []struct {
	sign, kind int
	to         []int
}{
	// Forbidden, and what stands beside.
	{0x7E, fold.Valid, nil},
	{0x7F, fold.Valid, nil},
	{0x80, fold.Forbidden, nil},
	{0x81, fold.Forbidden, nil},
	{0x9F, fold.Forbidden, nil},
	{0xA0, fold.Forbidden, nil},
	{0xA1, fold.Valid, nil},
	{0xD7FF, fold.Valid, nil},
	{0xE000, fold.Forbidden, nil},
	{0xE001, fold.Forbidden, nil},
	{0xF8FE, fold.Forbidden, nil},
	{0xF8FF, fold.Forbidden, nil},
	{0xF900, fold.Valid, nil},
	{0xFDCF, fold.Valid, nil},
	{0xFDD0, fold.Forbidden, nil},
	{0xFDD1, fold.Forbidden, nil},
	{0xFDEE, fold.Forbidden, nil},
	{0xFDEF, fold.Forbidden, nil},
	{0xFDF0, fold.Valid, nil},
	{0x1FDD0, fold.Valid, nil},
	{0xFFFD, fold.Valid, nil},
	{0xFFFE, fold.Forbidden, nil},
	{0xFFFF, fold.Forbidden, nil},
	{0x10000, fold.Valid, nil},
	{0x1E000, fold.Valid, nil},
	{0x1FFFD, fold.Valid, nil},
	{0x1FFFE, fold.Forbidden, nil},
	{0x1FFFF, fold.Forbidden, nil},
	{0x20000, fold.Valid, nil},
	{0x7FFFD, fold.Valid, nil},
	{0x7FFFE, fold.Forbidden, nil},
	{0xEFFFD, fold.Valid, nil},
	{0xEFFFE, fold.Forbidden, nil},
	{0xEFFFF, fold.Forbidden, nil},
	{0xF0000, fold.Forbidden, nil},
	{0xF0001, fold.Forbidden, nil},
	{0x100000, fold.Forbidden, nil},
	{0x10FFFD, fold.Forbidden, nil},
	{0x10FFFE, fold.Forbidden, nil},
	{0x10FFFF, fold.Forbidden, nil},
	// Ignored, and what stands beside.
	{0xAC, fold.Valid, nil},
	{0xAD, fold.Ignored, nil},
	{0xAE, fold.Valid, nil},
	{0x200A, fold.Valid, nil},
	{0x200B, fold.Ignored, nil},
	{0x200C, fold.Valid, nil},
	{0x205F, fold.Valid, nil},
	{0x2060, fold.Ignored, nil},
	{0x2061, fold.Valid, nil},
	{0xFDFF, fold.Valid, nil},
	{0xFE00, fold.Ignored, nil},
	{0xFE01, fold.Ignored, nil},
	{0xFE0E, fold.Ignored, nil},
	{0xFE0F, fold.Ignored, nil},
	{0xFE10, fold.Valid, nil},
	{0xFEFE, fold.Valid, nil},
	{0xFEFF, fold.Ignored, nil},
	{0xFF00, fold.Valid, nil},
	{0x100AD, fold.Valid, nil},
	// Great letters that stand in rows.
	{0, fold.Valid, nil},
	{'.', fold.Valid, nil},
	{'@', fold.Valid, nil},
	{'A', fold.Mapped, []int{'a'}},
	{'B', fold.Mapped, []int{'b'}},
	{'Y', fold.Mapped, []int{'y'}},
	{'Z', fold.Mapped, []int{'z'}},
	{'[', fold.Valid, nil},
	{'a', fold.Valid, nil},
	{'z', fold.Valid, nil},
	{0xBF, fold.Valid, nil},
	{0xC0, fold.Mapped, []int{0xE0}},
	{0xC1, fold.Mapped, []int{0xE1}},
	{0xD6, fold.Mapped, []int{0xF6}},
	{0xD7, fold.Valid, nil},
	{0xD8, fold.Mapped, []int{0xF8}},
	{0xDE, fold.Mapped, []int{0xFE}},
	{0xDF, fold.Valid, nil},
	{0xE0, fold.Valid, nil},
	{0xF7, fold.Valid, nil},
	{0xFF, fold.Valid, nil},
	{0x390, fold.Valid, nil},
	{0x391, fold.Mapped, []int{0x3B1}},
	{0x3A1, fold.Mapped, []int{0x3C1}},
	{0x3A2, fold.Valid, nil},
	{0x3A3, fold.Mapped, []int{0x3C3}},
	{0x3A9, fold.Mapped, []int{0x3C9}},
	{0x3AA, fold.Valid, nil},
	{0x3B1, fold.Valid, nil},
	{0x3C2, fold.Valid, nil},
	{0x3FF, fold.Valid, nil},
	{0x400, fold.Mapped, []int{0x450}},
	{0x401, fold.Mapped, []int{0x451}},
	{0x40F, fold.Mapped, []int{0x45F}},
	{0x410, fold.Mapped, []int{0x430}},
	{0x42F, fold.Mapped, []int{0x44F}},
	{0x430, fold.Valid, nil},
	{0x44F, fold.Valid, nil},
	{0x450, fold.Valid, nil},
	{0x460, fold.Valid, nil},
	// Letters in pairs, and those that are left out of them.
	{0x100, fold.Mapped, []int{0x101}},
	{0x101, fold.Valid, nil},
	{0x12E, fold.Mapped, []int{0x12F}},
	{0x12F, fold.Valid, nil},
	{0x130, fold.Mapped, []int{0x69, 0x307}},
	{0x131, fold.Valid, nil},
	{0x132, fold.Mapped, []int{0x133}},
	{0x136, fold.Mapped, []int{0x137}},
	{0x137, fold.Valid, nil},
	{0x138, fold.Valid, nil},
	{0x139, fold.Mapped, []int{0x13A}},
	{0x13A, fold.Valid, nil},
	{0x13F, fold.Mapped, []int{0x140}},
	{0x140, fold.Valid, nil},
	{0x147, fold.Mapped, []int{0x148}},
	{0x148, fold.Valid, nil},
	{0x149, fold.Mapped, []int{0x2BC, 0x6E}},
	{0x14A, fold.Mapped, []int{0x14B}},
	{0x14B, fold.Valid, nil},
	{0x176, fold.Mapped, []int{0x177}},
	{0x177, fold.Valid, nil},
	{0x178, fold.Mapped, []int{0xFF}},
	{0x179, fold.Mapped, []int{0x17A}},
	{0x17A, fold.Valid, nil},
	{0x17D, fold.Mapped, []int{0x17E}},
	{0x17E, fold.Valid, nil},
	{0x17F, fold.Mapped, []int{0x73}},
	{0x180, fold.Valid, nil},
	{0x182, fold.Valid, nil},
	{0x2BC, fold.Valid, nil},
	{0x307, fold.Valid, nil},
	// What becomes a point, and the wide ones.
	{0x3001, fold.Valid, nil},
	{0x3002, fold.Mapped, []int{'.'}},
	{0x3003, fold.Valid, nil},
	{0xFF01, fold.Mapped, []int{'!'}},
	{0xFF0D, fold.Mapped, []int{'-'}},
	{0xFF0E, fold.Mapped, []int{'.'}},
	{0xFF0F, fold.Mapped, []int{'/'}},
	{0xFF10, fold.Mapped, []int{'0'}},
	{0xFF19, fold.Mapped, []int{'9'}},
	{0xFF20, fold.Mapped, []int{'@'}},
	{0xFF21, fold.Mapped, []int{'a'}},
	{0xFF3A, fold.Mapped, []int{'z'}},
	{0xFF3B, fold.Mapped, []int{'['}},
	{0xFF40, fold.Mapped, []int{'`'}},
	{0xFF41, fold.Mapped, []int{'a'}},
	{0xFF5A, fold.Mapped, []int{'z'}},
	{0xFF5E, fold.Mapped, []int{'~'}},
	{0xFF5F, fold.Valid, nil},
	{0xFF60, fold.Valid, nil},
	{0xFF61, fold.Mapped, []int{'.'}},
	{0xFF62, fold.Valid, nil},
	{0x1FF21, fold.Valid, nil},
	// Those by themselves.
	{0xA9, fold.Valid, nil},
	{0xAA, fold.Mapped, []int{'a'}},
	{0xAB, fold.Valid, nil},
	{0xB1, fold.Valid, nil},
	{0xB2, fold.Mapped, []int{'2'}},
	{0xB3, fold.Mapped, []int{'3'}},
	{0xB4, fold.Valid, nil},
	{0xB8, fold.Valid, nil},
	{0xB9, fold.Mapped, []int{'1'}},
	{0xBA, fold.Mapped, []int{'o'}},
	{0xBB, fold.Valid, nil},
	{0x210D, fold.Valid, nil},
	{0x210E, fold.Mapped, []int{'h'}},
	{0x210F, fold.Valid, nil},
	{0x245F, fold.Valid, nil},
	{0x2460, fold.Mapped, []int{'1'}},
	{0x2461, fold.Mapped, []int{'2'}},
	{0x2467, fold.Mapped, []int{'8'}},
	{0x2468, fold.Mapped, []int{'9'}},
	{0x2469, fold.Valid, nil},
}

func TestKindsAreNumbers(t *testing.T) {
	if kinds := []int{fold.Valid, fold.Mapped, fold.Ignored, fold.Forbidden}; !slices.Equal(kinds, []int{1, 2, 3, 4}) {
		t.Errorf("P3.1: the kinds are %d", kinds)
	}
}

// alone checks what the calls say of one sign, c.
func alone(t *testing.T, c, kind int, to []int) {
	t.Helper()
	if k := fold.Kind(c); k != kind {
		t.Errorf("P3.1: Kind(%x) = %d, not %d", c, k, kind)
	}
	if l := fold.To(c); !slices.Equal(l, to) {
		t.Errorf("P3.1: To(%x) = %x, not %x", c, l, to)
	}
	want := to
	if kind == fold.Valid {
		want = []int{c}
	}
	if l, at, ok := fold.Map([]int{c}); !slices.Equal(l, want) || at != 0 || ok != (kind != fold.Forbidden) {
		t.Errorf("P3.2: Map(%x) = %x, %d, %v", c, l, at, ok)
	}
}

func TestBounds(t *testing.T) {
	for _, b := range becomes {
		alone(t, b.sign, b.kind, b.to)
	}
}

func TestNoSignIsForbidden(t *testing.T) {
	for _, c := range noSigns {
		alone(t, c, fold.Forbidden, nil)
	}
}

func between(c, first, last int) bool { return first <= c && c <= last }

// lines are those of P3.1, in its order and its words.
func lines(c int) (kind int, to []int) {
	mapped := func(l ...int) (int, []int) { return fold.Mapped, l }
	low := c & 0xFFFF
	odd := c%2 == 1
	switch {
	case c == 0xAD, c == 0x200B, c == 0x2060, between(c, 0xFE00, 0xFE0F), c == 0xFEFF:
		return fold.Ignored, nil
	case !utf.Scalar(c), between(c, 0x80, 0xA0), between(c, 0xE000, 0xF8FF), between(c, 0xFDD0, 0xFDEF), c >= 0xF0000, low == 0xFFFE, low == 0xFFFF:
		return fold.Forbidden, nil
	case between(c, 0x41, 0x5A), between(c, 0xC0, 0xDE) && c != 0xD7, between(c, 0x391, 0x3A9) && c != 0x3A2, between(c, 0x410, 0x42F):
		return mapped(c + 0x20)
	case between(c, 0x400, 0x40F):
		return mapped(c + 0x50)
	case c == 0x130:
		return mapped(0x69, 0x307)
	case c == 0x149:
		return mapped(0x2BC, 0x6E)
	case c == 0x178:
		return mapped(0xFF)
	case c == 0x17F:
		return mapped(0x73)
	case !odd && c != 0x138 && (between(c, 0x100, 0x137) || between(c, 0x14A, 0x177)):
		return mapped(c + 1)
	case odd && (between(c, 0x139, 0x148) || between(c, 0x179, 0x17E)):
		return mapped(c + 1)
	case c == 0x3002, c == 0xFF0E, c == 0xFF61:
		return mapped(0x2E)
	case between(c, 0xFF01, 0xFF5E):
		if k, l := lines(c - 0xFEE0); k == fold.Mapped {
			return mapped(l...)
		}
		return mapped(c - 0xFEE0)
	case c == 0xAA:
		return mapped(0x61)
	case c == 0xBA:
		return mapped(0x6F)
	case c == 0xB2, c == 0xB3:
		return mapped(c - 0xB2 + 0x32)
	case c == 0xB9:
		return mapped(0x31)
	case between(c, 0x2460, 0x2468):
		return mapped(c - 0x2460 + 0x31)
	case c == 0x210E:
		return mapped(0x68)
	}
	return fold.Valid, nil
}

func TestEverySign(t *testing.T) {
	for c := -0x1000; c < 0x111000; c++ {
		kind, to := lines(c)
		alone(t, c, kind, to)
		if t.Failed() {
			return
		}
	}
}

// Where the document maps letters of two rows or of pairs, it does so as the tables of Unicode do.
func TestLettersAreThoseOfUnicode(t *testing.T) {
	apart := []int{0x130, 0x149, 0x17F}
	for _, span := range [][2]int{{0x21, 0x7F}, {0xC0, 0x17F}, {0x391, 0x3A9}, {0x400, 0x45F}} {
		for c := span[0]; c <= span[1]; c++ {
			if slices.Contains(apart, c) {
				continue
			}
			small := int(unicode.ToLower(rune(c)))
			if l, _, ok := fold.Map([]int{c}); !slices.Equal(l, []int{small}) || !ok {
				t.Errorf("P3.1: %x becomes %x, %v, not %x", c, l, ok, small)
			}
		}
	}
}

func TestWideOnesBecomeWhatPlainOnesDo(t *testing.T) {
	for c := 0xFF01; c <= 0xFF5E; c++ {
		plain, _, _ := fold.Map([]int{c - 0xFEE0})
		if l := fold.To(c); fold.Kind(c) != fold.Mapped || !slices.Equal(l, plain) {
			t.Errorf("P3.1: To(%x) = %x, not %x", c, l, plain)
		}
	}
}

func TestMap(t *testing.T) {
	for _, c := range []struct{ l, want []int }{
		{nil, nil},
		{[]int{}, nil},
		{make([]int, 0, 3), nil},
		{[]int{'A', 0xAD, 0xDF}, []int{'a', 0xDF}},
		{[]int{'a', 'b', 'c'}, []int{'a', 'b', 'c'}},
		{[]int{'B', 0xDC, 'C', 'h', 'E', 'r'}, []int{'b', 0xFC, 'c', 'h', 'e', 'r'}},
		{[]int{0xAD}, nil},
		{[]int{0xAD, 0x200B, 0x2060, 0xFE00, 0xFE0F, 0xFEFF}, nil},
		{[]int{0xAD, 'a', 0xFEFF, 'b', 0x200B}, []int{'a', 'b'}},
		{[]int{0x130}, []int{0x69, 0x307}},
		{[]int{0x130, 0x130, 0x149, 'X'}, []int{0x69, 0x307, 0x69, 0x307, 0x2BC, 0x6E, 'x'}},
		{[]int{'a', 0x3002, 'b', 0xFF0E, 'c', 0xFF61, 'd', '.'}, []int{'a', '.', 'b', '.', 'c', '.', 'd', '.'}},
		{[]int{0xFF21, 0xFF41, 0xFF11}, []int{'a', 'a', '1'}},
		{[]int{0x10000, 0xEFFFD, 0}, []int{0x10000, 0xEFFFD, 0}},
	} {
		if l, at, ok := fold.Map(c.l); !slices.Equal(l, c.want) || at != 0 || !ok {
			t.Errorf("P3.2: Map(%x) = %x, %d, %v", c.l, l, at, ok)
		}
	}
}

func TestMapTellsThePlaceOfTheFirstForbidden(t *testing.T) {
	for _, bad := range slices.Concat(noSigns, []int{0x80, 0xA0, 0xE000, 0xF8FF, 0xFDD0, 0xFFFE, 0x1FFFF, 0xF0000, 0x10FFFF}) {
		for _, c := range []struct {
			l  []int
			at int
		}{
			{[]int{bad}, 0},
			{[]int{bad, 'a'}, 0},
			{[]int{'a', bad}, 1},
			{[]int{'a', 'B', bad, 'c'}, 2},
			// The place is that in what is handed in: one that is left out counts, one that becomes two counts once.
			{[]int{0xAD, bad}, 1},
			{[]int{0xAD, 0xFEFF, 'a', bad, 'b'}, 3},
			{[]int{0x130, bad}, 1},
			{[]int{0x149, 0x130, 'a', bad}, 3},
			// The first of several.
			{[]int{bad, bad}, 0},
			{[]int{'a', bad, 'b', 0x80, -1}, 1},
			{[]int{'a', 0x80, bad}, 1},
		} {
			if l, at, ok := fold.Map(c.l); len(l) != 0 || at != c.at || ok {
				t.Errorf("P3.2: Map(%x) = %x, %d, %v", c.l, l, at, ok)
			}
		}
	}
}

// someSigns tells up to n signs, most of them of the bounds, none that is Forbidden unless forbidden says so.
func someSigns(r *rand.Rand, n int, forbidden bool) []int {
	var l []int
	for range r.Intn(n + 1) {
		b := becomes[r.Intn(len(becomes))]
		if b.kind != fold.Forbidden || forbidden && r.Intn(4) == 0 {
			l = append(l, b.sign)
		}
	}
	return l
}

func TestMapIsOfEachSignByItself(t *testing.T) {
	r := rand.New(rand.NewSource(31))
	for range 5000 {
		l := someSigns(r, 20, true)
		var want []int
		place, fine := 0, true
		for at, c := range l {
			kind, to := lines(c)
			if kind == fold.Forbidden {
				want, place, fine = nil, at, false
				break
			}
			if kind == fold.Valid {
				to = []int{c}
			}
			want = append(want, to...)
		}
		if x, at, ok := fold.Map(l); !slices.Equal(x, want) || at != place || ok != fine {
			t.Fatalf("P3.2: Map(%x) = %x, %d, %v, not %x, %d, %v", l, x, at, ok, want, place, fine)
		}
	}
}

func TestMapLeavesWhatItMadeAsItIs(t *testing.T) {
	again := func(l []int) {
		t.Helper()
		once, _, ok := fold.Map(l)
		if !ok {
			return
		}
		if twice, at, yes := fold.Map(once); !slices.Equal(once, twice) || at != 0 || !yes {
			t.Fatalf("P3.4: %x: %x, then %x, %d, %v", l, once, twice, at, yes)
		}
	}
	for c := range 0x110000 {
		again([]int{c})
		for _, x := range fold.To(c) {
			if fold.Kind(x) != fold.Valid {
				t.Fatalf("P3.4: %x becomes %x, which is of kind %d", c, x, fold.Kind(x))
			}
		}
	}
	r := rand.New(rand.NewSource(32))
	for range 3000 {
		again(someSigns(r, 30, false))
	}
}

func TestLongOnes(t *testing.T) {
	l := slices.Repeat([]int{'A', 0xAD, 0x130, 0xFF21}, 20*api.MaxItems)
	want := slices.Repeat([]int{'a', 0x69, 0x307, 'a'}, 20*api.MaxItems)
	if x, at, ok := fold.Map(l); !slices.Equal(x, want) || at != 0 || !ok {
		t.Errorf("P3.2: %d signs, %d, %v", len(x), at, ok)
	}
	if x, at, ok := fold.Map(append(l, 0x80)); len(x) != 0 || at != len(l) || ok {
		t.Errorf("P3.2: %d signs, %d, %v", len(x), at, ok)
	}
}

func TestHandedInIsNotChanged(t *testing.T) {
	whole := []int{'X', 'A', 0xAD, 0x130, 0x149, 0xFF21, 0x80, -1, 'B', 0xFEFF, 'Z'}
	before := slices.Clone(whole)
	for from := range whole {
		for to := from; to <= len(whole); to++ {
			fold.Map(whole[from:to])
			if !slices.Equal(whole, before) {
				t.Fatalf("P3.3: Map of %d to %d changed it to %x", from, to, whole)
			}
		}
	}
}

func TestBehindTheLengthIsNotRead(t *testing.T) {
	whole := []int{'A', 0x130, 0x80, -1}
	if l, at, ok := fold.Map(whole[:2]); !slices.Equal(l, []int{'a', 0x69, 0x307}) || at != 0 || !ok {
		t.Errorf("P3.3: %x, %d, %v", l, at, ok)
	}
	if l, at, ok := fold.Map(whole[:0]); len(l) != 0 || at != 0 || !ok {
		t.Errorf("P3.3: %x, %d, %v", l, at, ok)
	}
}

func TestHandedInIsNotKept(t *testing.T) {
	for _, given := range [][]int{{'a', 'b'}, {'A', 0xDF}, {0xAD, 'a'}, {0x130}} {
		l, _, _ := fold.Map(given)
		want := slices.Clone(l)
		for i := range given {
			given[i] = 0x20AC
		}
		if !slices.Equal(l, want) {
			t.Errorf("P3.3: %x became %x, once what was handed in was written into", want, l)
		}
		if l, _, ok := fold.Map(given); !slices.Equal(l, given) || !ok {
			t.Errorf("P3.3: an earlier argument was kept: %x", l)
		}
	}
}

// holdsApart spoils answers of one call in turn, their spare room too: those that are left, and later ones, must be as they were.
func holdsApart(t *testing.T, name string, call func() []int) {
	t.Helper()
	want := slices.Clone(call())
	answers := [][]int{call(), call()}
	for i, l := range answers {
		l = l[:cap(l)]
		for k := range l {
			l[k] = -7
		}
		answers = append(answers, call())
		for _, left := range answers[i+1:] {
			if !slices.Equal(left, want) {
				t.Errorf("P3.3: %s: %x, once another answer was written into", name, left)
			}
		}
	}
}

func TestAnsweredIsNewMemory(t *testing.T) {
	for _, b := range becomes {
		holdsApart(t, "To", func() []int { return fold.To(b.sign) })
	}
	for _, given := range [][]int{nil, {'a'}, {'a', 'b'}, {'A'}, {0xAD, 'a'}, {0xAD}, {0x130, 'x'}, {'a', 0x80}} {
		before := slices.Clone(given)
		holdsApart(t, "Map", func() []int { l, _, _ := fold.Map(given); return l })
		if !slices.Equal(given, before) {
			t.Errorf("P3.3: %x: writing into an answer changed what was handed in", given)
		}
	}
}
