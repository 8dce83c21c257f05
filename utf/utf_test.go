package utf_test

import (
	"bytes"
	"math"
	"math/rand"
	"slices"
	"strings"
	"testing"
	"unicode/utf8"

	"springhouse/api"
	"springhouse/utf"
)

const repair = 0xFFFD

// noSigns are numbers at and beside the bounds that are none, and some that would be one if they were cut to 32 bits or to 21.
var noSigns = []int{
	-1, -2, -0x80, -0xD800, -0x10FFFF, math.MinInt, math.MinInt + 'a', math.MinInt32, math.MinInt32 + 'a',
	0xD800, 0xD801, 0xDBFF, 0xDC00, 0xDFFE, 0xDFFF,
	0x110000, 0x110001, 0x1FFFFF, 0x200000, 0x200000 + 'a', math.MaxInt32, 1 << 32, 1<<32 + 'a', 1<<32 + 0x20AC, math.MaxInt,
}

// edgeSigns has the numbers at which the count of bytes, or what may stand behind the first, changes.
var edgeSigns = []struct {
	sign int
	want string
}{
	{0, "\x00"},
	{1, "\x01"},
	{'a', "a"},
	{0x7E, "\x7E"},
	{0x7F, "\x7F"},
	{0x80, "\xC2\x80"},
	{0x81, "\xC2\x81"},
	{0xBF, "\xC2\xBF"},
	{0xC0, "\xC3\x80"},
	{0xFF, "\xC3\xBF"},
	{0x7FE, "\xDF\xBE"},
	{0x7FF, "\xDF\xBF"},
	{0x800, "\xE0\xA0\x80"},
	{0x801, "\xE0\xA0\x81"},
	{0xFFF, "\xE0\xBF\xBF"},
	{0x1000, "\xE1\x80\x80"},
	{0x20AC, "\xE2\x82\xAC"},
	{0xCFFF, "\xEC\xBF\xBF"},
	{0xD000, "\xED\x80\x80"},
	{0xD7FE, "\xED\x9F\xBE"},
	{0xD7FF, "\xED\x9F\xBF"},
	{0xE000, "\xEE\x80\x80"},
	{0xE001, "\xEE\x80\x81"},
	{0xFEFF, "\xEF\xBB\xBF"},
	{0xFFFD, "\xEF\xBF\xBD"},
	{0xFFFE, "\xEF\xBF\xBE"},
	{0xFFFF, "\xEF\xBF\xBF"},
	{0x10000, "\xF0\x90\x80\x80"},
	{0x10001, "\xF0\x90\x80\x81"},
	{0x1F600, "\xF0\x9F\x98\x80"},
	{0x3FFFF, "\xF0\xBF\xBF\xBF"},
	{0x40000, "\xF1\x80\x80\x80"},
	{0xFFFFF, "\xF3\xBF\xBF\xBF"},
	{0x100000, "\xF4\x80\x80\x80"},
	{0x10FFFE, "\xF4\x8F\xBF\xBE"},
	{0x10FFFF, "\xF4\x8F\xBF\xBF"},
}

func TestScalar(t *testing.T) {
	for c := -0x1000; c < 0x120000; c++ {
		if want := c >= 0 && c <= 0x10FFFF && !(c >= 0xD800 && c <= 0xDFFF); utf.Scalar(c) != want {
			t.Errorf("P2.1: Scalar(%x) = %v", c, !want)
		}
	}
	for _, c := range noSigns {
		if utf.Scalar(c) {
			t.Errorf("P2.1: Scalar(%x)", c)
		}
	}
	for _, c := range edgeSigns {
		if !utf.Scalar(c.sign) {
			t.Errorf("P2.1: not Scalar(%x)", c.sign)
		}
	}
}

func TestOneSign(t *testing.T) {
	for _, c := range edgeSigns {
		l := []int{c.sign}
		if b, e := utf.Encode(l); string(b) != c.want || e != api.OK {
			t.Errorf("P2.1: Encode(%x) = % x, %d", c.sign, b, e)
		}
		if s := utf.Text(l); s != c.want {
			t.Errorf("P2.1: Text(%x) = % x", c.sign, s)
		}
		if x, at, e := utf.Decode([]byte(c.want)); !slices.Equal(x, l) || at != 0 || e != api.OK {
			t.Errorf("P2.2: Decode(% x) = %x, %d, %d", c.want, x, at, e)
		}
		if x := utf.Lossy([]byte(c.want)); !slices.Equal(x, l) {
			t.Errorf("P2.2: Lossy(% x) = %x", c.want, x)
		}
	}
}

func TestEverySign(t *testing.T) {
	for c := range 0x110000 {
		if !utf8.ValidRune(rune(c)) {
			continue
		}
		l, want := []int{c}, string(rune(c))
		b, e := utf.Encode(l)
		if string(b) != want || e != api.OK || utf.Text(l) != want {
			t.Fatalf("P2.1: Encode(%x) = % x, %d, Text %q", c, b, e, utf.Text(l))
		}
		x, at, e := utf.Decode(b)
		if !slices.Equal(x, l) || at != 0 || e != api.OK || !slices.Equal(utf.Lossy(b), l) {
			t.Fatalf("P2.2, P2.4: Decode(% x) = %x, %d, %d, Lossy %x", b, x, at, e, utf.Lossy(b))
		}
	}
}

func TestManySigns(t *testing.T) {
	var l []int
	var want strings.Builder
	for _, c := range edgeSigns {
		l = append(l, c.sign)
		want.WriteString(c.want)
	}
	b, e := utf.Encode(l)
	if string(b) != want.String() || e != api.OK || utf.Text(l) != want.String() {
		t.Errorf("P2.1: Encode: % x, %d, Text % x", b, e, utf.Text(l))
	}
	x, at, e := utf.Decode(b)
	if !slices.Equal(x, l) || at != 0 || e != api.OK || !slices.Equal(utf.Lossy(b), l) {
		t.Errorf("P2.2: Decode: %x, %d, %d, Lossy %x", x, at, e, utf.Lossy(b))
	}
}

func TestNoSigns(t *testing.T) {
	for _, c := range noSigns {
		for _, l := range [][]int{{c}, {c, 'a'}, {'a', c}, {'a', c, 'b'}, {c, c}, {0x1F600, 0x20AC, c}} {
			if b, e := utf.Encode(l); b != nil || e != api.ErrRange {
				t.Errorf("P2.1: Encode(%x) = % x, %d", l, b, e)
			}
		}
		for _, x := range []struct {
			l    []int
			want string
		}{
			{[]int{c}, "\xEF\xBF\xBD"},
			{[]int{c, c}, "\xEF\xBF\xBD\xEF\xBF\xBD"},
			{[]int{'a', c, 'b'}, "a\xEF\xBF\xBDb"},
			{[]int{c, 0x20AC, c}, "\xEF\xBF\xBD\xE2\x82\xAC\xEF\xBF\xBD"},
		} {
			if s := utf.Text(x.l); s != x.want {
				t.Errorf("P2.1: Text(%x) = % x", x.l, s)
			}
		}
	}
	// Both halves of a pair are none each, and no sign together.
	if s := utf.Text([]int{0xD83D, 0xDE00}); s != "\uFFFD\uFFFD" {
		t.Errorf("P2.1: Text of a pair = % x", s)
	}
}

func TestOfNothing(t *testing.T) {
	for _, l := range [][]int{nil, {}, make([]int, 0, 3)} {
		if b, e := utf.Encode(l); len(b) != 0 || e != api.OK || utf.Text(l) != "" {
			t.Errorf("P2.1: % x, %d, %q", b, e, utf.Text(l))
		}
	}
	for _, b := range [][]byte{nil, {}, make([]byte, 0, 3)} {
		if l, at, e := utf.Decode(b); len(l) != 0 || at != 0 || e != api.OK || len(utf.Lossy(b)) != 0 {
			t.Errorf("P2.2: %x, %d, %d, %x", l, at, e, utf.Lossy(b))
		}
	}
}

func TestFaults(t *testing.T) {
	const x = repair
	for _, c := range []struct {
		s    string
		at   int
		want []int
	}{
		// A byte that begins none.
		{"\x80", 0, []int{x}},
		{"\xBF", 0, []int{x}},
		{"\xC0", 0, []int{x}},
		{"\xC1", 0, []int{x}},
		{"\xF5", 0, []int{x}},
		{"\xF8", 0, []int{x}},
		{"\xFE", 0, []int{x}},
		{"\xFF", 0, []int{x}},
		{"\x80\xBF", 0, []int{x, x}},
		{"a\x80b", 1, []int{'a', x, 'b'}},
		{"\xC2\x80\x80", 2, []int{0x80, x}},
		{"\xE2\x82\xAC\x80", 3, []int{0x20AC, x}},
		{"\xF0\x9F\x98\x80\x80", 4, []int{0x1F600, x}},
		// One whose later bytes lack at the end.
		{"\xC2", 0, []int{x}},
		{"\xDF", 0, []int{x}},
		{"\xE0", 0, []int{x}},
		{"\xE0\xA0", 0, []int{x}},
		{"\xE2\x82", 0, []int{x}},
		{"\xED\x9F", 0, []int{x}},
		{"\xEF\xBF", 0, []int{x}},
		{"\xF0", 0, []int{x}},
		{"\xF0\x90", 0, []int{x}},
		{"\xF0\x9F\x98", 0, []int{x}},
		{"\xF4\x8F\xBF", 0, []int{x}},
		{"a\xC2", 1, []int{'a', x}},
		{"\xE2\x82\xAC\xE2\x82", 3, []int{0x20AC, x}},
		{"\xE2\x82\xACx\xF0\x9F\x98", 4, []int{0x20AC, 'x', x}},
		// One whose later bytes are wrong.
		{"\xC2a", 0, []int{x, 'a'}},
		{"\xC2\x7F", 0, []int{x, 0x7F}},
		{"\xC2\xC0", 0, []int{x, x}},
		{"\xC2\xC2\x80", 0, []int{x, 0x80}},
		{"\xE2A", 0, []int{x, 'A'}},
		{"\xE2\x82A", 0, []int{x, 'A'}},
		{"\xE2\x82\xE2\x82\xAC", 0, []int{x, 0x20AC}},
		{"\xE2\x82\xFF", 0, []int{x, x}},
		{"\xF1A", 0, []int{x, 'A'}},
		{"\xF1\x80A", 0, []int{x, 'A'}},
		{"\xF1\x80\x80A", 0, []int{x, 'A'}},
		{"\xF1\x80\x80\xF1\x80\x80\x80", 0, []int{x, 0x40000}},
		{"ab\xE2\x82A", 2, []int{'a', 'b', x, 'A'}},
		// Bounds behind E0, ED, F0 and F4: what they shut out begins anew, and begins none.
		{"\xE0\x80\x80", 0, []int{x, x, x}},
		{"\xE0\x9F\xBF", 0, []int{x, x, x}},
		{"\xE0\xA0\x7F", 0, []int{x, 0x7F}},
		{"\xE0\xA0\xC0", 0, []int{x, x}},
		{"\xE0\xC0\x80", 0, []int{x, x, x}},
		{"\xED\xA0\x80", 0, []int{x, x, x}},
		{"\xED\xBF\xBF", 0, []int{x, x, x}},
		{"\xED\x7F\x80", 0, []int{x, 0x7F, x}},
		{"\xED\xA0\xBD\xED\xB8\x80", 0, []int{x, x, x, x, x, x}},
		{"\xF0\x80", 0, []int{x, x}},
		{"\xF0\x80\x80\x80", 0, []int{x, x, x, x}},
		{"\xF0\x8F\xBF\xBF", 0, []int{x, x, x, x}},
		{"\xF0\x90\x7F\x80", 0, []int{x, 0x7F, x}},
		{"\xF0\x90\x80\xC0", 0, []int{x, x}},
		{"\xF4\x90\x80\x80", 0, []int{x, x, x, x}},
		{"\xF4\xBF\xBF\xBF", 0, []int{x, x, x, x}},
		{"\xF4\x8F\xBF\xC0", 0, []int{x, x}},
		{"\xF5\x80\x80\x80", 0, []int{x, x, x, x}},
		{"\xF7\xBF\xBF\xBF", 0, []int{x, x, x, x}},
		{"\xF8\x88\x80\x80\x80", 0, []int{x, x, x, x, x}},
		// More bytes than it needs.
		{"\xC0\x80", 0, []int{x, x}},
		{"\xC1\xBF", 0, []int{x, x}},
		{"\xC0\xAF", 0, []int{x, x}},
		{"a\xC0\x80", 1, []int{'a', x, x}},
		// The first fault is told, not a later one.
		{"a\xFFb\xFF", 1, []int{'a', x, 'b', x}},
		{"\xE1\x80\xE1\x80\x80", 0, []int{x, 0x1000}},
		// A sign that stands for a repair is one itself; what comes behind it is the fault.
		{"\xEF\xBF\xBD\xFF", 3, []int{x, x}},
	} {
		if l, at, e := utf.Decode([]byte(c.s)); l != nil || at != c.at || e != api.ErrForm {
			t.Errorf("P2.2: Decode(% x) = %x, %d, %d", c.s, l, at, e)
		}
		if l := utf.Lossy([]byte(c.s)); !slices.Equal(l, c.want) {
			t.Errorf("P2.2: Lossy(% x) = %x", c.s, l)
		}
	}
}

// whatwg is the decoder of WHATWG's Encoding Standard, kept in its own words: a state that each byte moves on.
// It tells the signs too, and where the first that is none began, or -1.
func whatwg(b []byte) (signs []int, fault int) {
	var point, seen, needed, began int
	lower, upper := byte(0x80), byte(0xBF)
	fault = -1
	fail := func() {
		signs = append(signs, repair)
		if fault < 0 {
			fault = began
		}
	}
	for i := 0; i < len(b); i++ {
		c := b[i]
		if needed == 0 {
			began = i
			switch {
			case c <= 0x7F:
				signs = append(signs, int(c))
			case 0xC2 <= c && c <= 0xDF:
				needed, point = 1, int(c&0x1F)
			case 0xE0 <= c && c <= 0xEF:
				if c == 0xE0 {
					lower = 0xA0
				}
				if c == 0xED {
					upper = 0x9F
				}
				needed, point = 2, int(c&0xF)
			case 0xF0 <= c && c <= 0xF4:
				if c == 0xF0 {
					lower = 0x90
				}
				if c == 0xF4 {
					upper = 0x8F
				}
				needed, point = 3, int(c&0x7)
			default:
				fail()
			}
			continue
		}
		inside := lower <= c && c <= upper
		lower, upper = 0x80, 0xBF
		if !inside {
			point, seen, needed = 0, 0, 0
			fail()
			i--
			continue
		}
		point = point*64 + int(c-0x80)
		seen++
		if seen == needed {
			signs = append(signs, point)
			point, seen, needed = 0, 0, 0
		}
	}
	if needed > 0 {
		fail()
	}
	return signs, fault
}

// holds tells whether all that chapter 2 says of b's signs is so.
func holds(b []byte) bool {
	want, fault := whatwg(b)
	l, at, e := utf.Decode(b)
	lossy := utf.Lossy(b)
	if !slices.Equal(lossy, want) {
		return false
	}
	back, f := utf.Encode(lossy)
	if f != api.OK || utf.Text(lossy) != string(back) {
		return false
	}
	if fault >= 0 {
		return l == nil && at == fault && e == api.ErrForm && !utf8.Valid(b)
	}
	return slices.Equal(l, want) && at == 0 && e == api.OK && bytes.Equal(back, b) && utf8.Valid(b)
}

func TestEveryByteAndPair(t *testing.T) {
	for first := range 256 {
		if b := []byte{byte(first)}; !holds(b) {
			t.Errorf("P2.2: % x", b)
		}
		for second := range 256 {
			for _, b := range [][]byte{
				{byte(first), byte(second)},
				{byte(first), byte(second), 0x80},
				{byte(first), byte(second), 0x80, 0xBF},
				{byte(first), byte(second), 0xBF, 'a'},
				{'a', byte(first), byte(second), 'b'},
			} {
				if !holds(b) {
					t.Errorf("P2.2: % x", b)
				}
			}
		}
	}
}

// edgeBytes are those at and beside the bounds of what may begin a sign, or stand behind its first byte.
var edgeBytes = []byte{
	0x00, 0x41, 0x7F, 0x80, 0x8F, 0x90, 0x9F, 0xA0, 0xBF, 0xC0, 0xC1, 0xC2, 0xDF,
	0xE0, 0xE1, 0xEC, 0xED, 0xEE, 0xEF, 0xF0, 0xF1, 0xF3, 0xF4, 0xF5, 0xFF,
}

func TestEveryFourEdgeBytes(t *testing.T) {
	b := make([]byte, 4)
	for _, b[0] = range edgeBytes {
		for _, b[1] = range edgeBytes {
			for _, b[2] = range edgeBytes {
				for _, b[3] = range edgeBytes {
					if !holds(b) || !holds(b[:3]) {
						t.Fatalf("P2.2, P2.4: % x", b)
					}
				}
			}
		}
	}
}

func TestDecodeOfEncodeIsTheSigns(t *testing.T) {
	r := rand.New(rand.NewSource(21))
	for range 3000 {
		l := make([]int, r.Intn(12))
		for i := range l {
			l[i] = edgeSigns[r.Intn(len(edgeSigns))].sign
		}
		b, e := utf.Encode(l)
		x, at, f := utf.Decode(b)
		if e != api.OK || f != api.OK || at != 0 || !slices.Equal(x, l) || !slices.Equal(utf.Lossy(b), l) || utf.Text(l) != string(b) {
			t.Fatalf("P2.4: %x: % x, %x", l, b, x)
		}
	}
}

func TestLossyCanBeEncoded(t *testing.T) {
	r := rand.New(rand.NewSource(22))
	for range 20000 {
		b := make([]byte, r.Intn(16))
		for i := range b {
			b[i] = edgeBytes[r.Intn(len(edgeBytes))]
			if r.Intn(3) == 0 {
				b[i] = byte(r.Intn(256))
			}
		}
		if !holds(b) {
			t.Fatalf("P2.2, P2.4: % x", b)
		}
	}
}

func TestLongOnes(t *testing.T) {
	l := slices.Repeat([]int{'a', 0xE9, 0x20AC, 0x1F600}, 20*api.MaxItems)
	b, e := utf.Encode(l)
	if e != api.OK || len(b) != 20*api.MaxItems*10 || !holds(b) {
		t.Errorf("P2.4: %d bytes, %d", len(b), e)
	}
	whole := len(b)
	b = append(b, 0xE2, 0x82)
	if x, at, e := utf.Decode(b); x != nil || at != whole || e != api.ErrForm {
		t.Errorf("P2.2: %d signs, %d, %d", len(x), at, e)
	}
	if !holds(bytes.Repeat([]byte{0xF0}, api.MaxBody)) {
		t.Error("P2.2: many that begin a sign and end none")
	}
}

func TestHandedInIsNotChanged(t *testing.T) {
	signs := []int{'x', 'a', 0x20AC, -1, 0x110000, 0xD800, 'b', 'y', 'z'}
	signsBefore := slices.Clone(signs)
	utf.Encode(signs[1:7])
	utf.Encode(signs[1:3])
	utf.Text(signs[1:7])
	for _, c := range signs {
		utf.Scalar(c)
	}
	if !slices.Equal(signs, signsBefore) {
		t.Errorf("P2.3: %x", signs)
	}
	whole := []byte("x\xE2\x82\xACab\xF0\x9F\xFFcd\xE2\x82\xAC")
	before := bytes.Clone(whole)
	for from := range whole {
		for to := from; to <= len(whole); to++ {
			utf.Decode(whole[from:to])
			utf.Lossy(whole[from:to])
		}
	}
	if !bytes.Equal(whole, before) {
		t.Errorf("P2.3: % x", whole)
	}
}

func TestBehindTheLengthIsNotRead(t *testing.T) {
	whole := []byte("a\xF0\x9F\x98\x80")
	for n := 2; n < len(whole); n++ {
		if l, at, e := utf.Decode(whole[:n]); l != nil || at != 1 || e != api.ErrForm {
			t.Errorf("P2.3: Decode of %d bytes: %x, %d, %d", n, l, at, e)
		}
		if l := utf.Lossy(whole[:n]); !slices.Equal(l, []int{'a', repair}) {
			t.Errorf("P2.3: Lossy of %d bytes: %x", n, l)
		}
	}
	signs := []int{'a', 'b', -1}
	if b, e := utf.Encode(signs[:2]); string(b) != "ab" || e != api.OK || utf.Text(signs[:2]) != "ab" {
		t.Errorf("P2.3: % x, %d, %q", b, e, utf.Text(signs[:2]))
	}
}

func TestHandedInIsNotKept(t *testing.T) {
	signs := []int{'a', 0x20AC}
	b, _ := utf.Encode(signs)
	s := utf.Text(signs)
	clear(signs)
	if string(b) != "a€" || s != "a€" || utf.Text(signs) != "\x00\x00" {
		t.Errorf("P2.3: % x, %q, %q", b, s, utf.Text(signs))
	}
	given := []byte("a€")
	strict, _, _ := utf.Decode(given)
	lossy := utf.Lossy(given)
	clear(given)
	if want := []int{'a', 0x20AC}; !slices.Equal(strict, want) || !slices.Equal(lossy, want) {
		t.Errorf("P2.3: %x, %x", strict, lossy)
	}
	if l := utf.Lossy(given); !slices.Equal(l, []int{0, 0, 0, 0}) {
		t.Errorf("P2.3: an earlier argument was kept: %x", l)
	}
}

// holdsApart spoils answers of one call in turn, their spare room too: those that are left, and later ones, must be as they were.
func holdsApart[E comparable](t *testing.T, name string, call func() []E, spoilt E, want []E) {
	t.Helper()
	answers := [][]E{call(), call()}
	for i, l := range answers {
		l = l[:cap(l)]
		for k := range l {
			l[k] = spoilt
		}
		answers = append(answers, call())
		for _, left := range answers[i+1:] {
			if !slices.Equal(left, want) {
				t.Errorf("P2.3: %s: %v, once another answer was written into", name, left)
			}
		}
	}
}

func TestAnsweredIsNewMemory(t *testing.T) {
	for _, text := range []string{"", "a", "ab", "é", "a€😀", strings.Repeat("é€", 50)} {
		var signs []int
		for _, c := range text {
			signs = append(signs, int(c))
		}
		given := []byte(text)
		holdsApart(t, "Encode", func() []byte { b, _ := utf.Encode(signs); return b }, 0xEE, []byte(text))
		holdsApart(t, "Decode", func() []int { l, _, _ := utf.Decode(given); return l }, -7, slices.Clone(signs))
		holdsApart(t, "Lossy", func() []int { return utf.Lossy(given) }, -7, slices.Clone(signs))
		if string(given) != text {
			t.Errorf("P2.3: % x: writing into an answer changed what was handed in", given)
		}
	}
	wrong := []byte("\xFFa\xE2")
	holdsApart(t, "Lossy", func() []int { return utf.Lossy(wrong) }, -7, []int{repair, 'a', repair})
}
