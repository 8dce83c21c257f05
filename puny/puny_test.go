package puny_test

import (
	"math"
	"math/big"
	"math/rand"
	"slices"
	"strings"
	"testing"

	"springhouse/api"
	"springhouse/puny"
	"springhouse/utf"
)

// samples are those of RFC 3492 (7.1, in its order), and short ones; their digits are small.
var samples = []struct{ signs, text string }{
	{"ليهمابتكلموشعربي؟", "egbpdaj6bu4bxfgehfvwxn"},
	{"他们为什么不说中文", "ihqwcrb4cv8a8dqg056pqjye"},
	{"他們爲什麽不說中文", "ihqwctvzc91f659drss3x8bo0yb"},
	{"Pročprostěnemluvíčesky", "Proprostnemluvesky-uyb24dma41a"},
	{"למההםפשוטלאמדבריםעברית", "4dbcagdahymbxekheh6e0a7fei0b"},
	{"यहलोगहिन्दीक्योंनहींबोलसकतेहैं", "i1baa7eci9glrd9b2ae1bj0hfcgg6iyaf8o0a1dig0cd"},
	{"なぜみんな日本語を話してくれないのか", "n8jok5ay5dzabd5bym9f0cm5685rrjetr6pdxa"},
	{"세계의모든사람들이한국어를이해한다면얼마나좋을까", "989aomsvi5e83db1d2a355cv1e0vak1dwrv93d5xbh15a0dt30a5jpsd879ccm6fea98c"},
	{"почемужеонинеговорятпорусски", "b1abfaaepdrnnbgefbadotcwatmq2g4l"},
	{"PorquénopuedensimplementehablarenEspañol", "PorqunopuedensimplementehablarenEspaol-fmd56a"},
	{"TạisaohọkhôngthểchỉnóitiếngViệt", "TisaohkhngthchnitingVit-kjcr8268qyxafd2f1b9g"},
	{"3年B組金八先生", "3B-ww4c5e180e575a65lsy2b"},
	{"安室奈美恵-with-SUPER-MONKEYS", "-with-SUPER-MONKEYS-pc58ag80a8qai00g7n9n"},
	{"Hello-Another-Way-それぞれの場所", "Hello-Another-Way--fc4qua05auwb3674vfr0b"},
	{"ひとつ屋根の下2", "2-u9tlzr9756bt3uc0v"},
	{"MajiでKoiする5秒前", "MajiKoi5-783gue6qz075azm5e"},
	{"パフィーdeルンバ", "de-jg4avhby1noc0d"},
	{"そのスピードで", "d9juau41awczczp"},
	{"-> $1.00 <-", "-> $1.00 <--"},

	{"", ""},
	{"a", "a-"},
	{"A", "A-"},
	{"-", "--"},
	{"--", "---"},
	{"a-b", "a-b-"},
	{"a-", "a--"},
	{"-a", "-a-"},
	{"\x00", "\x00-"},
	{"\x7F", "\x7F-"},
	{"\u0080", "a"},
	{"\u0080\u0080\u0080", "aaa"},
	{"ü", "tda"},
	{"bücher", "bcher-kva"},
	{"Bücher", "Bcher-kva"},
	{"-ü", "--eha"},
	{"ü-", "--dha"},
	{"éé", "9caa"},
	{"aé", "a-bga"},
}

// noSigns are numbers that are no sign; some would be one if they were cut to 32 bits or to 21.
var noSigns = []int{
	-1, -'a', -0x80, -0xFC, math.MinInt, math.MinInt + 'a', math.MinInt32, math.MinInt32 + 0xFC,
	0xD800, 0xD801, 0xDBFF, 0xDC00, 0xDFFE, 0xDFFF,
	0x110000, 0x110001, 0x200000 + 'a', 0x200000 + 0xFC, math.MaxInt32, 1 << 31, 1 << 32, 1<<32 + 'a', 1<<32 + 0xFC, math.MaxInt - 1, math.MaxInt,
}

// edgeSigns stand at and beside the bounds of what is a sign, and of what is told by a delta.
var edgeSigns = []int{0, 1, '-', 0x7E, 0x7F, 0x80, 0x81, 0xFF, 0x100, 0xD7FE, 0xD7FF, 0xE000, 0xE001, 0xFFFD, 0xFFFE, 0xFFFF, 0x10000, 0x10FFFE, 0x10FFFF}

func signs(s string) []int {
	var l []int
	for _, c := range s {
		l = append(l, int(c))
	}
	return l
}

// encodes wants that Encode of l is want.
func encodes(t *testing.T, l []int, want string) {
	t.Helper()
	if s, e := puny.Encode(l); s != want || e != api.OK {
		t.Errorf("P4.1: Encode(%x) = %q, %d, not %q", l, s, e, want)
	}
}

// decodes wants that Decode of s is want.
func decodes(t *testing.T, s string, want []int) {
	t.Helper()
	if l, e := puny.Decode(s); !slices.Equal(l, want) || e != api.OK {
		t.Errorf("P4.2: Decode(%q) = %x, %d, not %x", s, l, e, want)
	}
}

// refuses wants that Decode of s is the error want, and nothing beside it.
func refuses(t *testing.T, s string, want api.Errno) {
	t.Helper()
	if l, e := puny.Decode(s); len(l) != 0 || e != want {
		t.Errorf("P4.2: Decode(%.40q) (%d bytes) = %x, %d, not %d", s, len(s), l, e, want)
	}
}

// returns wants that l comes back.
func returns(t *testing.T, l []int) {
	t.Helper()
	s, e := puny.Encode(l)
	if e != api.OK {
		t.Fatalf("P4.1: Encode(%x) = %q, %d", l, s, e)
	}
	if m, f := puny.Decode(s); !slices.Equal(l, m) || f != api.OK {
		t.Fatalf("P4.4: %x became %q, and that %x, %d", l, s, m, f)
	}
}

// What follows, up to wanted, is RFC 3492 once more, by numbers without bounds and by its own words.

const digitLetters = "abcdefghijklmnopqrstuvwxyz0123456789"

func limitAt(k, bias int64) int64 {
	switch {
	case k <= bias+1:
		return 1
	case k >= bias+26:
		return 26
	}
	return k - bias
}

func nextBias(delta *big.Int, points int64, first bool) int64 {
	by := int64(2)
	if first {
		by = 700
	}
	d := new(big.Int).Div(delta, big.NewInt(by))
	d.Add(d, new(big.Int).Div(d, big.NewInt(points)))
	k := int64(0)
	for ; d.Cmp(big.NewInt(455)) > 0; k += 36 {
		d.Div(d, big.NewInt(35))
	}
	return k + 36*d.Int64()/(d.Int64()+38)
}

// written tells deltas by digits; present signs stand already.
func written(present int, deltas ...*big.Int) string {
	var out []byte
	bias := int64(72)
	for i, delta := range deltas {
		q := new(big.Int).Set(delta)
		for k := int64(36); ; k += 36 {
			t := limitAt(k, bias)
			if q.Cmp(big.NewInt(t)) < 0 {
				break
			}
			_, rest := q.DivMod(q.Sub(q, big.NewInt(t)), big.NewInt(36-t), new(big.Int))
			out = append(out, digitLetters[t+rest.Int64()])
		}
		out = append(out, digitLetters[q.Int64()])
		bias = nextBias(delta, int64(present+i+1), i == 0)
	}
	return string(out)
}

// wantedText tells what l is by states: a sign and a place; a delta is how many states lie between two that insert.
// It asks not whether l's are signs.
func wantedText(l []int) string {
	var plain string
	var order []int
	for p, c := range l {
		if c < 0x80 {
			plain += string(rune(c))
		} else {
			order = append(order, p)
		}
	}
	slices.SortStableFunc(order, func(p, q int) int { return l[p] - l[q] })
	sign, place := 0x80, 0
	var deltas []*big.Int
	for i, p := range order {
		ahead := 0
		for q, c := range l {
			if q < p && c <= l[p] {
				ahead++
			}
		}
		steps := (l[p]-sign)*(len(plain)+i+1) + ahead - place
		deltas = append(deltas, big.NewInt(int64(steps)))
		sign, place = l[p], ahead+1
	}
	digits := written(len(plain), deltas...)
	if plain != "" {
		plain += "-"
	}
	return plain + digits
}

// wanted tells what s is, or false.
func wanted(s string) ([]int, bool) {
	var out []int
	digits := s
	for i := 1; i < len(s); i++ {
		if s[i] == '-' {
			out, digits = nil, s[i+1:]
			for _, c := range []byte(s[:i]) {
				if c > 0x7F {
					return nil, false
				}
				out = append(out, int(c))
			}
		}
	}
	most := big.NewInt(1<<31 - 1)
	n, bias := big.NewInt(0x80), int64(72)
	i := new(big.Int)
	for first := true; digits != ""; first = false {
		from, w := new(big.Int).Set(i), big.NewInt(1)
		for k := int64(36); ; k += 36 {
			if digits == "" {
				return nil, false
			}
			d := int64(strings.Index(digitLetters, strings.ToLower(digits[:1])))
			digits = digits[1:]
			if d < 0 || w.Cmp(most) > 0 {
				return nil, false
			}
			i.Add(i, new(big.Int).Mul(w, big.NewInt(d)))
			if i.Cmp(most) > 0 {
				return nil, false
			}
			t := limitAt(k, bias)
			if d < t {
				break
			}
			w.Mul(w, big.NewInt(36-t))
		}
		points := int64(len(out) + 1)
		bias = nextBias(new(big.Int).Sub(i, from), points, first)
		over, place := new(big.Int).DivMod(i, big.NewInt(points), new(big.Int))
		n.Add(n, over)
		if !utf.Scalar(int(n.Int64())) {
			return nil, false
		}
		out = slices.Insert(out, int(place.Int64()), int(n.Int64()))
		i.Add(place, big.NewInt(1))
	}
	return out, len(out) <= 256
}

// asWanted holds Decode of s, of at most MaxText bytes, against wanted.
func asWanted(t *testing.T, s string) {
	t.Helper()
	if want, fine := wanted(s); fine {
		decodes(t, s, want)
	} else {
		refuses(t, s, api.ErrForm)
	}
}

func TestSamples(t *testing.T) {
	for _, c := range samples {
		encodes(t, signs(c.signs), c.text)
		decodes(t, c.text, signs(c.signs))
		if s := wantedText(signs(c.signs)); s != c.text {
			t.Errorf("the test itself: %q, not %q", s, c.text)
		}
	}
}

func TestNothing(t *testing.T) {
	for _, l := range [][]int{nil, {}, make([]int, 0, 3)} {
		encodes(t, l, "")
	}
	decodes(t, "", nil)
}

func TestEverySignAlone(t *testing.T) {
	for c := range 0x110000 {
		if !utf.Scalar(c) {
			continue
		}
		returns(t, []int{c})
		if c < 0x800 || c%251 == 0 || slices.Contains(edgeSigns, c) {
			encodes(t, []int{c}, wantedText([]int{c}))
			encodes(t, []int{'x', c, 'y'}, wantedText([]int{'x', c, 'y'}))
		}
		if t.Failed() {
			return
		}
	}
}

func TestEdgeSignsTogether(t *testing.T) {
	for _, a := range edgeSigns {
		for _, b := range edgeSigns {
			for _, c := range edgeSigns {
				l := []int{a, b, c}
				encodes(t, l, wantedText(l))
				returns(t, l)
			}
		}
	}
}

func TestEncodeKeepsPlainSignsAsTheyAre(t *testing.T) {
	var all []int
	for c := range 0x80 {
		all = append(all, c)
	}
	want := make([]byte, 0x81)
	for c := range 0x80 {
		want[c] = byte(c)
	}
	want[0x80] = '-'
	encodes(t, all, string(want))
	slices.Reverse(all)
	slices.Reverse(want[:0x80])
	encodes(t, all, string(want))
}

func TestEncodeOfWhatIsNoSign(t *testing.T) {
	for _, bad := range noSigns {
		for _, l := range [][]int{{bad}, {bad, 'a'}, {'a', bad}, {0xFC, bad}, {bad, 0xFC}, {'a', 0xFC, bad, 'b', 0x20AC}, {bad, bad}} {
			if s, e := puny.Encode(l); s != "" || e != api.ErrRange {
				t.Errorf("P4.1: Encode(%x) = %q, %d", l, s, e)
			}
		}
	}
}

func TestEncodeOfTheMost(t *testing.T) {
	for _, c := range edgeSigns {
		for n := api.MaxItems - 1; n <= api.MaxItems; n++ {
			l := slices.Repeat([]int{c}, n)
			encodes(t, l, wantedText(l))
			returns(t, l)
		}
	}
	for _, n := range []int{api.MaxItems + 1, api.MaxItems + 2, 2 * api.MaxItems, 100 * api.MaxItems} {
		for _, c := range append(edgeSigns, noSigns...) {
			l := slices.Repeat([]int{c}, n)
			if s, e := puny.Encode(l); s != "" || e != api.ErrLimit {
				t.Errorf("P4.1: Encode of %d times %x = %.20q, %d", n, c, s, e)
			}
		}
		l := slices.Repeat([]int{'a'}, n)
		l[n-1] = -1
		if s, e := puny.Encode(l); s != "" || e != api.ErrLimit {
			t.Errorf("P4.1: ErrLimit is named ahead of ErrRange: %d signs, the last wrong: %.20q, %d", n, s, e)
		}
	}
	l := slices.Repeat([]int{'a'}, api.MaxItems)
	l[api.MaxItems-1] = 0x110000
	if s, e := puny.Encode(l); s != "" || e != api.ErrRange {
		t.Errorf("P4.1: the last of the most is no sign: %.20q, %d", s, e)
	}
}

func TestWhereDigitsBegin(t *testing.T) {
	for s, want := range map[string][]int{
		// No mark.
		"tda": {0xFC}, "a": {0x80}, "9caa": {0xE9, 0xE9},
		// At the end.
		"tda-": {'t', 'd', 'a'}, "a-": {'a'}, "0-": {'0'}, "!-": {'!'}, "a--": {'a', '-'}, "--": {'-'}, "---": {'-', '-'}, "-a-": {'-', 'a'},
		// Several: the last counts.
		"a-tda": {0xBE, 'a'}, "--eha": {'-', 0xFC}, "a-b-bga": {'a', '-', 'b', 0xB4}, "--a": {0x80, '-'}, "---a": {0x80, '-', '-'}, "-x-a": {0x80, '-', 'x'}, "a--a": {0x80, 'a', '-'},
	} {
		decodes(t, s, want)
	}
	// At the front alone it is none, and no digit either.
	for _, s := range []string{"-", "-a", "-tda", "-abc", "-kva", "-9caa"} {
		refuses(t, s, api.ErrForm)
	}
}

// inCases tells s with its letters small, great, and by turns.
func inCases(s string) []string {
	turns := []byte(s)
	for i := range turns {
		if i%2 == 0 {
			turns[i] = strings.ToUpper(s[i : i+1])[0]
		}
	}
	return []string{s, strings.ToUpper(s), string(turns)}
}

func TestGreatLettersAreDigits(t *testing.T) {
	for _, c := range samples {
		from := strings.LastIndexByte(c.text, '-') + 1
		for _, digits := range inCases(c.text[from:]) {
			decodes(t, c.text[:from]+digits, signs(c.signs))
		}
	}
	decodes(t, "BCHER-KVA", []int{'B', 0xFC, 'C', 'H', 'E', 'R'})
	decodes(t, "b1abfaaepdrnnbgefbaDotcwatmq2g4l", signs("почемужеонинеговорятпорусски"))
	encodes(t, []int{'B', 0xFC, 'C', 'H', 'E', 'R'}, "BCHER-kva")
}

func TestWhatIsADigit(t *testing.T) {
	for b := range 256 {
		c := string([]byte{byte(b)})
		isDigit := b < 0x80 && strings.Contains(digitLetters, strings.ToLower(c))
		for _, s := range []string{c, c + "a", c + "aa", "k" + c, "k" + c + "a", "bcher-" + c + "va", "bcher-k" + c + "a", "bcher-kv" + c, "bcher-kva" + c, "bcher-kva" + c + "a"} {
			if b == '-' {
				continue
			}
			asWanted(t, s)
			if !isDigit {
				refuses(t, s, api.ErrForm)
			}
		}
	}
	// Behind an 80 each digit below 26 ends its number: so many steps from the place behind that 80.
	for d := range 26 {
		want := slices.Insert([]int{0x80}, (d+1)%2, 0x80+(d+1)/2)
		for _, c := range inCases(digitLetters[d : d+1]) {
			decodes(t, "a"+c, want)
		}
	}
}

func TestBytesAboveThePlain(t *testing.T) {
	for b := 0x80; b < 0x100; b++ {
		c := string([]byte{byte(b)})
		for _, s := range []string{c, c + "-", "a" + c + "-", c + "a-", "-" + c + "-", "b" + c + "cher-kva", c + "-tda", "a-" + c, "a-tda" + c, c + "tda"} {
			refuses(t, s, api.ErrForm)
		}
	}
	for _, s := range []string{"bü-kva", "ü", "ü-", "bcher-kvaü", "€-a"} {
		refuses(t, s, api.ErrForm)
	}
	for b := range 0x80 {
		decodes(t, string(rune(b))+"-", []int{b})
		decodes(t, "a"+string(rune(b))+"-a", []int{0x80, 'a', b})
	}
}

func TestEndWithinADelta(t *testing.T) {
	for _, s := range []string{"k", "kv", "t", "td", "9", "99", "9999", "b", "bcher-k", "bcher-kv", "a-b", "a-9", "9ca9", "9c", "tda9", "a0", "Z", "bcher-K"} {
		refuses(t, s, api.ErrForm)
	}
	for _, c := range samples {
		from := strings.LastIndexByte(c.text, '-') + 1
		for to := from; to <= len(c.text); to++ {
			asWanted(t, c.text[:to])
		}
	}
}

// one tells a text of n plain signs and one delta.
func one(n int, delta *big.Int) string {
	s := written(n, delta)
	if n > 0 {
		s = strings.Repeat("x", n) + "-" + s
	}
	return s
}

func TestDecodeOfWhatIsNoSign(t *testing.T) {
	for _, n := range []int{0, 1, 2, 10, api.MaxItems - 1} {
		for place := range n + 1 {
			if place > 2 && place < n-2 {
				continue
			}
			for _, c := range slices.Concat(edgeSigns, noSigns) {
				if c < 0x80 || c > 0x200100 {
					continue
				}
				s := one(n, big.NewInt(int64((c-0x80)*(n+1)+place)))
				if utf.Scalar(c) {
					decodes(t, s, slices.Insert(slices.Repeat([]int{'x'}, n), place, c))
				} else {
					refuses(t, s, api.ErrForm)
				}
			}
		}
	}
	// Behind others, and ahead of one that is a sign.
	for _, l := range [][]int{{0xFC, 0xD800}, {0xDFFF, 'a', 0xFC}, {0xD800, 0xE000}, {0xFC, 0x110000}, {0x110000, 0x110000}, {0xD7FF, 0xD800, 0xDFFF, 0xE000}, {0x10FFFF, 0x110000}, {'a', 0x7FFFFF}} {
		refuses(t, wantedText(l), api.ErrForm)
	}
	for _, l := range [][]int{{0xD7FF, 0xE000}, {0xE000, 0x10FFFF, 0xD7FF}} {
		decodes(t, wantedText(l), l)
	}
}

func TestDecodeOfGreatNumbers(t *testing.T) {
	most := big.NewInt(1<<31 - 1)
	for _, n := range []int{0, 1, 2, 9, api.MaxItems - 1} {
		for beside := int64(-2); beside <= 2; beside++ {
			refuses(t, one(n, new(big.Int).Add(most, big.NewInt(beside))), api.ErrForm)
		}
		// Numbers that would be those of ü, if what is past some bits were lost.
		small := big.NewInt(int64(0xFC-0x80) * int64(n+1))
		decodes(t, one(n, small), slices.Insert(slices.Repeat([]int{'x'}, n), 0, 0xFC))
		for _, bits := range []uint{29, 30, 31, 32, 33, 53, 62, 63, 64, 65, 96, 127, 128, 256, 1000} {
			much := new(big.Int).Lsh(big.NewInt(1), bits)
			for _, number := range []*big.Int{much, new(big.Int).Add(much, small), new(big.Int).Sub(much, big.NewInt(1)), new(big.Int).Add(much, big.NewInt(1))} {
				refuses(t, one(n, number), api.ErrForm)
			}
		}
	}
	// What went ahead counts with it: the place behind the sign before is where a delta is added.
	l := append(slices.Repeat([]int{'x'}, 200), 0xFC)
	front := strings.Repeat("x", 200) + "-"
	first := big.NewInt(int64(0xFC-0x80)*201 + 200)
	for beside := int64(-203); beside <= 2; beside++ {
		refuses(t, front+written(200, first, new(big.Int).Add(most, big.NewInt(beside))), api.ErrForm)
		refuses(t, front+written(200, first, new(big.Int).Add(new(big.Int).Lsh(big.NewInt(1), 64), big.NewInt(beside))), api.ErrForm)
	}
	decodes(t, front+written(200, first), l)
}

// A weight grows while digits go on, however small the number is in the end.
func TestDecodeOfLongDeltas(t *testing.T) {
	for _, front := range []string{"", "x-", strings.Repeat("x", 100) + "-", strings.Repeat("x", api.MaxItems-1) + "-", "tda", "bcher-kva"} {
		for _, digit := range []string{"b", "k", "z", "0", "9"} {
			for n := range 200 {
				for _, end := range []string{"", "a", "b", "z", "aa"} {
					asWanted(t, front+strings.Repeat(digit, n)+end)
				}
				if n > 12 {
					refuses(t, front+strings.Repeat("9", n)+"a", api.ErrForm)
				}
			}
		}
	}
}

func TestDecodeOfTheMostSigns(t *testing.T) {
	x := func(n int) string { return strings.Repeat("x", n) + "-" }
	xs := func(n int) []int { return slices.Repeat([]int{'x'}, n) }
	decodes(t, x(api.MaxItems), xs(api.MaxItems))
	decodes(t, x(api.MaxItems-1), xs(api.MaxItems-1))
	decodes(t, x(api.MaxItems-1)+"a", append([]int{0x80}, xs(api.MaxItems-1)...))
	decodes(t, x(api.MaxItems-2)+"aa", append([]int{0x80, 0x80}, xs(api.MaxItems-2)...))
	decodes(t, strings.Repeat("a", api.MaxItems), slices.Repeat([]int{0x80}, api.MaxItems))
	last := slices.Repeat([]int{0x10FFFF}, api.MaxItems)
	decodes(t, wantedText(last), last)
	for _, s := range []string{
		x(api.MaxItems + 1), x(api.MaxItems+1) + "a", x(api.MaxItems) + "a", x(api.MaxItems) + "tda", x(api.MaxItems-1) + "aa", x(api.MaxItems-2) + "aaa",
		x(api.MaxItems) + "9", x(api.MaxItems) + "!", strings.Repeat("a", api.MaxItems+1), strings.Repeat("-", api.MaxItems+2), wantedText(append(last, 0x10FFFF)), wantedText(append(last, 'a')),
	} {
		refuses(t, s, api.ErrForm)
	}
}

func TestDecodeOfTheMostBytes(t *testing.T) {
	for _, c := range []string{"a", "x", "9", "-", "!", "A", "\x00", "\x7F", "\x80", "\xFF"} {
		for _, end := range []string{"", "-", "a", "-a", "-tda", "\x80", "!", "9"} {
			for n := api.MaxText - 1; n <= api.MaxText; n++ {
				refuses(t, strings.Repeat(c, n-len(end))+end, api.ErrForm)
			}
			for _, n := range []int{api.MaxText + 1, api.MaxText + 2, 2 * api.MaxText, 100 * api.MaxText} {
				refuses(t, strings.Repeat(c, n-len(end))+end, api.ErrLimit)
			}
		}
	}
	refuses(t, "\x80"+strings.Repeat("a", api.MaxText), api.ErrLimit)
	refuses(t, "-"+strings.Repeat("a", api.MaxText), api.ErrLimit)
	refuses(t, "-"+strings.Repeat("a", api.MaxText-1), api.ErrForm)
}

func TestDecodeOfAllShortTexts(t *testing.T) {
	letters := digitLetters + "AKTZ-!\x7F\x80"
	var all func(s string, more int)
	all = func(s string, more int) {
		asWanted(t, s)
		if more == 0 || t.Failed() {
			return
		}
		for i := range len(letters) {
			all(s+letters[i:i+1], more-1)
		}
	}
	all("", 3)
	all("a-", 2)
	all("xyz-", 2)
	all("-", 2)
}

// someText tells up to n bytes, most of them digits.
func someText(r *rand.Rand, n int) string {
	const few = "aaaaabcdegkmqtvyz0123479AKZ-"
	var out []byte
	for range r.Intn(n + 1) {
		switch r.Intn(40) {
		case 0:
			out = append(out, byte(r.Intn(256)))
		case 1:
			out = append(out, '-')
		default:
			out = append(out, few[r.Intn(len(few))])
		}
	}
	return string(out)
}

func TestDecodeOfSomeTexts(t *testing.T) {
	r := rand.New(rand.NewSource(41))
	for range 100000 {
		s := someText(r, 30)
		asWanted(t, s)
		l, e := puny.Decode(s)
		if e != api.OK {
			continue
		}
		// There is one way to write signs.
		from := strings.LastIndexByte(s, '-') + 1
		encodes(t, l, s[:from]+strings.ToLower(s[from:]))
		if t.Failed() {
			return
		}
	}
	for range 300 {
		asWanted(t, someText(r, api.MaxText))
	}
}

// someSigns tells up to n signs, of few kinds or of many.
func someSigns(r *rand.Rand, n int) []int {
	var l []int
	span := 1 + r.Intn(0x110000)>>r.Intn(20)
	from := r.Intn(0x110000 - span + 1)
	for range r.Intn(n + 1) {
		c := from + r.Intn(span)
		if r.Intn(4) == 0 {
			c = r.Intn(0x80)
		}
		if utf.Scalar(c) {
			l = append(l, c)
		}
	}
	return l
}

func TestDecodeOfEncodeIsTheSigns(t *testing.T) {
	r := rand.New(rand.NewSource(42))
	for i := range 4000 {
		n := 20
		if i%20 == 0 {
			n = api.MaxItems
		}
		l := someSigns(r, n)
		encodes(t, l, wantedText(l))
		returns(t, l)
		if t.Failed() {
			return
		}
	}
}

func TestHandedInIsNotChanged(t *testing.T) {
	whole := []int{'X', 0xFC, 'a', 0x10FFFF, 0x20AC, '-', 0x80, -1, 'B', 0xD800, 'Z'}
	before := slices.Clone(whole)
	for from := range whole {
		for to := from; to <= len(whole); to++ {
			puny.Encode(whole[from:to])
			if !slices.Equal(whole, before) {
				t.Fatalf("P4.3: Encode of %d to %d changed it to %x", from, to, whole)
			}
		}
	}
	long := slices.Repeat(whole, 50)
	before = slices.Clone(long)
	for _, n := range []int{api.MaxItems, api.MaxItems + 1, len(long)} {
		puny.Encode(long[:n])
		if !slices.Equal(long, before) {
			t.Fatalf("P4.3: Encode of %d signs changed it", n)
		}
	}
}

func TestBehindTheLengthIsNotRead(t *testing.T) {
	whole := append([]int{0xFC, 'a', -1, 0xD800}, make([]int, 2*api.MaxItems)...)
	encodes(t, whole[:0], "")
	encodes(t, whole[:1], "tda")
	encodes(t, whole[:2], wantedText([]int{0xFC, 'a'}))
}

func TestHandedInIsNotKept(t *testing.T) {
	for _, given := range [][]int{{'a', 'b'}, {0xFC}, {'a', 0xFC, 0x20AC}, {-1}, {'x', 0x110000}} {
		s, _ := puny.Encode(given)
		want := strings.Clone(s)
		for i := range given {
			given[i] = 0xE9
		}
		if s != want {
			t.Errorf("P4.3: %q became %q, once what was handed in was written into", want, s)
		}
		encodes(t, given, wantedText(given))
	}
}

// holdsApart spoils answers of Decode in turn, their spare room too: those that are left, and later ones, must be as they were.
func holdsApart(t *testing.T, s string) {
	t.Helper()
	call := func() []int { l, _ := puny.Decode(s); return l }
	want := slices.Clone(call())
	answers := [][]int{call(), call()}
	for i, l := range answers {
		l = l[:cap(l)]
		for k := range l {
			l[k] = -7
		}
		answers = append(answers, call())
		for _, left := range answers[i+1:] {
			if !slices.Equal(left, want) {
				t.Errorf("P4.3: Decode(%.40q) = %x, once another answer was written into", s, left)
			}
		}
	}
}

func TestAnsweredIsNewMemory(t *testing.T) {
	for _, c := range samples {
		holdsApart(t, c.text)
	}
	for _, s := range []string{"-", "9", "a-!", "x\x80-", strings.Repeat("x", api.MaxItems) + "-", strings.Repeat("x", api.MaxItems) + "-a", strings.Repeat("a", api.MaxText+1)} {
		holdsApart(t, s)
	}
}
