package idna_test

import (
	"math"
	"math/rand"
	"slices"
	"strings"
	"testing"

	"springhouse/api"
	"springhouse/fold"
	"springhouse/idna"
	"springhouse/puny"
	"springhouse/utf"
)

// noSigns are numbers that are no sign; some would be one if they were cut to 8 bits, to 32 or to 21.
var noSigns = []int{
	-1, -'a', -0x80, -0xFC, 'x' - 256, math.MinInt, math.MinInt + 'x', math.MinInt32, 0xD800, 0xDBFF, 0xDC00, 0xDFFF,
	0x110000, 0x200000 + 'x', math.MaxInt32, 1 << 31, 1 << 32, 1<<32 + 'x', 1<<32 + 0xFC, math.MaxInt,
}

// edgeSigns stand at and beside 80, and are of every kind.
var edgeSigns = []int{
	0, '-', '.', '0', 'A', 'a', 'x', 0x7E, 0x7F, 0x80, 0x81, 0xA0, 0xA1, 0xAD, 0xC0, 0xDF, 0xFC, 0xFF, 0x100, 0x130, 0x149, 0x200B, 0x20AC, 0x2468, 0x3002,
	0xD7FF, 0xE000, 0xF8FF, 0xF900, 0xFDD0, 0xFE00, 0xFEFF, 0xFF0E, 0xFF21, 0xFF61, 0xFFFD, 0xFFFE, 0xFFFF, 0x10000, 0x1F600, 0xEFFFD, 0xF0000, 0x10FFFF,
}

func signs(s string) []int {
	var l []int
	for _, c := range s {
		l = append(l, int(c))
	}
	return l
}

// times tells c n times.
func times(c, n int) []int { return slices.Repeat([]int{c}, n) }

// written is `xn--` and l by puny.
func written(t *testing.T, l []int) string {
	t.Helper()
	s, e := puny.Encode(l)
	if e != api.OK {
		t.Fatalf("the test itself: puny.Encode(%x): %d", l, e)
	}
	return "xn--" + s
}

// labels wants that Label of l is want.
func labels(t *testing.T, l []int, want string) {
	t.Helper()
	if s, e := idna.Label(l); s != want || e != api.OK {
		t.Errorf("P5.1: Label(%x) = %q, %d, not %q", l, s, e, want)
	}
}

// noLabel wants that Label of l is the error want, and nothing beside it.
func noLabel(t *testing.T, l []int, want api.Errno) {
	t.Helper()
	if s, e := idna.Label(l); s != "" || e != want {
		t.Errorf("P5.1: Label(%.200q) (%d signs) = %.40q, %d, not %d", utf.Text(l), len(l), s, e, want)
	}
}

// names wants that ToASCII of l is want.
func names(t *testing.T, l []int, want string) {
	t.Helper()
	if s, e := idna.ToASCII(l); s != want || e != api.OK {
		t.Errorf("P5.2: ToASCII(%q) = %q, %d, not %q", utf.Text(l), s, e, want)
	}
}

// noName wants that ToASCII of l is the error want, and nothing beside it.
func noName(t *testing.T, l []int, want api.Errno) {
	t.Helper()
	if s, e := idna.ToASCII(l); s != "" || e != want {
		t.Errorf("P5.2: ToASCII(%.200q) (%d signs) = %.40q, %d, not %d", utf.Text(l), len(l), s, e, want)
	}
}

// shows wants that ToUnicode of s is want.
func shows(t *testing.T, s string, want []int) {
	t.Helper()
	if l := idna.ToUnicode(s); !slices.Equal(l, want) {
		t.Errorf("P5.3: ToUnicode(%.200q) = %x, not %x", s, l, want)
	}
}

// What follows, up to wantedSigns, is the chapter once more, sign by sign.

func below80(l []int) bool {
	return !slices.ContainsFunc(l, func(c int) bool { return c < 0 || c > 0x7F })
}

func begins(l []int) bool {
	return len(l) > 3 && slices.Equal(l[:4], []int{'x', 'n', '-', '-'})
}

func wantedLabel(l []int) (string, api.Errno) {
	if !below80(l) {
		if begins(l) {
			return "", api.ErrForm
		}
		s, e := puny.Encode(l)
		if e != api.OK {
			return "", e
		}
		return "xn--" + s, api.OK
	}
	it := ""
	for _, c := range l {
		it += string(rune(c))
	}
	if !begins(l) {
		return it, api.OK
	}
	told, e := puny.Decode(it[4:])
	if e != api.OK || len(told) == 0 || below80(told) || begins(told) {
		return "", api.ErrForm
	}
	for _, c := range told {
		if fold.Kind(c) != fold.Valid {
			return "", api.ErrForm
		}
	}
	if s, e := puny.Encode(told); e != api.OK || s != it[4:] {
		return "", api.ErrForm
	}
	return it, api.OK
}

func wantedName(l []int) (string, api.Errno) {
	if len(l) > 256 {
		return "", api.ErrLimit
	}
	m, _, ok := fold.Map(l)
	if !ok {
		return "", api.ErrForm
	}
	name := ""
	var label []int
	for _, c := range append(m, '.') {
		if c != '.' {
			label = append(label, c)
			continue
		}
		s, e := wantedLabel(label)
		if e != api.OK {
			return "", e
		}
		name += s + "."
		label = nil
	}
	name = name[:len(name)-1]
	if len(name) > 253 {
		return "", api.ErrLong
	}
	return name, api.OK
}

func wantedSigns(s string) []int {
	var out, bytes []int
	piece := ""
	for _, c := range []byte(s + ".") {
		if c != '.' {
			piece += string([]byte{c})
			bytes = append(bytes, int(c))
			continue
		}
		told := bytes
		if begins(bytes) {
			if l, e := puny.Decode(piece[4:]); e == api.OK {
				told = l
			}
		}
		out = append(append(out, told...), '.')
		piece, bytes = "", nil
	}
	return out[:len(out)-1]
}

func labelAsWanted(t *testing.T, l []int) {
	t.Helper()
	if want, e := wantedLabel(l); e == api.OK {
		labels(t, l, want)
	} else {
		noLabel(t, l, e)
	}
}

func nameAsWanted(t *testing.T, l []int) {
	t.Helper()
	if want, e := wantedName(l); e == api.OK {
		names(t, l, want)
	} else {
		noName(t, l, e)
	}
}

// stays wants that ToASCII of what ToASCII of l tells is it.
func stays(t *testing.T, l []int) {
	t.Helper()
	s, e := idna.ToASCII(l)
	if e != api.OK {
		return
	}
	if again, f := idna.ToASCII(signs(s)); again != s || f != api.OK {
		t.Fatalf("P5.5: %x became %q, and that %q, %d", l, s, again, f)
	}
}

func TestExamples(t *testing.T) {
	names(t, signs("BÜCHER.de"), "xn--bcher-kva.de")
	noName(t, signs("xn--a"), api.ErrForm)
}

func TestNothing(t *testing.T) {
	for _, l := range [][]int{nil, {}, make([]int, 0, 3)} {
		labels(t, l, "")
		names(t, l, "")
	}
	shows(t, "", nil)
}

func TestLabelOfPlainSigns(t *testing.T) {
	for _, s := range []string{
		"a", "abc", "ABC", "a.b", ".", "-", "--", "a-b", "0", "a b", "%", "[::1]",
		"x", "xn", "xn-", "xn-a", "xn-a-", "xn.--", "xm--a", "yn--a", "xn-_a", "xn_-a", "-xn--a", "axn--a", " xn--a", ".xn--a", "a.xn--a", "-n--a", "x---a",
		"XN--a", "Xn--a", "xN--a", "XN--", "XN--bcher-kva", "xN--tda",
	} {
		labels(t, signs(s), s)
	}
	var all []int
	for c := range 0x80 {
		labels(t, []int{c}, string(rune(c)))
		labels(t, []int{'a', c, 'b'}, "a"+string(rune(c))+"b")
		all = append(all, c)
	}
	labels(t, all, utf.Text(all))
	// A plain label may be as long as it will: it is not told by puny.
	for _, n := range []int{253, 254, api.MaxItems, api.MaxItems + 1, api.MaxText + 1, 20 * api.MaxText} {
		labels(t, times('a', n), strings.Repeat("a", n))
	}
}

func TestLabelByPuny(t *testing.T) {
	for s, want := range map[string]string{
		"bücher": "xn--bcher-kva", "ü": "xn--tda", "éé": "xn--9caa", "aé": "xn--a-bga", "faß": "xn--fa-hia", "-ü": "xn----eha", "ü-": "xn----dha",
		"\u0080": "xn--a", "\u0080\u0080\u0080": "xn--aaa", "他们为什么不说中文": "xn--ihqwcrb4cv8a8dqg056pqjye", "ひとつ屋根の下2": "xn--2-u9tlzr9756bt3uc0v",
		// It is taken as it is: mapped or not is nothing that Label asks of such a one.
		"Bücher": "xn--Bcher-kva", "BÜCHER": "xn--BCHER-2pa",
	} {
		labels(t, signs(s), want)
	}
	for _, s := range []string{"xn-ü", "xnü", "xü", "x-ü", "axn--ü", "-xn--ü", "üxn--", "xün--", "xn-ü-", "xn-ü--", "Xn--ü", "XN--ü", "xn—ü", "ü.xn--a", "ü.ü", "\u00ADü", "\uE000", "\uFFFE"} {
		labels(t, signs(s), written(t, signs(s)))
	}
	for _, l := range [][]int{{'x' + 256, 'n', '-', '-'}, {'x', 'n' + 256, '-', '-'}, {'x', 'n', '-' + 256, '-', 'a'}, {'x', 'n', '-', '-' + 256, 'a'}, {'x' + 1<<16, 'n', '-', '-', 'a'}} {
		labels(t, l, written(t, l))
	}
}

func TestSignsAtAndBeside80(t *testing.T) {
	labels(t, []int{0x7E}, "\x7E")
	labels(t, []int{0x7F}, "\x7F")
	labels(t, []int{0x80}, "xn--a")
	labels(t, []int{0x81}, "xn--ba")
	labels(t, []int{'a', 0x7F}, "a\x7F")
	labels(t, []int{0x7F, 0x80}, "xn--\x7F-ba")
	names(t, []int{'a', 0x7F}, "a\x7F")
	noName(t, []int{'a', 0x80}, api.ErrForm)
	noName(t, []int{'a', 0x81}, api.ErrForm)
	noName(t, []int{0xA0}, api.ErrForm)
	names(t, []int{0xA1}, written(t, []int{0xA1}))
}

func TestEverySignAlone(t *testing.T) {
	for c := -0x100; c < 0x110100; c++ {
		if c > 0x3100 && c%61 != 0 && !slices.Contains(edgeSigns, c) {
			continue
		}
		for _, l := range [][]int{{c}, {'a', c}, {c, '.', 'b'}} {
			labelAsWanted(t, l)
			nameAsWanted(t, l)
		}
		if utf.Scalar(c) {
			// The marked form of each: only Valid signs may be told by it.
			told := signs(written(t, []int{c, 0xFC}))
			labelAsWanted(t, told)
			nameAsWanted(t, told)
		}
		if t.Failed() {
			return
		}
	}
}

func TestLabelWithMarkStands(t *testing.T) {
	for _, s := range []string{"xn--bcher-kva", "xn--tda", "xn--9caa", "xn--a-bga", "xn--fa-hia", "xn----eha", "xn----dha", "xn--ihqwcrb4cv8a8dqg056pqjye", "xn--2-u9tlzr9756bt3uc0v"} {
		labels(t, signs(s), s)
	}
	for _, s := range []string{"xn-ü", "axn--ü", "-xn--ü", "üxn--", "xnü--", "ü.ü", "\u00DF", "\x7Fü", " ü", "\x00ü", "ü\uFFFD", "😀", "\U000EFFFD", "\uD7FF", "\uF900", "\u00A1"} {
		told := written(t, signs(s))
		labels(t, signs(told), told)
	}
	for _, l := range [][]int{times(0xFC, api.MaxItems), times(0xEFFFD, api.MaxItems), append(times('a', api.MaxItems-1), 0xFC)} {
		told := written(t, l)
		labels(t, signs(told), told)
	}
}

func TestLabelWithMarkThatIsNoPunycode(t *testing.T) {
	for _, s := range []string{
		"xn--!", "xn--k", "xn--kv", "xn--tda!", "xn--tdaa!", "xn--!tda", "xn--99999", "xn--999999999", "xn--bcher-k", "xn--bcher-kv", "xn--bcher-kva9", "xn--bcher-!", "xn--a-9",
		"xn---", "xn---tda", "xn---a", "xn--tda.", "xn--tda.a", "xn--tda ", "xn-- tda", "xn--td\x7F",
	} {
		noLabel(t, signs(s), api.ErrForm)
	}
	// Numbers that are no sign, and more signs than there may be.
	for _, rest := range []string{"ib9b", "zy0c", "en32g", strings.Repeat("a", api.MaxItems+1), strings.Repeat("x", api.MaxItems) + "-tda", strings.Repeat("x", api.MaxItems+1) + "-"} {
		if _, e := puny.Decode(rest); e != api.ErrForm {
			t.Fatalf("the test itself: puny.Decode(%.40q): %d", rest, e)
		}
		noLabel(t, signs("xn--"+rest), api.ErrForm)
	}
	// Whichever error puny.Decode has.
	for _, rest := range []string{strings.Repeat("a", api.MaxText+1), strings.Repeat("x", 5*api.MaxText) + "-tda"} {
		if _, e := puny.Decode(rest); e != api.ErrLimit {
			t.Fatalf("the test itself: puny.Decode(%.40q): %d", rest, e)
		}
		noLabel(t, signs("xn--"+rest), api.ErrForm)
	}
	noLabel(t, signs("xn--"+strings.Repeat("a", api.MaxText)), api.ErrForm)
}

func TestLabelWithMarkThatTellsNothing(t *testing.T) {
	noLabel(t, signs("xn--"), api.ErrForm)
	noName(t, signs("xn--"), api.ErrForm)
	for _, s := range []string{"xn--.a", "a.xn--", "a.xn--.b", ".xn--", "xn--.", "XN--", "xn-\u00AD-", "ＸＮ－－", "xn--。"} {
		noName(t, signs(s), api.ErrForm)
	}
}

func TestLabelWithMarkThatTellsPlainSignsAlone(t *testing.T) {
	for _, s := range []string{"xn--a-", "xn--abc-", "xn----", "xn-----", "xn--a--", "xn---a-", "xn--tda-", "xn--bcher-kva-", "xn--xn--tda-", "xn--xn---", "xn--\x7F-", "xn--\x00-"} {
		if l, e := puny.Decode(s[4:]); e != api.OK || !below80(l) || len(l) == 0 {
			t.Fatalf("the test itself: puny.Decode(%q) = %x, %d", s[4:], l, e)
		}
		noLabel(t, signs(s), api.ErrForm)
		noName(t, signs(s), api.ErrForm)
	}
}

func TestLabelWithMarkThatTellsAMark(t *testing.T) {
	for _, s := range []string{"xn--ü", "xn--a-ü", "xn--üa", "xn--\u20AC", "xn--tdaü", "xn--bcher-kvaü"} {
		noLabel(t, signs(written(t, signs(s))), api.ErrForm)
		noName(t, signs(written(t, signs(s))), api.ErrForm)
	}
	noLabel(t, signs("xn--xn---3ra"), api.ErrForm)
}

func TestLabelWithMarkThatTellsWhatIsNotValid(t *testing.T) {
	for _, c := range edgeSigns {
		for _, l := range [][]int{{c, 0xFC}, {0xFC, c}, {'a', c, 0xFC, 'b'}, {0x10000, c}, {c, 0x20AC, 0xE9}} {
			told := signs(written(t, l))
			if fold.Kind(c) == fold.Valid {
				labels(t, told, utf.Text(told))
			} else {
				noLabel(t, told, api.ErrForm)
			}
		}
	}
	for _, s := range []string{"xn--a", "xn--aaa", "xn--BCHER-kva", "xn--Bcher-kva", "xn--bcher-2pa", "xn--0y0c", "xn--dn32g"} {
		noLabel(t, signs(s), api.ErrForm)
	}
}

func TestLabelWithMarkThatPunyWouldWriteOtherwise(t *testing.T) {
	for _, s := range []string{"xn--bcher-KVA", "xn--bcher-Kva", "xn--bcher-kVa", "xn--bcher-kvA", "xn--TDA", "xn--tdA", "xn--Tda", "xn--9cAa", "xn--fa-hiA", "xn----eHa"} {
		if l, e := puny.Decode(s[4:]); e != api.OK || slices.ContainsFunc(l, func(c int) bool { return fold.Kind(c) != fold.Valid }) {
			t.Fatalf("the test itself: puny.Decode(%q) = %x, %d", s[4:], l, e)
		}
		noLabel(t, signs(s), api.ErrForm)
		// Mapped it has small letters, and is just that.
		names(t, signs(s), strings.ToLower(s))
	}
}

func TestMarkAheadOfGreatSigns(t *testing.T) {
	for _, s := range []string{"xn--ü", "xn--bücher", "xn--bcher-kvaü", "xn--tda\u0080", "xn--\u0080", "xn--ü.", "xn--😀", "xn---ü"} {
		noLabel(t, signs(s), api.ErrForm)
	}
	// It is asked for ahead of what puny.Encode says.
	mark := signs("xn--")
	for _, bad := range noSigns {
		noLabel(t, append(slices.Clone(mark), bad), api.ErrForm)
		noLabel(t, append(slices.Clone(mark), bad, 0xFC), api.ErrForm)
		noLabel(t, append(slices.Clone(mark), 't', 'd', 'a', bad), api.ErrForm)
	}
	for _, n := range []int{api.MaxItems - 4, api.MaxItems - 3, api.MaxItems, 3 * api.MaxItems} {
		noLabel(t, append(slices.Clone(mark), times(0xFC, n)...), api.ErrForm)
		noLabel(t, append(slices.Clone(mark), times(-1, n)...), api.ErrForm)
	}
}

func TestLabelOfWhatIsNoSign(t *testing.T) {
	for _, bad := range noSigns {
		for _, l := range [][]int{{bad}, {bad, 'a'}, {'a', bad}, {0xFC, bad}, {bad, 0xFC}, {'x', 'n', '-', bad}, {bad, 'n', '-', '-'}, {bad, 'n', '-', '-', 'a'}, {bad, 'x', 'n', '-', '-'}} {
			noLabel(t, l, api.ErrRange)
		}
		noLabel(t, append(times('a', api.MaxItems-1), bad), api.ErrRange)
		noLabel(t, append(times('a', api.MaxItems), bad), api.ErrLimit)
	}
}

func TestLabelOfTheMostSigns(t *testing.T) {
	for _, c := range []int{0x80, 0xFC, 0x20AC, 0x10FFFF} {
		labels(t, times(c, api.MaxItems-1), written(t, times(c, api.MaxItems-1)))
		labels(t, times(c, api.MaxItems), written(t, times(c, api.MaxItems)))
		noLabel(t, times(c, api.MaxItems+1), api.ErrLimit)
		noLabel(t, times(c, 20*api.MaxItems), api.ErrLimit)
		noLabel(t, append(times('a', api.MaxItems), c), api.ErrLimit)
	}
}

func TestNames(t *testing.T) {
	for s, want := range map[string]string{
		"example.com": "example.com", "EXAMPLE.Com": "example.com", "bücher": "xn--bcher-kva", "Bücher.Example.ÉÉ": "xn--bcher-kva.example.xn--9caa",
		"ü.ü": "xn--tda.xn--tda", "a.ü.b": "a.xn--tda.b", "faß.de": "xn--fa-hia.de", "a_b": "a_b", "a b.%": "a b.%", "1.2.3.4": "1.2.3.4",
		// Points that are mapped to be one.
		"a。b": "a.b", "a．b": "a.b", "a｡b": "a.b", "ü。Ü．ü｡Ü": "xn--tda.xn--tda.xn--tda.xn--tda", "。": ".",
		// What is left out, and what becomes two.
		"a\u00ADb": "ab", "\u200Ba\uFEFF.\u2060": "a.", "\u00AD": "", "İ": "xn--i-9bb", "①②.ª": "12.a", "Ａ．Ｂ": "a.b",
		// A mark that mapping makes.
		"XN--BCHER-KVA.de": "xn--bcher-kva.de", "ＸＮ－－BCHER-kva": "xn--bcher-kva", "xn\u00AD--tda": "xn--tda", "Xn--Tda": "xn--tda", "xn--bcher-kva.xn--tda": "xn--bcher-kva.xn--tda",
		"xn-": "xn-", "xn-.-a": "xn-.-a", "axn--": "axn--", "xn.--": "xn.--",
	} {
		names(t, signs(s), want)
		nameAsWanted(t, signs(s))
	}
}

func TestEmptyLabels(t *testing.T) {
	for s, want := range map[string]string{
		".": ".", "..": "..", "...": "...", ".a": ".a", "a.": "a.", "a..b": "a..b", "..a": "..a", "a..": "a..", ".ü": ".xn--tda", "ü.": "xn--tda.", "ü..ü": "xn--tda..xn--tda",
		".a.": ".a.", "\u00AD.\u00AD": ".", "a.\u00AD.b": "a..b", ".。．｡": "....",
	} {
		names(t, signs(s), want)
	}
	names(t, times('.', 253), strings.Repeat(".", 253))
	noName(t, times('.', 254), api.ErrLong)
	noName(t, times('.', api.MaxItems), api.ErrLong)
	noName(t, times('.', api.MaxItems+1), api.ErrLimit)
}

func TestNamesThatMapRefuses(t *testing.T) {
	for _, bad := range append([]int{0x80, 0xA0, 0xE000, 0xF8FF, 0xFDD0, 0xFFFE, 0xFFFF, 0x1FFFE, 0xF0000, 0x10FFFF}, noSigns...) {
		for _, l := range [][]int{{bad}, {'a', bad}, {bad, 'a'}, {'a', '.', bad}, {0xFC, bad}, append(times('a', api.MaxItems-1), bad)} {
			noName(t, l, api.ErrForm)
		}
		noName(t, append(times('a', api.MaxItems), bad), api.ErrLimit)
		noName(t, times(bad, api.MaxItems+1), api.ErrLimit)
		noName(t, times(bad, api.MaxItems), api.ErrForm)
	}
}

func TestNamesOfWrongLabels(t *testing.T) {
	for _, s := range []string{"xn--a", "xn--", "xn--abc-", "xn--!", "xn--ü", "xn--bcher-kv", "xn--99999", "xn--xn---3ra", "XN--Ü"} {
		for _, name := range []string{s, s + ".a", "a." + s, "a." + s + ".b", "." + s, s + ".", "ü." + s, s + ".ü", "xn--tda." + s, s + "." + s, strings.ToUpper(s), "a。" + s} {
			noName(t, signs(name), api.ErrForm)
		}
	}
}

func TestMostSignsOfNames(t *testing.T) {
	// Those that are left out count as well.
	names(t, append(times('a', 253), times(0xAD, api.MaxItems-253)...), strings.Repeat("a", 253))
	noName(t, append(times('a', 253), times(0xAD, api.MaxItems-252)...), api.ErrLimit)
	names(t, times(0xAD, api.MaxItems), "")
	noName(t, times(0xAD, api.MaxItems+1), api.ErrLimit)
	names(t, append(times(0xAD, api.MaxItems-1), 'A'), "a")
	for _, n := range []int{api.MaxItems + 1, api.MaxItems + 2, 2 * api.MaxItems, 100 * api.MaxItems} {
		for _, c := range []int{'a', '.', 0xFC, 0xAD, 0x80, -1, 0x130} {
			noName(t, times(c, n), api.ErrLimit)
		}
	}
	noName(t, append(signs("xn--a."), times('a', api.MaxItems-5)...), api.ErrLimit)
	// One label that mapping makes longer than puny.Encode takes, and two that it does not.
	noName(t, times(0x130, api.MaxItems/2+1), api.ErrLimit)
	noName(t, append(append(times(0x130, api.MaxItems/2), '.'), times(0x130, 20)...), api.ErrLong)
}

func TestMostBytesOfNames(t *testing.T) {
	for _, n := range []int{252, 253} {
		names(t, times('a', n), strings.Repeat("a", n))
		names(t, append(times('A', n-4), signs(".com")...), strings.Repeat("a", n-4)+".com")
		names(t, append(times('a', n-8), signs(".ü")...), strings.Repeat("a", n-8)+".xn--tda")
	}
	for n := 254; n <= api.MaxItems; n++ {
		noName(t, times('a', n), api.ErrLong)
		noName(t, append(times('A', n-4), signs(".com")...), api.ErrLong)
	}
	noName(t, append(times('a', 254-8), signs(".ü")...), api.ErrLong)
	noName(t, append(times('a', 253), signs(".")...), api.ErrLong)
	noName(t, append(signs("."), times('a', 253)...), api.ErrLong)
	// By puny few signs may be many bytes, and the other way round.
	seen := make(map[int]int)
	for _, c := range []int{0xFC, 0x20AC, 0xEFFFD} {
		for plain := range 250 {
			for great := range 4 {
				l := append(times('a', plain), times(c, great)...)
				nameAsWanted(t, l)
				if s, e := idna.ToASCII(l); e == api.OK {
					seen[len(s)]++
				}
			}
		}
	}
	if seen[252] == 0 || seen[253] == 0 || seen[254] != 0 {
		t.Errorf("P5.2: by puny %d names of 252 bytes, %d of 253, %d of 254", seen[252], seen[253], seen[254])
	}
	names(t, times(0xFC, 240), written(t, times(0xFC, 240)))
}

func TestWhichErrorOfNames(t *testing.T) {
	long := times(0x130, api.MaxItems/2+1)
	wrong := signs("xn--a")
	join := func(l ...[]int) []int {
		var out []int
		for i, piece := range l {
			if i > 0 {
				out = append(out, '.')
			}
			out = append(out, piece...)
		}
		return out
	}
	noName(t, join(long, wrong), api.ErrLimit)
	noName(t, join(wrong, long), api.ErrForm)
	noName(t, join(signs("a"), wrong, long), api.ErrForm)
	noName(t, join(signs("ü"), long, wrong), api.ErrLimit)
	// What Map says is asked ahead of labels, wherever it stands.
	noName(t, join(long, []int{0x80}), api.ErrForm)
	noName(t, join([]int{0x80}, long), api.ErrForm)
	// The length is asked behind them.
	noName(t, join(times('a', 250), wrong), api.ErrForm)
	noName(t, join(wrong, times('a', 250)), api.ErrForm)
	noName(t, join(times('a', 250), []int{0xE000}), api.ErrForm)
	noName(t, join(times('a', 120), long), api.ErrLimit)
	noName(t, join(times('a', 250), signs("xn-a")), api.ErrLong)
}

func TestSignsOfPlainPieces(t *testing.T) {
	for _, s := range []string{"a", "abc.de", ".", "..", "a.", ".a", "a..b", "xn-", "xn", "xn.--", "XN--TDA", "Xn--tda", "xN--tda", "axn--tda", " xn--tda", "-xn--tda", "tda", "bcher-kva", "\x00", "ABC", "xn-tda", "xn_-tda"} {
		shows(t, s, signs(s))
	}
	for b := range 256 {
		c := string([]byte{byte(b)})
		shows(t, c, []int{b})
		shows(t, "a"+c+"b", []int{'a', b, 'b'})
		shows(t, "a."+c+".xn--tda", []int{'a', '.', b, '.', 0xFC})
	}
	// Bytes, not the signs that UTF-8 would make of them.
	shows(t, "ü", []int{0xC3, 0xBC})
	shows(t, "€.😀", []int{0xE2, 0x82, 0xAC, '.', 0xF0, 0x9F, 0x98, 0x80})
	shows(t, "a。b", []int{'a', 0xE3, 0x80, 0x82, 'b'})
	shows(t, "\xFF\x80", []int{0xFF, 0x80})
}

func TestSignsOfPiecesByPuny(t *testing.T) {
	for s, want := range map[string]string{
		"xn--bcher-kva.de": "bücher.de", "xn--tda": "ü", "xn--tda.xn--tda": "ü.ü", "a.xn--tda.b": "a.ü.b", ".xn--tda": ".ü", "xn--tda.": "ü.", "xn--tda..xn--9caa": "ü..éé", "xn--fa-hia": "faß",
		// All that puny.Decode reads, though Label takes it not.
		"xn--": "", "xn--.xn--": ".", "a.xn--": "a.", "xn--.a": ".a", "xn--a-": "a", "xn--abc-": "abc", "xn----": "-", "xn--a": "\u0080", "xn--a.b": "\u0080.b", "xn--aaa": "\u0080\u0080\u0080",
		"xn--TDA": "ü", "xn--bcher-KVA": "bücher", "xn--BCHER-KVA": "BüCHER",
		// What is told is not read again.
		"xn--xn--tda-": "xn--tda", "xn--xn---": "xn--", "xn--xn--tda-.a": "xn--tda.a", "xn--xn--tda": "\u009Fxn-", "xn--xn---3ra": "xn--ü",
	} {
		shows(t, s, signs(want))
	}
	for _, l := range [][]int{{0xE000}, {0xFFFE, 0xAD}, {0x10FFFF, 'A'}, signs("xn--ü"), {0x3002, 'a'}, times(0x10FFFF, api.MaxItems), times(0xFC, api.MaxItems)} {
		shows(t, written(t, l), l)
		shows(t, "a."+written(t, l)+".b", slices.Concat(signs("a."), l, signs(".b")))
	}
}

func TestSignsOfPiecesThatPunyReadsNot(t *testing.T) {
	for _, s := range []string{"xn--!", "xn--k", "xn--bcher-kv", "xn---tda", "xn---", "xn--99999", "xn--tda!", "xn--tda ", "xn--xn--td", "xn--" + strings.Repeat("a", api.MaxItems+1), "xn--" + strings.Repeat("x", api.MaxItems) + "-a", "xn--" + strings.Repeat("a", api.MaxText+1), "xn--" + strings.Repeat("x", 10*api.MaxText) + "-"} {
		shows(t, s, signs(s))
		shows(t, "xn--tda."+s+".xn--tda", signs("ü."+s+".ü"))
	}
	for b := 0x80; b < 0x100; b++ {
		for _, rest := range []string{"%", "%-", "tda%", "%tda", "b%cher-kva"} {
			s := "xn--" + strings.ReplaceAll(rest, "%", string([]byte{byte(b)}))
			var want []int
			for i := range len(s) {
				want = append(want, int(s[i]))
			}
			shows(t, s, want)
		}
	}
	shows(t, "xn--ü", []int{'x', 'n', '-', '-', 0xC3, 0xBC})
}

func TestSignsOfLongTexts(t *testing.T) {
	shows(t, strings.Repeat("xn--tda.", 20000), signs(strings.Repeat("ü.", 20000)))
	shows(t, strings.Repeat("a", 50*api.MaxText), times('a', 50*api.MaxText))
	shows(t, strings.Repeat(".", 50*api.MaxText), times('.', 50*api.MaxText))
	shows(t, "xn--"+strings.Repeat("x", api.MaxItems)+"-", times('x', api.MaxItems))
}

// eachShort calls do with each list of at most more signs of some.
func eachShort(some []int, more int, do func(l []int)) {
	var l []int
	var grow func(more int)
	grow = func(more int) {
		do(l)
		if more == 0 {
			return
		}
		for _, c := range some {
			l = append(l, c)
			grow(more - 1)
			l = l[:len(l)-1]
		}
	}
	grow(more)
}

func TestAllShortNames(t *testing.T) {
	one := func(l []int) {
		if t.Failed() {
			return
		}
		labelAsWanted(t, l)
		nameAsWanted(t, l)
		stays(t, l)
		text := utf.Text(l)
		shows(t, text, wantedSigns(text))
	}
	eachShort([]int{'x', 'n', '-', 'a', '.', 0xFC}, 6, one)
	eachShort([]int{'X', 0xFF58, 'n', 0xAD, '-', 0xFF0D}, 5, one)
	eachShort([]int{'a', 'b', 'k', 't', 'd', '9', '-', '.', 'A', 'K', 0x7F, 0xFC}, 3, func(l []int) { one(append(signs("xn--"), l...)) })
	eachShort([]int{'a', 'd', '7', '-'}, 5, func(l []int) { one(append(signs("xn--t"), l...)) })
}

// someName tells signs, many of them such as make marks, points and what lies beside them.
func someName(r *rand.Rand, n int) []int {
	var l []int
	for range r.Intn(n + 1) {
		switch r.Intn(12) {
		case 0:
			l = append(l, edgeSigns[r.Intn(len(edgeSigns))])
		case 1:
			l = append(l, signs("xn--")...)
		case 2:
			l = append(l, '.')
		case 3, 4:
			l = append(l, 0xA1+r.Intn(0x2FF))
		case 5:
			some := []string{"xn--tda", "XN--bcher-KVA", "xn--a", "xn--fa-hia.", ".xn--9caa", "kva", "-tda"}
			l = append(l, signs(some[r.Intn(len(some))])...)
		case 6:
			l = append(l, r.Intn(0x30000))
		default:
			l = append(l, r.Intn(0x7F))
		}
	}
	return l
}

func TestSomeNames(t *testing.T) {
	r := rand.New(rand.NewSource(51))
	told := 0
	for i := range 60000 {
		n := 6
		if i%10 == 0 {
			n = 200
		}
		l := someName(r, n)
		labelAsWanted(t, l)
		nameAsWanted(t, l)
		stays(t, l)
		text := utf.Text(l)
		shows(t, text, wantedSigns(text))
		if s, e := idna.ToASCII(l); e == api.OK {
			told++
			if len(s) > 253 || !below80(signs(s)) {
				t.Errorf("P5.2: ToASCII(%x) = %q", l, s)
			}
		}
		if t.Failed() {
			return
		}
	}
	if told < 10000 {
		t.Errorf("the test itself: only %d were names", told)
	}
}

func TestWhatIsToldStays(t *testing.T) {
	for _, s := range []string{"", ".", "a..b", "BÜCHER.de", "faß.De", "İ.ŉ", "a。B", "ＸＮ－－BCHER-kva", "xn--tda", "-ü-.--", "xn-ü", "ü.xn-", "\u00ADü\u00AD", "ΑΩ.ЯЁ", "①.ﬀ", strings.Repeat("a", 253), strings.Repeat("ü", 240), strings.Repeat("ü.", 30)} {
		stays(t, signs(s))
		if _, e := idna.ToASCII(signs(s)); e != api.OK {
			t.Errorf("P5.2: ToASCII(%.40q): %d", s, e)
		}
	}
	// What Map makes of a name without marks comes back of what is told.
	r := rand.New(rand.NewSource(52))
	for range 20000 {
		l := someName(r, 12)
		m, _, ok := fold.Map(l)
		s, e := idna.ToASCII(l)
		if !ok || e != api.OK || strings.Contains(utf.Text(m), "xn--") {
			continue
		}
		shows(t, s, m)
	}
}

func TestHandedInIsNotChanged(t *testing.T) {
	whole := signs("A.ü\u00ADxn--tda.。xn--a.\u0080İxn--üZ.")
	whole = append(whole, -1, 'B', 0xD800, '.', 0xFC)
	before := slices.Clone(whole)
	for from := range whole {
		for to := from; to <= len(whole); to++ {
			idna.Label(whole[from:to])
			idna.ToASCII(whole[from:to])
			if !slices.Equal(whole, before) {
				t.Fatalf("P5.4: a call with %d to %d changed it to %x", from, to, whole)
			}
		}
	}
	long := slices.Repeat(whole, 20)
	before = slices.Clone(long)
	for _, n := range []int{api.MaxItems, api.MaxItems + 1, len(long)} {
		idna.Label(long[:n])
		idna.ToASCII(long[:n])
		if !slices.Equal(long, before) {
			t.Fatalf("P5.4: a call with %d signs changed it", n)
		}
	}
}

func TestBehindTheLengthIsNotRead(t *testing.T) {
	whole := append([]int{'x', 'n', '-', '-', 't', 'd', 'a', '.', 0xFC, -1, 0x80}, make([]int, 2*api.MaxItems)...)
	names(t, whole[:0], "")
	names(t, whole[:3], "xn-")
	names(t, whole[:7], "xn--tda")
	names(t, whole[:8], "xn--tda.")
	names(t, whole[:9], "xn--tda.xn--tda")
	labels(t, whole[:0], "")
	labels(t, whole[:3], "xn-")
	labels(t, whole[:7], "xn--tda")
	labels(t, whole[8:9], "xn--tda")
}

func TestHandedInIsNotKept(t *testing.T) {
	for _, s := range []string{"ab", "ü", "a.ü", "xn--tda", "xn--a", "\u0080"} {
		for name, call := range map[string]func([]int) (string, api.Errno){"Label": idna.Label, "ToASCII": idna.ToASCII} {
			given := signs(s)
			told, e := call(given)
			want := strings.Clone(told)
			for i := range given {
				given[i] = '%'
			}
			if told != want {
				t.Errorf("P5.4: %s(%q) = %q became %q, once what was handed in was written into", name, s, want, told)
			}
			if told, f := call(signs(s)); told != want || e != f {
				t.Errorf("P5.4: %s(%q) = %q, %d, later %q, %d", name, s, want, e, told, f)
			}
		}
	}
}

// holdsApart spoils answers of ToUnicode in turn, their spare room too: those that are left, and later ones, must be as they were.
func holdsApart(t *testing.T, s string) {
	t.Helper()
	want := slices.Clone(idna.ToUnicode(s))
	answers := [][]int{idna.ToUnicode(s), idna.ToUnicode(s)}
	for i, l := range answers {
		l = l[:cap(l)]
		for k := range l {
			l[k] = -7
		}
		answers = append(answers, idna.ToUnicode(s))
		for _, left := range answers[i+1:] {
			if !slices.Equal(left, want) {
				t.Errorf("P5.4: ToUnicode(%.40q) = %x, once another answer was written into", s, left)
			}
		}
	}
}

func TestAnsweredIsNewMemory(t *testing.T) {
	for _, s := range []string{"", ".", "a", "abc.de", "xn--tda", "xn--bcher-kva.de", "xn--", "xn--!", "\xFF", "xn--abc-", strings.Repeat("xn--tda.", 100), strings.Repeat("a", api.MaxText+1)} {
		holdsApart(t, s)
	}
}
