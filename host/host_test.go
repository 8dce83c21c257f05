package host_test

import (
	"fmt"
	"math"
	"math/rand"
	"slices"
	"strings"
	"testing"
	"unsafe"

	"springhouse/api"
	"springhouse/host"
	"springhouse/idna"
	"springhouse/ip"
	"springhouse/pct"
	"springhouse/puny"
	"springhouse/utf"
)

// barredSigns are those that no host but one between brackets has, as the chapter names them.
var barredSigns = []byte{0, 9, 0xA, 0xD, ' ', '#', '/', ':', '<', '>', '?', '@', '[', '\\', ']', '^', '|'}

// barred tells whether a host, special or not, may not have the byte c.
func barred(c byte, special bool) bool {
	return slices.Contains(barredSigns, c) || special && (c <= 0x1F || c == '%' || c == 0x7F)
}

func named(s string) api.Host       { return api.Host{Kind: 1, Name: s} }
func four(n uint32) api.Host        { return api.Host{Kind: 2, Four: n} }
func six(pieces ...uint16) api.Host { return api.Host{Kind: 3, Six: [8]uint16(pieces)} }
func text(s string) api.Host        { return api.Host{Kind: 4, Name: s} }
func isSpecial(h api.Host) bool     { return h.Kind == 1 || h.Kind == 2 }
func bytesOf(c byte, n int) string  { return string(slices.Repeat([]byte{c}, n)) }
func byPercent(c byte) string       { return fmt.Sprintf("%%%02X", c) }
func short(h api.Host) string       { return fmt.Sprintf("{%d %.60q %x %x}", h.Kind, h.Name, h.Four, h.Six) }

// tells wants that Parse of s is want.
func tells(t *testing.T, s string, special bool, want api.Host) {
	t.Helper()
	if h, e := host.Parse(s, special); h != want || e != api.OK {
		t.Errorf("P8.1: Parse(%.60q, %v) (%d bytes) = %s, %d, not %s", s, special, len(s), short(h), e, short(want))
	}
}

// fails wants that Parse of s is the error want, and nothing beside it.
func fails(t *testing.T, s string, special bool, want api.Errno) {
	t.Helper()
	if h, e := host.Parse(s, special); h != (api.Host{}) || e != want {
		t.Errorf("P8.1: Parse(%.60q, %v) (%d bytes) = %s, %d, not %d", s, special, len(s), short(h), e, want)
	}
}

// bothTell wants that Parse of s is want, special or not; bothFail likewise.
func bothTell(t *testing.T, s string, want api.Host) {
	t.Helper()
	tells(t, s, true, want)
	tells(t, s, false, want)
}

func bothFail(t *testing.T, s string, want api.Errno) {
	t.Helper()
	fails(t, s, true, want)
	fails(t, s, false, want)
}

// wanted is Parse of s, by the chapter once more: byte by byte.
func wanted(s string, special bool) (api.Host, api.Errno) {
	if len(s) > 4000 {
		return api.Host{}, api.ErrLong
	}
	if s != "" && s[0] == '[' {
		if s[len(s)-1] != ']' {
			return api.Host{}, api.ErrForm
		}
		p, e := ip.Parse6(s[1 : len(s)-1])
		if e != api.OK {
			return api.Host{}, e
		}
		return api.Host{Kind: 3, Six: p}, api.OK
	}
	if special {
		return wantedSpecial(s)
	}
	it := ""
	for _, c := range []byte(s) {
		if barred(c, false) {
			return api.Host{}, api.ErrForm
		}
		if c <= 0x1F || c >= 0x7F {
			it += byPercent(c)
		} else {
			it += string([]byte{c})
		}
	}
	if it == "" {
		return api.Host{}, api.OK
	}
	return text(it), api.OK
}

func wantedSpecial(s string) (api.Host, api.Errno) {
	it, e := idna.ToASCII(utf.Lossy(pct.Decode(s)))
	if e != api.OK {
		return api.Host{}, e
	}
	if it == "" {
		return api.Host{}, api.ErrNone
	}
	for _, c := range []byte(it) {
		if barred(c, true) {
			return api.Host{}, api.ErrForm
		}
	}
	if !ip.Ends(it) {
		return named(it), api.OK
	}
	n, e := ip.Parse4(it)
	if e != api.OK {
		return api.Host{}, e
	}
	return four(n), api.OK
}

// wantedPrint is Print of h, by the chapter once more.
func wantedPrint(h api.Host) string {
	return map[int]string{1: h.Name, 2: ip.Print4(h.Four), 3: "[" + ip.Print6(h.Six) + "]", 4: h.Name}[h.Kind]
}

// holds wants that Parse of s is what the second reading says, and of what it tells Print, May and Parse once more.
func holds(t *testing.T, s string, special bool) {
	t.Helper()
	want, e := wanted(s, special)
	if e != api.OK {
		fails(t, s, special, e)
		return
	}
	tells(t, s, special, want)
	returns(t, want, special)
}

// returns wants of h, which Parse told, that Print is what the second reading says, and that Parse of it is h.
func returns(t *testing.T, h api.Host, special bool) {
	t.Helper()
	s := host.Print(h)
	if want := wantedPrint(h); s != want {
		t.Errorf("P8.2: Print(%s) = %.60q, not %.60q", short(h), s, want)
	}
	if len(s) > 4000 {
		return
	}
	if again, e := host.Parse(s, special); again != h || e != api.OK {
		t.Errorf("P8.4: Parse(Print(%s), %v) = %s, %d", short(h), special, short(again), e)
	}
	if !host.May(h) {
		t.Errorf("P8.2: not May(%s), which Parse tells", short(h))
	}
}

func TestExamples(t *testing.T) {
	tells(t, "EXAMPLE.com", true, named("example.com"))
	tells(t, "1.2.3", true, four(0x01020003))
	fails(t, "a b", true, api.ErrForm)
}

func TestNames(t *testing.T) {
	for s, want := range map[string]string{
		"example.com": "example.com", "Example.COM": "example.com", "a": "a", "Z": "z", "localhost": "localhost", "a.": "a.", ".a": ".a", "a..b": "a..b", ".": ".", "..": "..", "-": "-", "a-b": "a-b", "a_b": "a_b", "~": "~",
		"!\"$&'()*+,-.;=_`{}~": "!\"$&'()*+,-.;=_`{}~",
		"bücher.de":            "xn--bcher-kva.de", "BÜCHER.DE": "xn--bcher-kva.de", "xn--bcher-kva.de": "xn--bcher-kva.de", "XN--BCHER-KVA.de": "xn--bcher-kva.de", "ü": "xn--tda", "a.ü.b": "a.xn--tda.b", "straße": "xn--strae-oqa",
		"ｅｘａｍｐｌｅ。ｃｏｍ": "example.com", "a\u00ADb": "ab", "a\u200B.b": "a.b", "\uFEFFa": "a",
	} {
		tells(t, s, true, named(want))
	}
}

func TestTexts(t *testing.T) {
	for s, want := range map[string]string{
		"example.com": "example.com", "Example.COM": "Example.COM", "1.2.3": "1.2.3", "256.1": "256.1", "0x1": "0x1", "a.1.": "a.1.", ".": ".", "xn--a": "xn--a", "!\"$&'()*+,-.;=_`{}~": "!\"$&'()*+,-.;=_`{}~",
		// A percent sign is told as it is, whatever stands behind it.
		"%": "%", "a%": "a%", "%4": "%4", "%zz": "%zz", "%41": "%41", "%2f": "%2f", "%00": "%00", "%25": "%25", "%c3%BC": "%c3%BC",
		"ü": "%C3%BC", "\x80": "%80", "\xFF": "%FF", "a\x7Fb": "a%7Fb", "\x01\x1F": "%01%1F", "\u00AD": "%C2%AD", "\uFF0F": "%EF%BC%8F", "a\xC3": "a%C3",
	} {
		tells(t, s, false, text(want))
	}
}

func TestNothing(t *testing.T) {
	tells(t, "", false, api.Host{})
	fails(t, "", true, api.ErrNone)
	// Signs that a name leaves out leave nothing of it, by themselves or by percent signs.
	for _, s := range []string{"\u00AD", "%C2%AD", "\u200B\u2060\uFE00\uFE0F\uFEFF", "%e2%80%8b", "%C2\xAD", strings.Repeat("\u00AD", 256)} {
		fails(t, s, true, api.ErrNone)
	}
	fails(t, strings.Repeat("\u00AD", 257), true, api.ErrLimit)
	// What is left of a point is not nothing.
	tells(t, "\u00AD.", true, named("."))
	tells(t, "\u3002", true, named("."))
}

func TestBrackets(t *testing.T) {
	for s, want := range map[string]api.Host{
		"[::]": six(0, 0, 0, 0, 0, 0, 0, 0), "[::1]": six(0, 0, 0, 0, 0, 0, 0, 1), "[1::]": six(1, 0, 0, 0, 0, 0, 0, 0), "[1:2:3:4:5:6:7:8]": six(1, 2, 3, 4, 5, 6, 7, 8), "[ABCD:ef01::0010]": six(0xABCD, 0xEF01, 0, 0, 0, 0, 0, 0x10),
		"[::1.2.3.4]": six(0, 0, 0, 0, 0, 0, 0x0102, 0x0304), "[1:2:3:4:5:6:255.255.255.255]": six(1, 2, 3, 4, 5, 6, 0xFFFF, 0xFFFF),
	} {
		bothTell(t, s, want)
		returns(t, want, true)
		returns(t, want, false)
	}
	for _, s := range []string{
		"[", "[]", "[[", "[[]", "[]]", "[[]]", "[::1", "[::1 ", "[::1]]", "[[::1]", "[[::1]]", "[::1].", "[::1]:", "[::1]:80", "[::1]a", "[::1] ", "[::1]\x00", "[::1][", "[::1%5D", "[::1%5d",
		"[a]", "[1]", "[ ]", "[:]", "[.]", "[1.2.3.4]", "[example.com]", "[v1.a]", "[:::]", "[1:2:3:4:5:6:7]", "[1:2:3:4:5:6:7:8:9]", "[::g]", "[::1.2.3.256]", "[12345::]",
		"[ ::1]", "[::1 ]", "[::1%25eth0]", "[::%31]", "[%3A%3A]", "[::１]", "[::\u00AD]", "[::\x80]", "[\x00]",
	} {
		bothFail(t, s, api.ErrForm)
	}
	// A bracket that is not the first sign, or that percent signs or the mapping make, is barred.
	for _, s := range []string{"]", "]::1[", "a[::1]", " [::1]", ".[::1]", "::1]"} {
		bothFail(t, s, api.ErrForm)
	}
	for _, s := range []string{"%5B::1%5D", "%5b", "%5B%3A%3A1]", "\uFF3B::1\uFF3D", "\u00AD[::1]"} {
		fails(t, s, true, api.ErrForm)
	}
	tells(t, "%5B%5D", false, text("%5B%5D"))
	tells(t, "\uFF3B", false, text("%EF%BC%BB"))
}

// TestEveryByteOfTexts holds each byte, at each place, against the chapter's list.
func TestEveryByteOfTexts(t *testing.T) {
	count := 0
	for i := range 256 {
		c := byte(i)
		it := string([]byte{c})
		if barred(c, false) {
			count++
		}
		for _, s := range []string{it, it + "a", "a" + it, "a" + it + "b", it + it, "much" + it + "longer", "a\x80" + it + "\xFF"} {
			if barred(c, false) {
				fails(t, s, false, api.ErrForm)
				continue
			}
			holds(t, s, false)
			if h, e := host.Parse(s, false); h.Kind != 4 || e != api.OK {
				t.Errorf("P8.1: Parse(%q, false) has Kind %d, %d", s, h.Kind, e)
			}
		}
	}
	if count != 17 {
		t.Errorf("the test itself: %d signs are barred", count)
	}
}

// wideOf is the sign that idna maps to c, where there is one.
func wideOf(c byte) (string, bool) {
	return string(rune(0xFEE0 + int(c))), 0x21 <= c && c <= 0x7E
}

// TestEverySignOfNames holds each sign below 80, as itself and as what percent signs and the mapping make of others,
// alone in a label and beside signs that puny tells.
func TestEverySignOfNames(t *testing.T) {
	count := 0
	for c := byte(0); c < 0x80; c++ {
		ways := []string{string([]byte{c}), byPercent(c), strings.ToLower(byPercent(c))}
		if wide, ok := wideOf(c); ok {
			ways = append(ways, wide, fmt.Sprintf("%%%X%%%X%%%X", wide[0], wide[1], wide[2]))
		}
		if barred(c, true) {
			count++
		}
		for _, it := range ways {
			for _, s := range []string{"a" + it, "a" + it + "b", "a." + it + ".b", "b" + it + it, "ü" + it, "ü" + it + "ü", "ü." + it + "b"} {
				if barred(c, true) {
					fails(t, s, true, api.ErrForm)
					continue
				}
				holds(t, s, true)
			}
			if barred(c, true) {
				fails(t, it, true, api.ErrForm)
				fails(t, it+"a", true, api.ErrForm)
			}
		}
	}
	// 0 to 1F, `%`, 7F, and those of texts that are above 1F.
	if count != 32+2+13 {
		t.Errorf("the test itself: %d signs are barred", count)
	}
}

// TestBesideTheBarred: the neighbours of barred signs that a name may have.
func TestBesideTheBarred(t *testing.T) {
	for _, c := range []byte("!\"$&.0;=AZ_`z{}~-") {
		want := named("a" + strings.ToLower(string([]byte{c})) + "b")
		tells(t, "a"+string([]byte{c})+"b", true, want)
		tells(t, "a"+byPercent(c)+"b", true, want)
		tells(t, "a"+string([]byte{c})+"b", false, text("a"+string([]byte{c})+"b"))
	}
	for _, c := range []byte{1, 8, 0xB, 0xC, 0xE, 0x1F, '%', 0x7F, 0x80} {
		if h, e := host.Parse("a"+string([]byte{c}), false); h.Kind != 4 || e != api.OK {
			t.Errorf("P8.1: Parse(%q, false) = %s, %d", []byte{'a', c}, short(h), e)
		}
	}
	// No percent sign is read twice.
	for _, s := range []string{"%", "a%", "%4", "%zz", "%2", "%25", "%2541", "%25%34%31", "%%34", "%%41", "\uFF05", "\uFF0541", "%EF%BC%8541"} {
		fails(t, s, true, api.ErrForm)
	}
	// Signs from 80 on are barred by idna alone, and a blank that is another sign is none.
	fails(t, "a\u0080", true, api.ErrForm)
	fails(t, "a%C2%A0", true, api.ErrForm)
	fails(t, "a\uE000b", true, api.ErrForm)
	tells(t, "\u3000", true, named("xn--"+encoded(t, 0x3000)))
	// What puny tells has its own signs below 80 ahead, and those are barred as well.
	fails(t, "xn--a b-"+strings.TrimPrefix(encoded(t, 'a', ' ', 'b', 0xFC), "a b-"), true, api.ErrForm)
	fails(t, "xn--"+encoded(t, '%', 0xFC), true, api.ErrForm)
	fails(t, "xn--"+encoded(t, '/', 0xFC), true, api.ErrForm)
	tells(t, "xn--"+encoded(t, '!', 0xFC), true, named("xn--"+encoded(t, '!', 0xFC)))
}

func encoded(t *testing.T, l ...int) string {
	t.Helper()
	s, e := puny.Encode(l)
	if e != api.OK {
		t.Fatalf("the test itself: puny.Encode(%x): %d", l, e)
	}
	return s
}

func TestPercentSigns(t *testing.T) {
	for s, want := range map[string]string{
		"%61": "a", "%41": "a", "%4a%6B": "jk", "a%2eb": "a.b", "a%2Eb": "a.b", "%78%6e--tda": "xn--tda", "b%C3%BCcher": "xn--bcher-kva", "b%c3%9ccher": "xn--bcher-kva",
		// One sign, a byte of it by percent signs and another as itself.
		"b%C3\xBCcher": "xn--bcher-kva", "b\xC3%BCcher": "xn--bcher-kva",
		"a%E3%80%82b": "a.b", "a%C2%ADb": "ab",
	} {
		tells(t, s, true, named(want))
	}
	// What is no UTF-8 is FFFD, as often as utf.Lossy says.
	for s, repairs := range map[string]int{
		"%80": 1, "\x80": 1, "%FF": 1, "%C3": 1, "%E2%82": 1, "\xE2%82": 1, "%F0%80": 2, "%ED%A0%80": 3, "%C0%AF": 2, "%F4%90%80%80": 4, "%C3%C3": 2, "\uFFFD": 1, "%EF%BF%BD": 1,
	} {
		signs := slices.Repeat([]int{0xFFFD}, repairs)
		tells(t, s, true, named("xn--"+encoded(t, signs...)))
		tells(t, "a"+s+"b", true, named("xn--"+encoded(t, slices.Concat([]int{'a'}, signs, []int{'b'})...)))
		tells(t, s+".1a", true, named("xn--"+encoded(t, signs...)+".1a"))
	}
	// C0 AF would be a slash, if it were read.
	fails(t, "%2F", true, api.ErrForm)
}

func TestNumbers(t *testing.T) {
	for s, want := range map[string]uint32{
		"1.2.3.4": 0x01020304, "1.2.3.4.": 0x01020304, "1.2.3": 0x01020003, "1.2": 0x01000002, "1": 1, "0": 0, "255.255.255.255": math.MaxUint32, "4294967295": math.MaxUint32, "0x7f.1": 0x7F000001, "0X7F.1": 0x7F000001, "0x": 0, "0x.0X": 0, "017.010": 0x0F000008, "00": 0,
		"%31.2": 0x01000002, "1%2E2": 0x01000002, "１.２": 0x01000002, "1。2": 0x01000002, "1\uFF612.": 0x01000002, "①.②": 0x01000002, "1\u00AD.2\u200B": 0x01000002, "²": 2, "0%58%41": 10, "３１": 31,
		bytesOf('0', 252) + "1": 1, bytesOf('0', 253): 0,
	} {
		tells(t, s, true, four(want))
	}
	for _, s := range []string{"a.1", "a.0x10", "a.b.9.", "1.2.3.4.5", "1..2", ".1", "..1", "08", "1.09", "0xg.1", "1.a.2", "-1.2", "1.-.0x", "a_b.00", "example.0x", "xn--tda.1", "ü.1", "0x1g.0", "1.2.3.4.0x", "a%2E1", "a。１"} {
		fails(t, s, true, api.ErrForm)
	}
	for _, s := range []string{"256.1", "1.256.1", "1.2.256.1", "1.2.3.256", "1.2.65536", "1.16777216", "4294967296", "0x100000000", "040000000000", "256.256.256.256", "99999999999999999999", "1.2.3.0x100.", "２５６.１"} {
		fails(t, s, true, api.ErrRange)
	}
	// A name that only looks so.
	for _, s := range []string{"1.a", "1.2.3.4a", "1.2.3.a4", "a1", "1a", "0xg", "a.0xg", "1.2.3.0x1g", "1.-1", "1.+1", "1-", "0x0x", "x1", "1.2.3.4..", "1..", "4294967296a", "256.1.a", "1.2.3.4.5.a", "08a", "0b1", "1e1", "1,1"} {
		tells(t, s, true, named(s))
	}
	// Of no special scheme nothing is a number.
	for _, s := range []string{"1.2.3.4", "a.1", "256.1", "0x", "1", "1.2.3.4.5"} {
		tells(t, s, false, text(s))
	}
}

func TestAtMaxText(t *testing.T) {
	most := api.MaxText
	tells(t, bytesOf('a', most), false, text(bytesOf('a', most)))
	tells(t, bytesOf('A', most-1), false, text(bytesOf('A', most-1)))
	tells(t, bytesOf('%', most), false, text(bytesOf('%', most)))
	tells(t, bytesOf(0x80, most), false, text(strings.Repeat("%80", most)))
	fails(t, bytesOf('a', most-1)+" ", false, api.ErrForm)
	fails(t, bytesOf('a', most), true, api.ErrLimit)
	// Few signs may be many bytes; what a name leaves out counts as a sign.
	tells(t, strings.Repeat("%61", 200)+strings.Repeat("%EF%BB%BF", 56), true, named(bytesOf('a', 200)))
	// A bracket ahead, which closes or does not.
	for _, s := range []string{"[" + bytesOf('a', most-1), "[" + bytesOf('a', most-2) + "]", "[::" + bytesOf('0', most-4) + "]", bytesOf('[', most), "[::1]" + bytesOf('a', most-5)} {
		if len(s) != most {
			t.Fatalf("the test itself: %d bytes", len(s))
		}
		bothFail(t, s, api.ErrForm)
		bothFail(t, s+"]", api.ErrLong)
		bothFail(t, s+"a", api.ErrLong)
	}
	// All that would be another error, or none, is too long first.
	for _, c := range []byte{'a', ' ', '/', '[', ']', '%', 0, 0x7F, 0x80, 0xFF, '1', '.', ':'} {
		for _, n := range []int{1, 2, 1000, 1 << 20} {
			bothFail(t, bytesOf(c, most+n), api.ErrLong)
		}
	}
	bothFail(t, strings.Repeat("%C2%AD", most/6+1), api.ErrLong)
	bothFail(t, "[::1]"+bytesOf(' ', most-4), api.ErrLong)
}

func TestLimitsOfNames(t *testing.T) {
	tells(t, bytesOf('a', 253), true, named(bytesOf('a', 253)))
	tells(t, bytesOf('a', 253)+"\u00AD\u00AD\u00AD", true, named(bytesOf('a', 253)))
	fails(t, bytesOf('a', 254), true, api.ErrLong)
	fails(t, bytesOf('a', 256), true, api.ErrLong)
	fails(t, bytesOf('a', 257), true, api.ErrLimit)
	fails(t, bytesOf('a', 253)+"\u00AD\u00AD\u00AD\u00AD", true, api.ErrLimit)
	fails(t, strings.Repeat("a.", 128), true, api.ErrLong)
	tells(t, strings.Repeat("a.", 126)+"a", true, named(strings.Repeat("a.", 126)+"a"))
	fails(t, strings.Repeat("%80", 257), true, api.ErrLimit)
	fails(t, "xn--a", true, api.ErrForm)
	fails(t, "a.xn--.b", true, api.ErrForm)
	fails(t, "xn--ü", true, api.ErrForm)
	fails(t, "xn--%C3%BC", true, api.ErrForm)
}

// TestWhichErrorIsFirst: where two errors fit, the one that P8.1 names first.
func TestWhichErrorIsFirst(t *testing.T) {
	// idna's beside a barred sign, and beside a number out of its bounds.
	for _, c := range barredSigns {
		it := string([]byte{c})
		fails(t, bytesOf('a', 256)+it, true, api.ErrLimit)
		fails(t, bytesOf('a', 253)+it, true, api.ErrLong)
		fails(t, "xn--a."+it, true, api.ErrForm)
	}
	for _, c := range []string{"%", "%25", "%00", "%1F", "%7F", "%20"} {
		fails(t, bytesOf('a', 256)+c, true, api.ErrLimit)
		fails(t, bytesOf('a', 253)+c, true, api.ErrLong)
	}
	fails(t, bytesOf('9', 257), true, api.ErrLimit)
	fails(t, bytesOf('9', 254), true, api.ErrLong)
	fails(t, bytesOf('9', 253), true, api.ErrRange)
	fails(t, bytesOf('1', 250)+".256.1", true, api.ErrLong)
	// A barred sign is one ahead of any number; a part that is none comes ahead of one out of its bounds.
	fails(t, "256. .256", true, api.ErrForm)
	fails(t, "256.1.1.1.256", true, api.ErrForm)
	fails(t, "a.256", true, api.ErrForm)
	fails(t, "256.256", true, api.ErrRange)
	// A bracket that does not close, ahead of what stands behind it.
	bothFail(t, "["+bytesOf('a', 300), api.ErrForm)
	bothFail(t, "[256.1", api.ErrForm)
}

// ways are pieces of texts of which some change what others mean.
var ways = []string{"a", "B", "1", "0x", ".", "-", "[", "]", ":", "::", "%", "%2e", "%5B", "4", "256", "xn--", "tda", "ü", "\u00AD", "\xC3", "\xBC", "％", "。", " ", "\x1F", "\x7F", "%C3"}

func TestOfAllShort(t *testing.T) {
	l := []string{""}
	for range 3 {
		var longer []string
		for _, s := range l {
			for _, way := range ways {
				longer = append(longer, s+way)
			}
		}
		for _, s := range longer {
			holds(t, s, true)
			holds(t, s, false)
			if t.Failed() {
				return
			}
		}
		l = longer
	}
}

func TestOfRandom(t *testing.T) {
	r := rand.New(rand.NewSource(81))
	for range 60000 {
		s := randomText(r)
		holds(t, s, true)
		holds(t, s, false)
		if t.Failed() {
			return
		}
	}
}

// randomText tells bytes, a number, something between brackets, or pieces that change what others mean.
func randomText(r *rand.Rand) string {
	switch r.Intn(4) {
	case 0:
		b := make([]byte, r.Intn(12))
		r.Read(b)
		return string(b)
	case 1:
		forms := []string{"%d.%d", "%d.%d.", "0x%x.%o", "%d.0%o", "a%d.%d", "%d.0X%X"}
		return fmt.Sprintf(forms[r.Intn(len(forms))], r.Intn(300), r.Uint64()>>uint(r.Intn(64)))
	case 2:
		forms := []string{"[%x::%x]", "[::%d.%d.1.2]", "[%x:%x]", "[%x::%x:]", "%x[::%x]", "[%x::%x"}
		return fmt.Sprintf(forms[r.Intn(len(forms))], r.Intn(300), r.Intn(300))
	}
	s := ""
	for range r.Intn(9) {
		s += ways[r.Intn(len(ways))]
	}
	return s
}

func TestPrint(t *testing.T) {
	whole := api.Host{Name: "A b%\x80/", Four: 0x01020304, Six: [8]uint16{1, 0, 0, 0, 0, 0, 0, 2}}
	for kind, want := range map[int]string{0: "", 1: "A b%\x80/", 2: "1.2.3.4", 3: "[1::2]", 4: "A b%\x80/", 5: "", 6: "", -1: "", -2: "", -4: "", 256: "", 257: "", 260: "", 1<<32 + 1: "", math.MaxInt: "", math.MinInt: "", math.MinInt + 1: ""} {
		h := whole
		h.Kind = kind
		if s := host.Print(h); s != want {
			t.Errorf("P8.2: Print(%s) = %q, not %q", short(h), s, want)
		}
	}
	for want, h := range map[string]api.Host{
		"example.com": named("example.com"), "0.0.0.0": four(0), "255.255.255.255": four(math.MaxUint32), "1.0.0.2": four(0x01000002), "[::]": six(0, 0, 0, 0, 0, 0, 0, 0), "[1:2:3:4:5:6:7:8]": six(1, 2, 3, 4, 5, 6, 7, 8), "[abcd::1:0:0:1]": six(0xABCD, 0, 0, 0, 1, 0, 0, 1), "a%20": text("a%20"), bytesOf('a', 5000): text(bytesOf('a', 5000)),
	} {
		if s := host.Print(h); s != want {
			t.Errorf("P8.2: Print(%s) = %.60q, not %.60q", short(h), s, want)
		}
	}
	for _, h := range []api.Host{{}, named(""), text("")} {
		if s := host.Print(h); s != "" {
			t.Errorf("P8.2: Print(%s) = %q", short(h), s)
		}
	}
}

// may wants that May of h is want.
func may(t *testing.T, h api.Host, want bool) {
	t.Helper()
	if host.May(h) != want {
		t.Errorf("P8.2: May(%s) = %v", short(h), !want)
	}
}

func TestMayBe(t *testing.T) {
	for _, h := range []api.Host{
		{}, named("a"), named("example.com"), named("."), named("a."), named("xn--tda"), named("1.a"), named("1.2.3.4.."), named("a_b!"), named(bytesOf('a', 253)),
		four(0), four(1), four(0x01020304), four(math.MaxUint32), six(0, 0, 0, 0, 0, 0, 0, 0), six(1, 2, 3, 4, 5, 6, 7, 8), six(0, 0, 0, 0, 0, 0xFFFF, 0x0102, 0x0304),
		text("a"), text("A"), text("1.2.3.4"), text("a.1"), text("%"), text("%80"), text("%zz"), text("%2f"), text("xn--a"), text("."), text(bytesOf('a', 254)), text(bytesOf('a', api.MaxText)), text(strings.Repeat("%80", api.MaxText/3)),
	} {
		may(t, h, true)
	}
}

func TestMayNotBe(t *testing.T) {
	for _, s := range []string{
		"", "A", "eXample.com", "bücher", "\u00AD", "a\u00AD", "%61", "%", "a%25", "a b", "a/b", "a\x00", "a\x1F", "a\x7F", "\x80", "[::1]", "[", "]", "::1", "xn--a", "xn--", "XN--TDA", "ａ", "。",
		"1", "1.2.3.4", "a.1", "256.1", "0x", "a.0x", "1.2.3.4.", "1.2.3.4.5", bytesOf('a', 254), bytesOf('a', 257), bytesOf('a', api.MaxText+1),
	} {
		may(t, named(s), false)
	}
	for _, s := range []string{"", "a b", "a\x00", "\t", "a\n", "\r", "a#", "a/b", "a:1", "<", ">", "?", "a@b", "[", "[::1]", "a[", "]", "\\", "^", "|", "\x01", "\x1F", "\x7F", "\x80", "\xFF", "ü", "a\x80", bytesOf('a', api.MaxText+1), bytesOf('a', 1<<20)} {
		may(t, text(s), false)
	}
	// Parse tells this one of fewer bytes, but not of its Print.
	may(t, text(strings.Repeat("%80", api.MaxText/3+1)), false)
	for _, kind := range []int{5, 6, 7, 255, 256, 257, 260, 1 << 32, 1<<32 + 1, math.MaxInt, -1, -2, -3, -4, -255, math.MinInt, math.MinInt + 1} {
		may(t, api.Host{Kind: kind}, false)
		may(t, api.Host{Kind: kind, Name: "a"}, false)
		may(t, api.Host{Kind: kind, Four: 1}, false)
		may(t, api.Host{Kind: kind, Six: [8]uint16{1}}, false)
	}
}

// TestMayWithAFieldTooMany sets, of hosts that may be, each field that is not their Kind's.
func TestMayWithAFieldTooMany(t *testing.T) {
	for _, h := range []api.Host{{}, named("a"), four(0), four(7), six(0, 0, 0, 0, 0, 0, 0, 0), six(1, 0, 0, 0, 0, 0, 0, 1), text("a")} {
		may(t, h, true)
		if h.Kind != 1 && h.Kind != 4 {
			for _, s := range []string{"a", "1.2.3.4", "\x00", " ", host.Print(h) + "."} {
				more := h
				more.Name = s
				may(t, more, false)
			}
		}
		if h.Kind != 2 {
			for _, n := range []uint32{1, 1 << 8, 1 << 31, math.MaxUint32} {
				more := h
				more.Four = n
				may(t, more, false)
			}
		}
		if h.Kind != 3 {
			for i := range 8 {
				more := h
				more.Six[i] = 1 << uint(2*i+1)
				may(t, more, false)
			}
		}
		for kind := range 5 {
			other := h
			other.Kind = kind
			// A zero value is a number of both; a name may be a text.
			zero := h.Name == "" && h.Four == 0 && h.Six == [8]uint16{}
			may(t, other, kind == h.Kind || zero && (kind == 0 || kind == 2 || kind == 3) || h.Name == "a" && (kind == 1 || kind == 4))
		}
	}
}

// TestMayOfRandom holds May of any host against the second reading of the chapter.
func TestMayOfRandom(t *testing.T) {
	r := rand.New(rand.NewSource(82))
	for range 60000 {
		h := api.Host{Kind: r.Intn(7) - 1}
		if r.Intn(3) > 0 {
			h.Name = randomText(r)
		}
		if h.Kind == 2 || r.Intn(6) == 0 {
			h.Four = r.Uint32() >> uint(r.Intn(33))
		}
		if h.Kind == 3 || r.Intn(6) == 0 {
			h.Six[r.Intn(8)] = uint16(r.Intn(3))
		}
		again, e := wanted(wantedPrint(h), isSpecial(h))
		may(t, h, e == api.OK && again == h)
		if t.Failed() {
			return
		}
	}
}

func TestParseOfPrint(t *testing.T) {
	r := rand.New(rand.NewSource(84))
	for range 30000 {
		returns(t, four(r.Uint32()>>uint(r.Intn(33))), true)
		var p [8]uint16
		for i := range p {
			p[i] = uint16(r.Intn(1<<16) >> uint(r.Intn(16)) * r.Intn(2))
		}
		h := api.Host{Kind: 3, Six: p}
		returns(t, h, true)
		returns(t, h, false)
		if t.Failed() {
			return
		}
	}
	for n := range 1400 {
		s := bytesOf(byte(0x80+n%0x80), n)
		h, e := host.Parse(s, false)
		if e != api.OK {
			t.Fatalf("P8.1: Parse of %d bytes: %d", n, e)
		}
		if again, e := host.Parse(host.Print(h), false); 3*n <= api.MaxText && (again != h || e != api.OK) {
			t.Errorf("P8.4: Parse(Print(%s)) = %s, %d", short(h), short(again), e)
		}
	}
}

// sameHosts are texts of one host a row, and no two rows of the same.
var sameHosts = []struct {
	special bool
	texts   []string
}{
	{true, []string{"example.com", "EXAMPLE.com", "%65xample.com", "ｅxample。com", "exam\u00ADple.com"}},
	{true, []string{"example.com.", "Example.Com。"}},
	{true, []string{"xn--bcher-kva", "bücher", "BÜCHER", "b%C3%BCcher", "b\xC3%BCcher"}},
	{true, []string{"1.2.0.3", "1.2.3", "0x01.2.3", "16908291", "1.2.3.", "１.2.3"}},
	{true, []string{"0", "0x", "0.0", "0.0.0.0."}},
	{true, []string{"0.0.0.1", "1"}},
	{true, []string{"[::]", "[0:0:0:0:0:0:0:0]", "[::0]", "[::0.0.0.0]"}},
	{true, []string{"[::1]", "[0::0001]", "[::0.0.0.1]"}},
	{true, []string{"[1::]", "[0001:0::0]"}},
	{true, []string{"[::1.2.0.3]", "[::102:3]"}},
	{false, []string{""}},
	{false, []string{"example.com"}},
	{false, []string{"EXAMPLE.com"}},
	{false, []string{"1.2.0.3"}},
	{false, []string{"%80", "\x80"}},
	{false, []string{"%C3%BC", "ü", "\xC3%BC", "%C3\xBC"}},
	{false, []string{"%c3%bc"}},
}

// TestHostsAreKeys: each row is one key, and no other row's.
func TestHostsAreKeys(t *testing.T) {
	keys := map[api.Host]int{}
	for row, same := range sameHosts {
		for _, s := range same.texts {
			h, e := host.Parse(s, same.special)
			if e != api.OK {
				t.Fatalf("P8.1: Parse(%q, %v): %d", s, same.special, e)
			}
			if first, found := keys[h]; found && first != row {
				t.Errorf("Ways: %q of row %d is the key of row %d", s, row, first)
			}
			keys[h] = row
		}
	}
	if len(keys) != len(sameHosts) {
		t.Errorf("Ways: %d keys of %d rows", len(keys), len(sameHosts))
	}
}

// TestKeysAreEqualHosts: a host finds another one's key just when each field is the same.
func TestKeysAreEqualHosts(t *testing.T) {
	var l []api.Host
	for kind := range 6 {
		for _, s := range []string{"", "a", "A"} {
			for _, n := range []uint32{0, 1} {
				for _, p := range [][8]uint16{{}, {0: 1}, {7: 1}} {
					l = append(l, api.Host{Kind: kind, Name: s, Four: n, Six: p})
				}
			}
		}
	}
	for _, a := range l {
		keys := map[api.Host]int{a: 1}
		for _, b := range l {
			b.Name = strings.Clone(b.Name)
			equal := a.Kind == b.Kind && a.Name == b.Name && a.Four == b.Four && slices.Equal(a.Six[:], b.Six[:])
			if (keys[b] == 1) != equal {
				t.Errorf("Ways: %s finds %s: %v", short(b), short(a), !equal)
			}
		}
	}
}

// TestHostsAreValues: what is written into one answer is seen in no other one.
func TestHostsAreValues(t *testing.T) {
	first, _ := host.Parse("[1:2:3:4:5:6:7:8]", true)
	first.Six[0], first.Name, first.Four, first.Kind = 9, "x", 9, 9
	bothTell(t, "[1:2:3:4:5:6:7:8]", six(1, 2, 3, 4, 5, 6, 7, 8))
	bothTell(t, "[::]", six(0, 0, 0, 0, 0, 0, 0, 0))
	tells(t, "a", true, named("a"))
	h := six(1, 0, 0, 0, 0, 0, 0, 1)
	before := h
	s := host.Print(h)
	host.May(h)
	h.Six[3] = 9
	if s != "[1::1]" || before != six(1, 0, 0, 0, 0, 0, 0, 1) || host.Print(before) != s {
		t.Errorf("P8.3: %q, %s", s, short(before))
	}
}

// TestAnsweredIsNewMemory writes over the memory of the texts that were handed in, which only a test may do.
func TestAnsweredIsNewMemory(t *testing.T) {
	for _, s := range []string{"a", "example.com", "a.b", "xn--tda", "1.a", "plain_text!"} {
		for _, special := range []bool{true, false} {
			b := []byte(s)
			h, e := host.Parse(unsafe.String(&b[0], len(b)), special)
			if string(b) != s {
				t.Errorf("P8.3: Parse changed %q to %q", s, b)
			}
			clear(b)
			if h.Name != s || e != api.OK {
				t.Errorf("P8.3: Parse(%q, %v) has %q, once the text was written over", s, special, h.Name)
			}
		}
		for _, kind := range []int{1, 4} {
			b := []byte(s)
			h := api.Host{Kind: kind, Name: unsafe.String(&b[0], len(b))}
			told, ok := host.Print(h), host.May(h)
			if string(b) != s || !ok {
				t.Errorf("P8.3: Print and May of %q: %q, %v", s, b, ok)
			}
			clear(b)
			if told != s {
				t.Errorf("P8.3: Print is %q, not %q, once the Name was written over", told, s)
			}
		}
	}
}

// TestTextsArePlain: a name has signs 21 to 7E alone, and so has a text.
func TestTextsArePlain(t *testing.T) {
	r := rand.New(rand.NewSource(85))
	for range 20000 {
		for _, special := range []bool{true, false} {
			h, _ := host.Parse(randomText(r), special)
			for _, c := range []byte(h.Name) {
				if c <= ' ' || c > 0x7E || slices.Contains(barredSigns, c) || special && c == '%' {
					t.Fatalf("P8.1: special %v: %q", special, h.Name)
				}
			}
		}
	}
}
