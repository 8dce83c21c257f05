package pct_test

import (
	"bytes"
	"fmt"
	"math"
	"math/rand"
	"net/url"
	"strings"
	"testing"

	"springhouse/pct"
)

const (
	bigLetters   = "ABCDEFGHIJKLMNOPQRSTUVWXYZ"
	smallLetters = "abcdefghijklmnopqrstuvwxyz"
	digits       = "0123456789"
)

// sets has the bytes from 20 to 7E that are in each set; all sets have those below and above.
var sets = []struct {
	name string
	set  int
	in   string
}{
	{"C0", pct.C0, ""},
	{"Fragment", pct.Fragment, " \"<>\x60"},
	{"Query", pct.Query, " \"#<>"},
	{"Special", pct.Special, " \"#<>'"},
	{"Path", pct.Path, " \"#<>?^\x60{}"},
	{"User", pct.User, " \"#<>?^\x60{}/:;=@[\\]|"},
	{"Component", pct.Component, " \"#<>?^\x60{}/:;=@[\\]|$%&+,"},
	{"Form", pct.Form, " !\"#$%&'()+,/:;<=>?@[\\]^\x60{|}~"},
}

// noSets are numbers of no set; some would be one if they were cut to 8 bits, to 16 or to 32, or taken mod 8 or 16.
var noSets = []int{
	0, 9, 10, 15, 16, 17, 24, 63, 64, 65, 71, 72, 100, 255, 256, 257, 263, 264, 265, 1<<16 + 1, 1<<16 + 8, 1 << 31, 1<<31 + 5, 1 << 32, 1<<32 + 1, 1<<32 + 7, 1<<32 + 8,
	math.MaxInt32, math.MaxInt - 7, math.MaxInt - 1, math.MaxInt,
	-1, -2, -3, -4, -5, -6, -7, -8, -9, -255, -256, -248, -1 << 16, -1<<16 + 8, -1 << 32, -1<<32 + 1, -1<<32 + 8, math.MinInt32, math.MinInt, math.MinInt + 1, math.MinInt + 7, math.MinInt + 8,
}

// everyByte has each byte once, in order.
func everyByte() []byte {
	b := make([]byte, 256)
	for i := range b {
		b[i] = byte(i)
	}
	return b
}

func wantedIn(in string, c byte) bool {
	return c <= 0x1F || c >= 0x7F || strings.IndexByte(in, c) >= 0
}

// wantedText is b with each byte that is in, by the chapter once more.
func wantedText(set int, in string, b []byte) string {
	s := ""
	for _, c := range b {
		switch {
		case c == ' ' && set == pct.Form:
			s += "+"
		case wantedIn(in, c):
			s += fmt.Sprintf("%%%02X", c)
		default:
			s += string([]byte{c})
		}
	}
	return s
}

// digitOf is the number of the digit c of 16, -1 if it is none.
func digitOf(c byte) int {
	n := strings.IndexByte("0123456789abcdefABCDEF", c)
	if n > 15 {
		return n - 6
	}
	return n
}

// wantedBytes is s told from its end to its beginning: what stands behind a percent sign hangs on nothing ahead of it.
func wantedBytes(s string) []byte {
	told := make([][]byte, len(s)+1)
	for i := len(s) - 1; i >= 0; i-- {
		c, rest := s[i], told[i+1]
		if c == '%' && i+2 < len(s) && digitOf(s[i+1]) >= 0 && digitOf(s[i+2]) >= 0 {
			c, rest = byte(16*digitOf(s[i+1])+digitOf(s[i+2])), told[i+3]
		}
		told[i] = append([]byte{c}, rest...)
	}
	return told[0]
}

// encodes wants that Encode of s by the set is want.
func encodes(t *testing.T, set int, s, want string) {
	t.Helper()
	if x := pct.Encode(set, []byte(s)); x != want {
		t.Errorf("P6.2: Encode(%d, %q) = %q, not %q", set, s, x, want)
	}
}

// decodes wants that Decode of s is want.
func decodes(t *testing.T, s, want string) {
	t.Helper()
	if b := pct.Decode(s); string(b) != want {
		t.Errorf("P6.2: Decode(%q) = %q, not %q", s, b, want)
	}
}

func randomBytes(r *rand.Rand, n int) []byte {
	b := make([]byte, n)
	r.Read(b)
	return b
}

func TestExamples(t *testing.T) {
	encodes(t, pct.Query, "a b'", "a%20b'")
	decodes(t, "%4a%4", "J%4")
}

func TestNumbersOfTheSets(t *testing.T) {
	for i, set := range []int{pct.C0, pct.Fragment, pct.Query, pct.Special, pct.Path, pct.User, pct.Component, pct.Form} {
		if set != i+1 {
			t.Errorf("Sets: %s is %d, not %d", sets[i].name, set, i+1)
		}
	}
}

func TestEveryByteOfEverySet(t *testing.T) {
	for i, c := range sets {
		count := 0
		for b := range 256 {
			want := wantedIn(c.in, byte(b))
			if pct.In(i+1, byte(b)) != want {
				t.Errorf("P6.1: In(%s, %02X) = %v", c.name, b, !want)
			}
			if want {
				count++
			}
		}
		// 32 from 0 on, 129 from 7F on.
		if want := 32 + 129 + len(c.in); count != want {
			t.Errorf("the test itself: %s has %d bytes, not %d", c.name, count, want)
		}
	}
}

func TestEdgesOfTheSets(t *testing.T) {
	for _, c := range sets {
		for b, want := range map[byte]bool{0: true, 1: true, 0x1E: true, 0x1F: true, 0x20: c.set != pct.C0, 0x7E: c.set == pct.Form, 0x7F: true, 0x80: true, 0x81: true, 0xA0: true, 0xBF: true, 0xC0: true, 0xFE: true, 0xFF: true} {
			if pct.In(c.set, b) != want {
				t.Errorf("P6.1: In(%s, %02X) = %v", c.name, b, !want)
			}
		}
		for _, b := range []byte(bigLetters + smallLetters + digits + "*-._") {
			if pct.In(c.set, b) {
				t.Errorf("P6.1: In(%s, %q)", c.name, b)
			}
		}
	}
	// The neighbours of digits and letters.
	for _, b := range []byte("/:@[\x60{") {
		if !pct.In(pct.Form, b) {
			t.Errorf("P6.1: not In(Form, %q)", b)
		}
	}
}

// TestWhatEachSetAdds holds each set against the one that the chapter makes it from.
func TestWhatEachSetAdds(t *testing.T) {
	for _, c := range []struct {
		set, from int
		added     string
	}{
		{pct.Fragment, pct.C0, " \"<>\x60"},
		{pct.Query, pct.C0, " \"#<>"},
		{pct.Special, pct.Query, "'"},
		{pct.Path, pct.Query, "?^\x60{}"},
		{pct.User, pct.Path, "/:;=@[\\]|"},
		{pct.Component, pct.User, "$%&+,"},
		{pct.Form, pct.Component, "!'()~"},
	} {
		added := ""
		for _, b := range everyByte() {
			switch {
			case pct.In(c.from, b) && !pct.In(c.set, b):
				t.Errorf("P6.1: %02X is in %d and not in %d", b, c.from, c.set)
			case pct.In(c.set, b) && !pct.In(c.from, b):
				added += string([]byte{b})
			}
		}
		want := []byte(c.added)
		for _, b := range want {
			if strings.IndexByte(added, b) < 0 {
				t.Errorf("P6.1: %d lacks %q", c.set, b)
			}
		}
		if len(added) != len(want) {
			t.Errorf("P6.1: %d adds %q, not %q", c.set, added, want)
		}
	}
}

func TestNumbersOfNoSet(t *testing.T) {
	all := everyByte()
	for _, set := range noSets {
		for _, b := range all {
			if pct.In(set, b) {
				t.Errorf("P6.1: In(%d, %02X)", set, b)
			}
		}
		encodes(t, set, string(all), string(all))
		encodes(t, set, "a b%+\x00", "a b%+\x00")
		encodes(t, set, "", "")
	}
}

func TestEncodeOfNothing(t *testing.T) {
	for _, c := range sets {
		for _, b := range [][]byte{nil, {}, []byte("a b")[:0]} {
			if s := pct.Encode(c.set, b); s != "" {
				t.Errorf("P6.2: Encode(%s, nothing) = %q", c.name, s)
			}
		}
	}
}

func TestEncodeOfEveryByte(t *testing.T) {
	for _, c := range sets {
		for _, b := range everyByte() {
			encodes(t, c.set, string([]byte{b}), wantedText(c.set, c.in, []byte{b}))
			encodes(t, c.set, string([]byte{'a', b, b, 'z'}), "a"+wantedText(c.set, c.in, []byte{b, b})+"z")
		}
		encodes(t, c.set, string(everyByte()), wantedText(c.set, c.in, everyByte()))
	}
}

func TestEncodeAtTheEdges(t *testing.T) {
	edges := "\x1F\x20\x7E\x7F\x80\xFF"
	for set, want := range map[int]string{
		pct.C0:        "%1F ~%7F%80%FF",
		pct.Fragment:  "%1F%20~%7F%80%FF",
		pct.Query:     "%1F%20~%7F%80%FF",
		pct.Special:   "%1F%20~%7F%80%FF",
		pct.Path:      "%1F%20~%7F%80%FF",
		pct.User:      "%1F%20~%7F%80%FF",
		pct.Component: "%1F%20~%7F%80%FF",
		pct.Form:      "%1F+%7E%7F%80%FF",
	} {
		encodes(t, set, edges, want)
	}
}

func TestEncodeOrdinary(t *testing.T) {
	for _, c := range []struct {
		set     int
		s, want string
	}{
		{pct.C0, "a b\tc\n", "a b%09c%0A"},
		{pct.C0, "%41 \"#<>'", "%41 \"#<>'"},
		{pct.Fragment, "a#b \x60c\x60", "a#b%20%60c%60"},
		{pct.Query, "x=1&y=a b#", "x=1&y=a%20b%23"},
		{pct.Query, "\x60'", "\x60'"},
		{pct.Special, "it's", "it%27s"},
		{pct.Path, "it's", "it's"},
		{pct.Path, "a/b?c{d}^e", "a/b%3Fc%7Bd%7D%5Ee"},
		{pct.User, "me@here:8/;=|", "me%40here%3A8%2F%3B%3D%7C"},
		{pct.User, "[a]\\$", "%5Ba%5D%5C$"},
		{pct.Component, "$1,00 & 5%+", "%241%2C00%20%26%205%25%2B"},
		{pct.Component, "!'()~*-._", "!'()~*-._"},
		{pct.Form, "!'()~*-._", "%21%27%28%29%7E*-._"},
		{pct.Form, "a b  c+d", "a+b++c%2Bd"},
		{pct.Form, " ", "+"},
		{pct.Form, "+", "%2B"},
		{pct.Form, "bücher", "b%C3%BCcher"},
		{pct.Path, "bücher", "b%C3%BCcher"},
	} {
		encodes(t, c.set, c.s, c.want)
	}
}

// TestEncodeOnce: a percent sign that already tells a byte is one by itself, and stays where its set says so.
func TestEncodeOnce(t *testing.T) {
	for _, c := range sets {
		want := "%41%"
		if c.set >= pct.Component {
			want = "%2541%25"
		}
		encodes(t, c.set, "%41%", want)
	}
}

func TestEncodeAsTheLibrary(t *testing.T) {
	r := rand.New(rand.NewSource(61))
	// The library's form has `~` as it is, and `*` not.
	swap := strings.NewReplacer("~", "%7E", "%2A", "*")
	for range 1000 {
		b := randomBytes(r, r.Intn(60))
		if want, s := swap.Replace(url.QueryEscape(string(b))), pct.Encode(pct.Form, b); s != want {
			t.Fatalf("P6.2: Encode(Form, %q) = %q, not %q", b, s, want)
		}
	}
}

func TestDecodeOrdinary(t *testing.T) {
	for s, want := range map[string]string{
		"": "", "a": "a", "abc": "abc", "%41": "A", "%41%42": "AB", "a%20b": "a b", "%20": " ", "x%41y": "xAy", "%4a": "J", "%4A": "J", "%aF%Fa": "\xAF\xFA",
		"%00": "\x00", "%7f%7F": "\x7F\x7F", "%80%ff%FF": "\x80\xFF\xFF", "b%C3%BCcher": "bücher", "b%c3%bccher": "bücher",
		// What is told by percent signs is not read again.
		"%2541": "%41", "%25%34%31": "%41", "%25": "%", "%25%25": "%%", "%%32%35": "%25", "%2%35": "%25", "%252541": "%2541",
	} {
		decodes(t, s, want)
	}
}

func TestDecodeOdd(t *testing.T) {
	for s, want := range map[string]string{
		"%": "%", "a%": "a%", "%41%": "A%", "%4": "%4", "%a": "%a", "%F": "%F", "%g": "%g", "a%4": "a%4", "%41%4": "A%4", "% ": "% ", "%+": "%+", "%\x80": "%\x80",
		"%4g": "%4g", "%g4": "%g4", "%zz": "%zz", "%4G": "%4G", "%G4": "%G4", "%4 ": "%4 ", "% 4": "% 4", "%-1": "%-1", "%+1": "%+1", "%0x": "%0x", "%0x41": "%0x41", "%4\x00": "%4\x00", "%\x004": "%\x004",
		"%%": "%%", "%%%": "%%%", "%%%%": "%%%%", "%%41": "%A", "%%%41": "%%A", "%4%41": "%4A", "%4%": "%4%", "%%4": "%%4", "%41%41%": "AA%", "%%%4": "%%%4", "%g%41": "%gA", "%zz%41": "%zzA", "%4g1": "%4g1",
		"+": "+", "a+b": "a+b", "%2B": "+", "%2b+": "++", "%+41": "%+41", "++%20": "++ ",
		"\x80": "\x80", "\xFF": "\xFF", "\x80%41\xFF": "\x80A\xFF", "%4\xB1": "%4\xB1", "%\xB41": "%\xB41", "%\xC3\xBC": "%\xC3\xBC", "bücher": "bücher", "\xFF\xFE%": "\xFF\xFE%", "\xE2\x82": "\xE2\x82",
		"%４１": "%４１", "%u0041": "%u0041", "\\x41": "\\x41", "&#37;41": "&#37;41", "=41": "=41", "\x00\x1F\x7F": "\x00\x1F\x7F",
	} {
		decodes(t, s, want)
	}
}

func TestDecodeOfEveryDigit(t *testing.T) {
	for high, h := range []string{"0", "1", "2", "3", "4", "5", "6", "7", "8", "9", "aA", "bB", "cC", "dD", "eE", "fF"} {
		for low, l := range []string{"0", "1", "2", "3", "4", "5", "6", "7", "8", "9", "aA", "bB", "cC", "dD", "eE", "fF"} {
			for _, x := range h {
				for _, y := range l {
					decodes(t, "%"+string(x)+string(y), string([]byte{byte(16*high + low)}))
				}
			}
		}
	}
}

func TestDecodeOfEveryPair(t *testing.T) {
	for high := range 256 {
		for low := range 256 {
			pair := string([]byte{byte(high), byte(low)})
			for _, s := range []string{pair, "%" + pair, "%%" + pair, "%4" + pair, "%" + pair + "1"} {
				decodes(t, s, string(wantedBytes(s)))
			}
		}
		if t.Failed() {
			return
		}
	}
}

func TestDecodeOfAllShort(t *testing.T) {
	signs := "%4aF+g\xB4"
	l := []string{""}
	for range 6 {
		var longer []string
		for _, s := range l {
			for i := range len(signs) {
				longer = append(longer, s+signs[i:i+1])
			}
		}
		for _, s := range longer {
			decodes(t, s, string(wantedBytes(s)))
		}
		if t.Failed() {
			return
		}
		l = longer
	}
}

func TestLong(t *testing.T) {
	const n = 1 << 20
	encodes(t, pct.Component, strings.Repeat("%", n), strings.Repeat("%25", n))
	encodes(t, pct.Form, strings.Repeat(" ", n), strings.Repeat("+", n))
	encodes(t, pct.Path, strings.Repeat("a", n), strings.Repeat("a", n))
	decodes(t, strings.Repeat("%61", n), strings.Repeat("a", n))
	decodes(t, strings.Repeat("%", n), strings.Repeat("%", n))
	decodes(t, strings.Repeat("%4", n), strings.Repeat("%4", n))
}

func TestHandedInIsNotChanged(t *testing.T) {
	whole := bytes.Repeat(everyByte(), 2)
	before := bytes.Clone(whole)
	for set := -1; set <= 9; set++ {
		pct.Encode(set, whole[:256])
		pct.Encode(set, whole[30:140])
		pct.Encode(set, whole[:0])
	}
	if !bytes.Equal(whole, before) {
		t.Errorf("P6.3: % x", whole)
	}
	s := "a%41%4%+ b"
	again := strings.Clone(s)
	spoil(pct.Decode(s))
	plain := "nothing to tell"
	spoil(pct.Decode(plain))
	if s != again || plain != "nothing to tell" {
		t.Errorf("P6.3: %q, %q", s, plain)
	}
}

func TestBehindTheLengthIsNotRead(t *testing.T) {
	whole := []byte("a b c d e")
	for _, c := range sets {
		if s, want := pct.Encode(c.set, whole[:3]), wantedText(c.set, c.in, []byte("a b")); s != want {
			t.Errorf("P6.3: Encode(%s) = %q, not %q", c.name, s, want)
		}
	}
	s := "%41%42"
	for n, want := range []string{"", "%", "%4", "A", "A%", "A%4", "AB"} {
		if b := pct.Decode(s[:n]); string(b) != want {
			t.Errorf("P6.3: Decode(%q) = %q, not %q", s[:n], b, want)
		}
	}
}

func TestHandedInIsNotKept(t *testing.T) {
	// 0 is no set: even what stays as it is must not be the memory that was handed in.
	for set := 0; set <= 9; set++ {
		b := []byte("abc")
		s := pct.Encode(set, b)
		copy(b, "xyz")
		if s != "abc" {
			t.Errorf("P6.3: set %d: %q, once the argument was written into", set, s)
		}
		if x := pct.Encode(set, b); x != "xyz" {
			t.Errorf("P6.3: set %d: %q, an earlier argument was kept", set, x)
		}
	}
}

// spoil writes into all of b's memory, its spare room too.
func spoil(b []byte) {
	b = b[:cap(b)]
	for i := range b {
		b[i] = 0xEE
	}
}

// TestAnsweredIsNewMemory spoils each of three answers in turn: what is left must stay as it was, and a later answer too.
func TestAnsweredIsNewMemory(t *testing.T) {
	for _, s := range []string{"", "a", "%41", "%", "%4", "nothing to tell", "%41%42%43%44%45%46%47%48", "a%20b+c%2", strings.Repeat("%61b", 50)} {
		want := wantedBytes(s)
		first, second := pct.Decode(s), pct.Decode(s)
		spoil(first)
		if !bytes.Equal(second, want) {
			t.Errorf("P6.3: Decode(%q): %q, once another answer was written into", s, second)
		}
		third := pct.Decode(s)
		spoil(second)
		if !bytes.Equal(third, want) {
			t.Errorf("P6.3: Decode(%q): %q, once an earlier answer was written into", s, third)
		}
		fourth := append(pct.Decode(s), "more"...)
		if fifth := append(pct.Decode(s), "less"...); string(fourth) != string(want)+"more" || string(fifth) != string(want)+"less" {
			t.Errorf("P6.3: Decode(%q): %q and %q, once both were appended to", s, fourth, fifth)
		}
	}
}

func TestDecodeOfEncode(t *testing.T) {
	back := func(b []byte) {
		t.Helper()
		s := pct.Encode(pct.Component, b)
		if x := pct.Decode(s); !bytes.Equal(x, b) {
			t.Fatalf("P6.4: %q became %q, and that %q", b, s, x)
		}
	}
	back(nil)
	back(everyByte())
	for _, c := range everyByte() {
		for _, d := range everyByte() {
			back([]byte{c, d})
			back([]byte{'%', c, d})
		}
	}
	for _, s := range []string{"%41", "%", "%4", "%%41", "%2541", "a+b", "a b", "%4a%4", "bücher", "\xFF\x00%zz"} {
		back([]byte(s))
	}
	r := rand.New(rand.NewSource(64))
	for range 2000 {
		back(randomBytes(r, r.Intn(200)))
	}
}
