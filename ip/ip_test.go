package ip_test

import (
	"fmt"
	"math/big"
	"math/rand"
	"net/netip"
	"regexp"
	"slices"
	"strings"
	"testing"

	"springhouse/api"
	"springhouse/ip"
)

// reads4 wants that Parse4 of s is want.
func reads4(t *testing.T, s string, want uint32) {
	t.Helper()
	if n, e := ip.Parse4(s); n != want || e != api.OK {
		t.Errorf("P7.2: Parse4(%.60q) (%d bytes) = %x, %d, not %x", s, len(s), n, e, want)
	}
}

// no4 wants that Parse4 of s is the error want, and nothing beside it.
func no4(t *testing.T, s string, want api.Errno) {
	t.Helper()
	if n, e := ip.Parse4(s); n != 0 || e != want {
		t.Errorf("P7.2: Parse4(%.60q) (%d bytes) = %x, %d, not %d", s, len(s), n, e, want)
	}
}

// reads6 wants that Parse6 of s is want.
func reads6(t *testing.T, s string, want [8]uint16) {
	t.Helper()
	if p, e := ip.Parse6(s); p != want || e != api.OK {
		t.Errorf("P7.3: Parse6(%.60q) (%d bytes) = %x, %d, not %x", s, len(s), p, e, want)
	}
}

// no6 wants that Parse6 of s is the error want, and nothing beside it.
func no6(t *testing.T, s string, want api.Errno) {
	t.Helper()
	if p, e := ip.Parse6(s); p != [8]uint16{} || e != want {
		t.Errorf("P7.3: Parse6(%.60q) (%d bytes) = %x, %d, not %d", s, len(s), p, e, want)
	}
}

// ends wants that Ends of s is want.
func ends(t *testing.T, s string, want bool) {
	t.Helper()
	if ip.Ends(s) != want {
		t.Errorf("P7.1: Ends(%.60q) (%d bytes) = %v", s, len(s), !want)
	}
}

// wantedParts is the parts of s, by the chapter once more: sign by sign.
func wantedParts(s string) []string {
	l := []string{""}
	for i := range len(s) {
		if s[i] == '.' {
			l = append(l, "")
		} else {
			l[len(l)-1] += s[i : i+1]
		}
	}
	if len(l) > 1 && l[len(l)-1] == "" {
		l = l[:len(l)-1]
	}
	return l
}

var (
	lastPart    = regexp.MustCompile(`^(?:[0-9]+|0[xX][0-9A-Fa-f]*)$`)
	sixteenPart = regexp.MustCompile(`^0[xX]([0-9A-Fa-f]*)$`)
	eightPart   = regexp.MustCompile(`^0([0-7]+)$`)
	tenPart     = regexp.MustCompile(`^(0|[1-9][0-9]*)$`)
)

// wantedEnds is Ends of s, by the chapter once more.
func wantedEnds(s string) bool {
	l := wantedParts(s)
	return lastPart.MatchString(l[len(l)-1])
}

// wantedNumber is a part's number without bounds, nil where it has none.
func wantedNumber(part string) *big.Int {
	for base, form := range map[int]*regexp.Regexp{16: sixteenPart, 8: eightPart, 10: tenPart} {
		if m := form.FindStringSubmatch(part); m != nil {
			n, _ := new(big.Int).SetString("0"+m[1], base)
			return n
		}
	}
	return nil
}

// wanted4 is Parse4 of s, by the chapter once more: without bounds, by powers.
func wanted4(s string) (uint32, api.Errno) {
	if len(s) > api.MaxText {
		return 0, api.ErrLimit
	}
	var numbers []*big.Int
	for _, part := range wantedParts(s) {
		numbers = append(numbers, wantedNumber(part))
	}
	if len(numbers) > 4 || slices.Contains(numbers, nil) {
		return 0, api.ErrForm
	}
	power := func(n int) *big.Int { return new(big.Int).Exp(big.NewInt(256), big.NewInt(int64(n)), nil) }
	last := len(numbers) - 1
	sum := new(big.Int).Set(numbers[last])
	if sum.Cmp(power(5-len(numbers))) >= 0 {
		return 0, api.ErrRange
	}
	for i, n := range numbers[:last] {
		if n.Cmp(big.NewInt(255)) > 0 {
			return 0, api.ErrRange
		}
		sum.Add(sum, new(big.Int).Mul(n, power(3-i)))
	}
	return uint32(sum.Uint64()), api.OK
}

const (
	piece   = `[0-9A-Fa-f]{1,4}`
	decimal = `(?:[0-9]|[1-9][0-9]|1[0-9][0-9]|2[0-4][0-9]|25[0-5])`
)

var (
	wholeRow = regexp.MustCompile(`^` + piece + `(?::` + piece + `)*$`)
	fourForm = regexp.MustCompile(`^(|.*:)(` + decimal + `)\.(` + decimal + `)\.(` + decimal + `)\.(` + decimal + `)$`)
)

// wanted6 is Parse6 of s, by the chapter once more: decimal numbers become two pieces, then `::` pieces of 0, then there are eight.
func wanted6(s string) ([8]uint16, api.Errno) {
	var p [8]uint16
	if len(s) > api.MaxText {
		return p, api.ErrLimit
	}
	if m := fourForm.FindStringSubmatch(s); m != nil {
		var b [4]int
		for i := range b {
			fmt.Sscanf(m[i+2], "%d", &b[i])
		}
		s = fmt.Sprintf("%s%02x%02x:%02x%02x", m[1], b[0], b[1], b[2], b[3])
	}
	l := []string{s}
	if at := strings.Index(s, "::"); at >= 0 {
		l = []string{s[:at], s[at+2:]}
	}
	var rows [][]string
	count := 0
	for _, one := range l {
		var row []string
		if one != "" {
			if !wholeRow.MatchString(one) {
				return p, api.ErrForm
			}
			row = strings.Split(one, ":")
		}
		rows = append(rows, row)
		count += len(row)
	}
	if len(rows) == 1 && count != 8 || len(rows) == 2 && count > 7 {
		return p, api.ErrForm
	}
	texts := slices.Clone(rows[0])
	if len(rows) == 2 {
		texts = append(append(texts, slices.Repeat([]string{"0"}, 8-count)...), rows[1]...)
	}
	for i, one := range texts {
		fmt.Sscanf(one, "%x", &p[i])
	}
	return p, api.OK
}

// wantedPrint6 is Print6 of p, by the chapter once more: the longest runs are tried first, each from the front on.
func wantedPrint6(p [8]uint16) string {
	var l []string
	for _, n := range p {
		l = append(l, fmt.Sprintf("%x", n))
	}
	for size := 8; size >= 2; size-- {
		for at := 0; at+size <= 8; at++ {
			if strings.Trim(strings.Join(l[at:at+size], ""), "0") == "" {
				return strings.Join(l[:at], ":") + "::" + strings.Join(l[at+size:], ":")
			}
		}
	}
	return strings.Join(l, ":")
}

// holds4 wants that Ends and Parse4 of s are what the second reading says.
func holds4(t *testing.T, s string) {
	t.Helper()
	ends(t, s, wantedEnds(s))
	if want, e := wanted4(s); e == api.OK {
		reads4(t, s, want)
	} else {
		no4(t, s, e)
	}
}

// holds6 wants that Parse6 of s is what the second reading says.
func holds6(t *testing.T, s string) {
	t.Helper()
	if want, e := wanted6(s); e == api.OK {
		reads6(t, s, want)
	} else {
		no6(t, s, e)
	}
}

// allOf hands each text of at most so many signs to f.
func allOf(t *testing.T, signs []string, most int, f func(*testing.T, string)) {
	l := []string{""}
	f(t, "")
	for range most {
		var longer []string
		for _, s := range l {
			for _, sign := range signs {
				longer = append(longer, s+sign)
				f(t, s+sign)
				if t.Failed() {
					return
				}
			}
		}
		l = longer
	}
}

func TestExamples(t *testing.T) {
	reads4(t, "0x7f.1", 0x7F000001)
	if s := ip.Print6([8]uint16{1, 0, 0, 0, 0, 0, 0, 1}); s != "1::1" {
		t.Errorf("P7.3: %q", s)
	}
	reads6(t, "::1.2.3.4", [8]uint16{6: 0x0102, 7: 0x0304})
	no6(t, "1:::2", api.ErrForm)
}

func TestEndsOrdinary(t *testing.T) {
	for s, want := range map[string]bool{
		"1": true, "0": true, "1.2.3.4": true, "example.1": true, "example.1.": true, "a.b.c.d.e.9": true, "00": true, "09": true, "0009": true, "08.09": true, "1234567890": true,
		"example": false, "example.com": false, "1.com": false, "1.2.3.4a": false, "1.2.3.a4": false, "1.2.3.4.a": false, "a.1 ": false, "a. 1": false, "a.+1": false, "a.-1": false, "a.1_0": false, "a.1,0": false,
	} {
		ends(t, s, want)
	}
}

func TestEndsOfNothing(t *testing.T) {
	for _, s := range []string{"", ".", "..", "...", "1..", "1...", "0x..", "a.", "a..", ".a", ".a."} {
		ends(t, s, false)
	}
	for _, s := range []string{"1.", ".1", ".1.", "..1", "..1.", "0x.", ".0x", ".0X."} {
		ends(t, s, true)
	}
}

func TestEndsBySixteen(t *testing.T) {
	for s, want := range map[string]bool{
		"0x": true, "0X": true, "a.0x": true, "a.0X": true, "a.0x.": true, "0x0": true, "0X0": true, "0xabcdef": true, "0XABCDEF": true, "0xAbCdEf09": true, "a.0x1F": true,
		"0xg": false, "0Xg": false, "0xG": false, "0x1g": false, "0xfg": false, "0x-1": false, "0x 1": false, "0x0x": false, "0x0x1": false, "00x": false, "00x1": false, "1x": false, "1x1": false, "x": false, "X1": false, "x0": false,
		"a1": false, "ff": false, "1f": false, "0a": false, "0f": false, "a.0ff": false, "0x\x80": false, "0x`": false, "0x@": false, "0x/": false, "0x:": false,
	} {
		ends(t, s, want)
	}
}

func TestEndsHasNoBounds(t *testing.T) {
	for _, n := range []int{api.MaxText - 1, api.MaxText, api.MaxText + 1, 1 << 20} {
		ends(t, strings.Repeat("9", n), true)
		ends(t, "0x"+strings.Repeat("f", n), true)
		ends(t, strings.Repeat("a", n)+".1", true)
		ends(t, strings.Repeat("1", n)+"a", false)
		ends(t, strings.Repeat("1.", n), true)
		ends(t, strings.Repeat(".", n), false)
	}
	ends(t, "1.2.3.4.5.6", true)
	ends(t, "a.999999999999999999999999999999999999", true)
	ends(t, "256.256.256.256", true)
}

func TestEndsOfEveryByte(t *testing.T) {
	for c := range 256 {
		s := string([]byte{byte(c)})
		for _, text := range []string{s, "1" + s, s + "1", "a." + s, "a.0" + s, "a.0x" + s, "a.0X1" + s, "0" + s + "1", s + ".1", "1." + s + "."} {
			holds4(t, text)
		}
	}
}

func TestParse4Ordinary(t *testing.T) {
	for s, want := range map[string]uint32{
		"0.0.0.0": 0, "1.2.3.4": 0x01020304, "127.0.0.1": 0x7F000001, "255.255.255.255": 0xFFFFFFFF, "192.168.0.1": 0xC0A80001, "10.0.0.200": 0x0A0000C8,
		"1.2.3.4.": 0x01020304, "1.2.3.": 0x01020003, "1.2.": 0x01000002, "1.": 1,
	} {
		reads4(t, s, want)
	}
}

// TestPlacesOfParts: the last part is all the bytes that are left, whatever stands ahead of it.
func TestPlacesOfParts(t *testing.T) {
	for s, want := range map[string]uint32{
		"0": 0, "7": 7, "256": 0x100, "65536": 0x10000, "305419896": 0x12345678,
		"1.2": 0x01000002, "1.256": 0x01000100, "1.65536": 0x01010000, "254.0": 0xFE000000,
		"1.2.3": 0x01020003, "1.2.256": 0x01020100, "254.253.0": 0xFEFD0000,
		"254.253.252.251": 0xFEFDFCFB,
	} {
		reads4(t, s, want)
		reads4(t, s+".", want)
	}
}

func TestBoundsOfParts(t *testing.T) {
	for s, want := range map[string]uint32{
		"4294967295": 0xFFFFFFFF, "1.16777215": 0x01FFFFFF, "1.2.65535": 0x0102FFFF, "1.2.3.255": 0x010203FF,
		"0xffffffff": 0xFFFFFFFF, "1.0xffffff": 0x01FFFFFF, "1.2.0xffff": 0x0102FFFF, "1.2.3.0xff": 0x010203FF,
		"037777777777": 0xFFFFFFFF, "1.077777777": 0x01FFFFFF, "1.2.0177777": 0x0102FFFF, "1.2.3.0377": 0x010203FF,
		"255.0": 0xFF000000, "255.0.0": 0xFF000000, "0.255.0": 0x00FF0000, "255.0.0.0": 0xFF000000, "0.255.0.0": 0x00FF0000, "0.0.255.0": 0x0000FF00,
		"0xff.0": 0xFF000000, "0377.0": 0xFF000000, "255.16777215": 0xFFFFFFFF, "255.255.65535": 0xFFFFFFFF,
	} {
		reads4(t, s, want)
	}
	for _, s := range []string{
		"4294967296", "1.16777216", "1.2.65536", "1.2.3.256", "0x100000000", "1.0x1000000", "1.2.0x10000", "1.2.3.0x100", "040000000000", "1.0100000000", "1.2.0200000", "1.2.3.0400",
		"256.0", "256.0.0", "0.256.0", "256.0.0.0", "0.256.0.0", "0.0.256.0", "0x100.0", "0400.0", "256.256.256.256", "257.1", "1.257.1", "512.0", "65536.0", "65537.1.1.1",
		// The greatest last one of one part fewer is too great.
		"0.4294967295", "0.0.16777215", "0.0.0.65535", "4294967295.0", "4294967296.0",
		// Behind a point at the end no part is told.
		"4294967296.", "256.0.0.0.", "0.0.0.256.",
	} {
		no4(t, s, api.ErrRange)
	}
}

func TestBasesOfParts(t *testing.T) {
	for s, want := range map[string]uint32{
		"0x": 0, "0X": 0, "0": 0, "00": 0, "000": 0, "0x0": 0, "0X0": 0, "0.0x": 0, "0x.0X.0x.0X": 0, "0x.": 0, "1.0x": 0x01000000, "0x.1": 1,
		"0x10": 16, "0X10": 16, "010": 8, "10": 10, "0xa": 10, "0XA": 10, "0xAbC": 0xABC, "0xf": 15, "0XF": 15, "0x9": 9, "07": 7, "017": 15, "0017": 15, "0000000000000017": 15, "0377.0X1": 0xFF000001,
		"1.2.3.010": 0x01020308, "1.2.3.0x10": 0x01020310, "0x1.02.3.0X4": 0x01020304, "8.1": 0x08000001, "0x08": 8, "0x09": 9,
		"0x00000000000000000000000000000000001": 1, "0000000000000000000000000000000000000001": 1,
	} {
		reads4(t, s, want)
	}
	for _, s := range []string{
		"08", "09", "018", "019", "008", "00009", "0778", "08.1.1.1", "1.08", "1.2.3.09", "0a", "0f", "0ff", "1a", "a", "f", "ff", "0xg", "0XG", "0x1g", "0xx", "0x0x", "0x0x1", "00x", "00x1", "1x", "x", "x1", "xff", "0b1", "0o7", "1e3",
		"-1", "+1", "-0", "+0", " 1", "1 ", "0x-1", "0x+1", "0x 1", "0-1", "0+1", "1_0", "0_1", "0x_1", "1,2", "1:2", "1/2", "1;2", "0x@", "0x`", "\x00", "1\x00", "\xB2", "\xD9\xA1", "１",
	} {
		no4(t, s, api.ErrForm)
	}
}

func TestCountOfParts(t *testing.T) {
	for _, s := range []string{
		"", ".", "..", "...", "....", ".....", "1..", "1.2..", "1.2.3..", "1.2.3.4..", "1.2.3.4...", ".1", ".1.2.3", ".1.2.3.4", "1..2", "1..2.3", "1.2..3", "1...2",
		"1.2.3.4.5", "1.2.3.4.5.", "1.2.3.4.0", "0.0.0.0.0", "0x.0x.0x.0x.0x", "1.2.3.4.5.6", "1.2.3.4.5.6.7.8", strings.Repeat("1.", 100),
	} {
		no4(t, s, api.ErrForm)
	}
}

func TestNumbersWithoutBounds(t *testing.T) {
	// Cut to 32 bits, to 64 or to 128 these would be small numbers.
	great := []string{
		"4294967296", "4294967297", "8589934592", "9223372036854775807", "9223372036854775808", "18446744073709551615", "18446744073709551616", "18446744073709551617", "340282366920938463463374607431768211457",
		"0x100000000", "0x100000001", "0x10000000000000000", "0x10000000000000001", "0xffffffffffffffffffff", "0x100000000000000000000000000000001",
		"040000000000", "040000000001", "02000000000000000000000", "02000000000000000000001", strings.Repeat("9", 1000), "0x" + strings.Repeat("f", 1000), "0" + strings.Repeat("7", 1000), "1" + strings.Repeat("0", 1000), "0x1" + strings.Repeat("0", 1000), "01" + strings.Repeat("0", 1000),
	}
	for _, s := range great {
		for _, text := range []string{s, s + ".", s + ".1", "1." + s, "1.1." + s, "1." + s + ".1", "1.1.1." + s, "1.1." + s + ".1", s + "." + s} {
			no4(t, text, api.ErrRange)
			holds4(t, text)
		}
	}
}

func TestParse4AtMaxText(t *testing.T) {
	most := api.MaxText
	reads4(t, strings.Repeat("0", most), 0)
	reads4(t, strings.Repeat("0", most-1)+"7", 7)
	reads4(t, "0x"+strings.Repeat("0", most-4)+"1f", 0x1F)
	reads4(t, "1.2.3."+strings.Repeat("0", most-8)+"4.", 0x01020304)
	no4(t, strings.Repeat("1", most), api.ErrRange)
	no4(t, strings.Repeat("a", most), api.ErrForm)
	no4(t, strings.Repeat(".", most), api.ErrForm)
	no4(t, strings.Repeat("1.", most/2), api.ErrForm)
	for _, more := range []int{1, 2, 1000, 1 << 20} {
		no4(t, strings.Repeat("0", most+more), api.ErrLimit)
		no4(t, strings.Repeat("1", most+more), api.ErrLimit)
		no4(t, strings.Repeat("a", most+more), api.ErrLimit)
		no4(t, strings.Repeat(".", most+more), api.ErrLimit)
		no4(t, "1.2.3."+strings.Repeat("0", most+more-8)+"4.", api.ErrLimit)
	}
	for n := most - 3; n <= most+3; n++ {
		holds4(t, strings.Repeat("0", n))
		holds4(t, strings.Repeat("0", n-1)+".")
	}
}

// TestWhichErrorOfParse4: the form of every part comes ahead of every bound.
func TestWhichErrorOfParse4(t *testing.T) {
	for _, s := range []string{
		"256.a", "256.09", "300.0xg", "256..1", "256.1.1.1.1", "999.999.999.999.999", "99999999999.x", "1.99999999999.x", "256.1.1.x", "a.256.1", "x.4294967296", "4294967296.x", "256..", "0x100.08.1", "0.256.0.0.0", "1.1.1.256..",
	} {
		no4(t, s, api.ErrForm)
	}
	no4(t, strings.Repeat("256.", 1001), api.ErrLimit)
	no4(t, strings.Repeat("256.", 1000), api.ErrForm)
}

func TestParse4OfAllShort(t *testing.T) {
	allOf(t, []string{"0", "1", "7", "9", "x", "X", "f", "."}, 6, holds4)
	allOf(t, []string{"0", "255", "256", "0x", "65535", "65536", "16777215", "16777216", ".", ".1", "g"}, 5, holds4)
}

func TestParse4OfRandom(t *testing.T) {
	r := rand.New(rand.NewSource(72))
	forms := []string{"%d", "0%o", "0x%x", "0X%X", "00%o", "0x0%x"}
	for range 50000 {
		var l []string
		for range 1 + r.Intn(5) {
			n := r.Int63n(1<<uint(1+r.Intn(36))) + int64(r.Intn(2))
			l = append(l, fmt.Sprintf(forms[r.Intn(len(forms))], n))
		}
		s := strings.Join(l, ".") + strings.Repeat(".", r.Intn(5)/4)
		holds4(t, s)
		if r.Intn(4) == 0 {
			holds4(t, disturb(r, s, "0123456789abcdefxX.- "))
		}
		if t.Failed() {
			return
		}
	}
}

// disturb puts another sign into s, or takes one away.
func disturb(r *rand.Rand, s, signs string) string {
	at, sign := r.Intn(len(s)), r.Intn(len(signs))
	return s[:at] + signs[sign:sign+r.Intn(2)] + s[at+r.Intn(2):]
}

func TestPrint4(t *testing.T) {
	for n, want := range map[uint32]string{
		0: "0.0.0.0", 1: "0.0.0.1", 255: "0.0.0.255", 256: "0.0.1.0", 0xFFFF: "0.0.255.255", 0x10000: "0.1.0.0", 0xFFFFFF: "0.255.255.255", 0x1000000: "1.0.0.0",
		0x01020304: "1.2.3.4", 0x7FFFFFFF: "127.255.255.255", 0x80000000: "128.0.0.0", 0xFFFFFFFF: "255.255.255.255", 0xFF000000: "255.0.0.0", 0x0A640909: "10.100.9.9", 0x63640A09: "99.100.10.9",
	} {
		if s := ip.Print4(n); s != want {
			t.Errorf("P7.2: Print4(%x) = %q, not %q", n, s, want)
		}
	}
	for place := range 4 {
		for b := range 256 {
			n := uint32(b) << (8 * place)
			if s, want := ip.Print4(n), fmt.Sprintf("%d.%d.%d.%d", n>>24, n>>16&255, n>>8&255, n&255); s != want {
				t.Errorf("P7.2: Print4(%x) = %q, not %q", n, s, want)
			}
		}
	}
}

func TestParse6Ordinary(t *testing.T) {
	for s, want := range map[string][8]uint16{
		"1:2:3:4:5:6:7:8":                         {1, 2, 3, 4, 5, 6, 7, 8},
		"0:0:0:0:0:0:0:0":                         {},
		"0000:0000:0000:0000:0000:0000:0000:0000": {},
		"ffff:ffff:ffff:ffff:ffff:ffff:ffff:ffff": {0xFFFF, 0xFFFF, 0xFFFF, 0xFFFF, 0xFFFF, 0xFFFF, 0xFFFF, 0xFFFF},
		"2001:db8::1":                             {0x2001, 0xDB8, 7: 1},
		"2001:DB8::1":                             {0x2001, 0xDB8, 7: 1},
		"fe80::aBcD:Ef01":                         {0xFE80, 6: 0xABCD, 7: 0xEF01},
		"0123:4567:89ab:cdef:CDEF:89AB:4567:0123": {0x0123, 0x4567, 0x89AB, 0xCDEF, 0xCDEF, 0x89AB, 0x4567, 0x0123},
		"1:12:123:1234::":                         {1, 0x12, 0x123, 0x1234},
		"::ffff:192.168.0.1":                      {5: 0xFFFF, 6: 0xC0A8, 7: 0x0001},
	} {
		reads6(t, s, want)
	}
}

func TestShortened(t *testing.T) {
	for s, want := range map[string][8]uint16{
		"::": {}, "::1": {7: 1}, "1::": {1}, "1::2": {0: 1, 7: 2}, "::1:2": {6: 1, 7: 2}, "1:2::": {1, 2}, "1:2::3": {0: 1, 1: 2, 7: 3}, "1::2:3": {0: 1, 6: 2, 7: 3},
		"::0": {}, "0::": {}, "0::0": {}, "0:0::0:0": {}, "::0:0:0:0:0:0:0": {}, "0:0:0:0:0:0:0::": {},
		// Seven pieces: `::` is one.
		"::2:3:4:5:6:7:8": {0, 2, 3, 4, 5, 6, 7, 8}, "1::3:4:5:6:7:8": {1, 0, 3, 4, 5, 6, 7, 8}, "1:2::4:5:6:7:8": {1, 2, 0, 4, 5, 6, 7, 8}, "1:2:3::5:6:7:8": {1, 2, 3, 0, 5, 6, 7, 8}, "1:2:3:4::6:7:8": {1, 2, 3, 4, 0, 6, 7, 8},
		"1:2:3:4:5::7:8": {1, 2, 3, 4, 5, 0, 7, 8}, "1:2:3:4:5:6::8": {1, 2, 3, 4, 5, 6, 0, 8}, "1:2:3:4:5:6:7::": {1, 2, 3, 4, 5, 6, 7, 0},
		// Six: it is two.
		"::3:4:5:6:7:8": {0, 0, 3, 4, 5, 6, 7, 8}, "1:2:3::6:7:8": {1, 2, 3, 0, 0, 6, 7, 8}, "1:2:3:4:5:6::": {1, 2, 3, 4, 5, 6, 0, 0},
	} {
		reads6(t, s, want)
	}
}

func TestNoShortened(t *testing.T) {
	for _, s := range []string{
		"", ":", ":::", "::::", ":::::", "1:::2", "1:::", ":::1", "1::::2", "::1::", "1::2::3", "1::2::", "::1::2", "::::1", "1::::", "1:2:::3", "1:::2:3",
		":1", "1:", ":1:", ":1:2:3:4:5:6:7:8", "1:2:3:4:5:6:7:8:", ":1::", "::1:", ":1::2", "1::2:", ":1:2:3:4:5:6:7", "1:2:3:4:5:6:7:", ":2:3:4:5:6:7:8", ":1.2.3.4", "1:2:3:4:5:6::7:", "1: :2",
	} {
		no6(t, s, api.ErrForm)
	}
}

func TestCountOfPieces(t *testing.T) {
	for _, s := range []string{
		"1", "1:2", "1:2:3", "1:2:3:4", "1:2:3:4:5", "1:2:3:4:5:6", "1:2:3:4:5:6:7", "1:2:3:4:5:6:7:8:9", "1:2:3:4:5:6:7:8:9:a", "0:0:0:0:0:0:0:0:0", strings.Repeat("1:", 100) + "1",
		// Of eight pieces and more nothing is left for `::`.
		"::1:2:3:4:5:6:7:8", "1::2:3:4:5:6:7:8", "1:2:3:4::5:6:7:8", "1:2:3:4:5:6:7::8", "1:2:3:4:5:6:7:8::", "0:0:0:0:0:0:0:0::", "::1:2:3:4:5:6:7:8:9", "1:2:3:4:5::6:7:8:9", "1:2:3:4:5:6:7:8:9::", "1:2:3:4:5:6:7:8::1:2:3:4:5:6:7:8",
	} {
		no6(t, s, api.ErrForm)
	}
}

func TestDigitsOfPieces(t *testing.T) {
	for place := range 8 {
		for _, text := range []string{"0", "00", "000", "0000", "1", "12", "123", "1234", "0001", "0010", "9", "a", "f", "A", "F", "ffff", "FFFF", "aBcD"} {
			l := strings.Split("1:2:3:4:5:6:7:8", ":")
			l[place] = text
			want := [8]uint16{1, 2, 3, 4, 5, 6, 7, 8}
			fmt.Sscanf(text, "%x", &want[place])
			reads6(t, strings.Join(l, ":"), want)
		}
		for _, text := range []string{"", "00000", "00001", "12345", "0ffff", "fffff", "10000", "000000", "0x1", "x", "g", "G", "1g", "g1", "-1", "+1", " 1", "1 ", "1_", "@", "`", "/", "\x00", "\xFF", "１", "1%", "%1", "]", "[1", ".", "1.", ".1", "1.2", "1.2.3"} {
			l := strings.Split("1:2:3:4:5:6:7:8", ":")
			l[place] = text
			if text == "" && 0 < place && place < 7 {
				continue // this is `::`, in place of one piece
			}
			no6(t, strings.Join(l, ":"), api.ErrForm)
		}
	}
	for _, s := range []string{"12345::", "::12345", "00000::", "::00000", "g::", "::g", "::0x1", "::1%eth0", "[::1]", " ::", ":: ", "::1 ", "1 ::", "::-1", "::+1", "1;:2", "fe80::1%25"} {
		no6(t, s, api.ErrForm)
	}
}

func TestParse6OfEveryByte(t *testing.T) {
	for c := range 256 {
		s := string([]byte{byte(c)})
		for _, text := range []string{s, s + "::", "::" + s, "1::2" + s, "1:2:3:4:5:6:7:" + s, s + ":2:3:4:5:6:7:8", "1:2:3" + s + "4:5:6:7:8", "::1.2.3." + s, "::1.2.3" + s + "4", "::" + s + ".2.3.4", "::1.2.3.4" + s, "::1.2" + s + ".3.4", ":" + s + "1"} {
			holds6(t, text)
		}
	}
}

func TestDecimalBehindPieces(t *testing.T) {
	for s, want := range map[string][8]uint16{
		"1:2:3:4:5:6:7.8.9.10": {1, 2, 3, 4, 5, 6, 0x0708, 0x090A}, "::1.2.3.4": {6: 0x0102, 7: 0x0304}, "1::1.2.3.4": {0: 1, 6: 0x0102, 7: 0x0304}, "1:2:3:4:5::1.2.3.4": {1, 2, 3, 4, 5, 0, 0x0102, 0x0304}, "::2:3:4:5:6:1.2.3.4": {0, 2, 3, 4, 5, 6, 0x0102, 0x0304},
		"1::6:1.2.3.4": {0: 1, 5: 6, 6: 0x0102, 7: 0x0304}, "::0.0.0.0": {}, "::255.255.255.255": {6: 0xFFFF, 7: 0xFFFF}, "::0.0.0.255": {7: 0xFF}, "::0.0.255.0": {7: 0xFF00}, "::0.255.0.0": {6: 0xFF}, "::255.0.0.0": {6: 0xFF00}, "::10.20.30.40": {6: 0x0A14, 7: 0x1E28}, "::100.99.9.109": {6: 0x6463, 7: 0x096D},
	} {
		reads6(t, s, want)
	}
	for _, s := range []string{
		// Not behind six pieces, nor fewer with `::`.
		"1.2.3.4", "1:1.2.3.4", "1:2:3:4:5:1.2.3.4", "1:2:3:4:5:6:7:1.2.3.4", "1:2:3:4:5:6:7:8:1.2.3.4", "1:2:3:4:5:6::1.2.3.4", "::1:2:3:4:5:6:1.2.3.4", "1:2:3::4:5:6:1.2.3.4", "1:2:3:4:5:6:7::1.2.3.4",
		// Not at the end.
		"1.2.3.4::", "1.2.3.4::1", "::1.2.3.4:5", "::1.2.3.4:", "::1.2.3.4::", "1.2.3.4:3:4:5:6:7:8", "1:2:1.2.3.4:5:6:7:8", "1:1.2.3.4::", "1:2:3:4:5:1.2.3.4::", "1::1.2.3.4:5.6.7.8", "::1.2.3.4:1.2.3.4",
		// Not at the beginning of the text, nor behind one `:` there.
		":1.2.3.4", ":::1.2.3.4",
	} {
		no6(t, s, api.ErrForm)
	}
}

func TestDecimalNumbersOfParse6(t *testing.T) {
	for place := range 4 {
		for n := range 256 {
			l := strings.Split("1.2.3.4", ".")
			l[place] = fmt.Sprint(n)
			b := [4]uint16{1, 2, 3, 4}
			b[place] = uint16(n)
			want := [8]uint16{6: 256*b[0] + b[1], 7: 256*b[2] + b[3]}
			reads6(t, "::"+strings.Join(l, "."), want)
			reads6(t, "0:0:0:0:0:0:"+strings.Join(l, "."), want)
		}
		for _, text := range []string{"", "256", "257", "300", "999", "1000", "65536", "4294967296", "4294967297", "18446744073709551616", "18446744073709551617", strings.Repeat("9", 1000), "00", "01", "010", "001", "000", "0255", "0x1", "0x", "a", "f", "1a", "-1", "+1", " 1", "1 ", "/", ":", ";", "\x00", "１"} {
			l := strings.Split("1.2.3.4", ".")
			l[place] = text
			no6(t, "::"+strings.Join(l, "."), api.ErrForm)
			no6(t, "1:2:3:4:5:6:"+strings.Join(l, "."), api.ErrForm)
		}
	}
	for _, s := range []string{"::.", "::1.", "::.1", "::1.2", "::1.2.", "::1.2.3", "::1.2.3.", "::.1.2.3", "::1.2.3.4.", "::.1.2.3.4", "::1.2.3.4.5", "::1..2.3", "::1.2..3.4", "::1...4", "::...", "::....", "1:2:3:4:5:6:1.2.3", "1:2:3:4:5:6:1.2.3.4.", "1:2:3:4:5:6:1.2.3.4.5", "1:2:3:4:5:6:7:1.2", "::1.2.3:4", "::1.2:3.4"} {
		no6(t, s, api.ErrForm)
	}
}

func TestParse6AtMaxText(t *testing.T) {
	most := api.MaxText
	for _, s := range []string{"1", ":", "1:", "::", ".", "1.", "g", "0", "::1.2.3."} {
		whole := strings.Repeat(s, most)
		for _, n := range []int{most - 1, most} {
			no6(t, whole[:n], api.ErrForm)
		}
	}
	for _, s := range []string{"1", ":", "1:", "::", ".", "1.", "g", "0", "\x00"} {
		for _, more := range []int{1, 2, 1000, 1 << 20} {
			no6(t, strings.Repeat(s, most+more)[:most+more], api.ErrLimit)
		}
	}
	// What begins as a number, or is one but for its length, is too long all the same.
	no6(t, "::"+strings.Repeat("0", most-1), api.ErrLimit)
	no6(t, "::"+strings.Repeat("0", most-2), api.ErrForm)
	no6(t, "::1.2.3."+strings.Repeat("0", most-7), api.ErrLimit)
	no6(t, "::1.2.3."+strings.Repeat("0", most-8), api.ErrForm)
}

func TestParse6OfAllShort(t *testing.T) {
	allOf(t, []string{"0", "1", "f", ":", ".", "g"}, 7, holds6)
	allOf(t, []string{":", "1", "1:", "::", "2:3:4", ":5:6", "1.2.3.4", "12345", ".255", ".256"}, 5, holds6)
}

func TestParse6OfRandom(t *testing.T) {
	r := rand.New(rand.NewSource(73))
	for range 50000 {
		s := randomText6(r)
		holds6(t, s)
		asTheLibrary6(t, s)
		if t.Failed() {
			return
		}
	}
}

// randomText6 tells a text that is often a number, or nearly one.
func randomText6(r *rand.Rand) string {
	forms := []string{"%x", "%X", "%04x", "%d"}
	var l []string
	for range 4 + r.Intn(6) {
		l = append(l, fmt.Sprintf(forms[r.Intn(len(forms))], r.Intn(1<<uint(1+r.Intn(16)))))
	}
	if r.Intn(3) == 0 {
		l[len(l)-1] = fmt.Sprintf("%d.%d.%d.%d", r.Intn(256), r.Intn(256), r.Intn(260), r.Intn(10))
	}
	if r.Intn(2) == 0 {
		at := r.Intn(len(l) + 1)
		return strings.Join(l[:at], ":") + "::" + strings.Join(l[at:], ":")
	}
	s := strings.Join(l, ":")
	if r.Intn(4) == 0 {
		s = disturb(r, s, "0123456789abcdefABCDEF::::..g")
	}
	return s
}

// asTheLibrary6 holds Parse6 of s, which has no zone, against the library's.
func asTheLibrary6(t *testing.T, s string) {
	t.Helper()
	a, err := netip.ParseAddr(s)
	if err != nil || !a.Is6() {
		no6(t, s, api.ErrForm)
		return
	}
	reads6(t, s, pieces(a.As16()))
}

func pieces(b [16]byte) [8]uint16 {
	var p [8]uint16
	for i := range p {
		p[i] = 256*uint16(b[2*i]) + uint16(b[2*i+1])
	}
	return p
}

func TestPrint6(t *testing.T) {
	for _, c := range []struct {
		p    [8]uint16
		want string
	}{
		{[8]uint16{1, 2, 3, 4, 5, 6, 7, 8}, "1:2:3:4:5:6:7:8"},
		{[8]uint16{0xABCD, 0xEF01, 0x10, 0x200, 0x3000, 0x9, 0xA, 0xFFFF}, "abcd:ef01:10:200:3000:9:a:ffff"},
		// One piece of 0 stands as it is, even several of them.
		{[8]uint16{0, 2, 3, 4, 5, 6, 7, 8}, "0:2:3:4:5:6:7:8"}, {[8]uint16{1, 0, 3, 4, 5, 6, 7, 8}, "1:0:3:4:5:6:7:8"}, {[8]uint16{1, 2, 3, 4, 5, 6, 7, 0}, "1:2:3:4:5:6:7:0"}, {[8]uint16{0, 2, 0, 4, 0, 6, 0, 8}, "0:2:0:4:0:6:0:8"}, {[8]uint16{1, 0, 3, 0, 5, 0, 7, 0}, "1:0:3:0:5:0:7:0"},
		// Two and more.
		{[8]uint16{0, 0, 3, 4, 5, 6, 7, 8}, "::3:4:5:6:7:8"}, {[8]uint16{1, 0, 0, 4, 5, 6, 7, 8}, "1::4:5:6:7:8"}, {[8]uint16{1, 2, 3, 4, 5, 6, 0, 0}, "1:2:3:4:5:6::"}, {[8]uint16{0, 0, 0, 4, 5, 6, 7, 8}, "::4:5:6:7:8"}, {[8]uint16{1, 2, 0, 0, 0, 6, 7, 8}, "1:2::6:7:8"},
		{[8]uint16{}, "::"}, {[8]uint16{7: 1}, "::1"}, {[8]uint16{0: 1}, "1::"}, {[8]uint16{0: 1, 7: 1}, "1::1"}, {[8]uint16{6: 0x0102, 7: 0x0304}, "::102:304"}, {[8]uint16{5: 0xFFFF, 6: 0x0102, 7: 0x0304}, "::ffff:102:304"},
		// Of two runs of one length the first; else the longer one, wherever it is.
		{[8]uint16{1, 0, 0, 4, 5, 0, 0, 8}, "1::4:5:0:0:8"}, {[8]uint16{0, 0, 3, 4, 5, 6, 0, 0}, "::3:4:5:6:0:0"}, {[8]uint16{0, 0, 3, 0, 0, 6, 0, 0}, "::3:0:0:6:0:0"}, {[8]uint16{0, 0, 0, 4, 5, 0, 0, 0}, "::4:5:0:0:0"}, {[8]uint16{1, 0, 0, 0, 5, 0, 0, 0}, "1::5:0:0:0"},
		{[8]uint16{0, 0, 3, 4, 5, 0, 0, 0}, "0:0:3:4:5::"}, {[8]uint16{1, 0, 0, 4, 0, 0, 0, 8}, "1:0:0:4::8"}, {[8]uint16{0, 0, 0, 4, 5, 6, 0, 0}, "::4:5:6:0:0"}, {[8]uint16{0, 2, 0, 0, 5, 6, 7, 8}, "0:2::5:6:7:8"}, {[8]uint16{0, 2, 3, 4, 5, 6, 0, 0}, "0:2:3:4:5:6::"}, {[8]uint16{0, 0, 3, 0, 5, 6, 7, 0}, "::3:0:5:6:7:0"},
	} {
		if s := ip.Print6(c.p); s != c.want {
			t.Errorf("P7.3: Print6(%x) = %q, not %q", c.p, s, c.want)
		}
	}
}

// print6 wants that Print6 of p is what the second reading and the library say, and that Parse6 of it is p.
func print6(t *testing.T, p [8]uint16) {
	t.Helper()
	s := ip.Print6(p)
	if want := wantedPrint6(p); s != want {
		t.Fatalf("P7.3: Print6(%x) = %q, not %q", p, s, want)
	}
	var b [16]byte
	for i, n := range p {
		b[2*i], b[2*i+1] = byte(n>>8), byte(n)
	}
	// The library tells those by decimal numbers that hold one of IPv4.
	if a := netip.AddrFrom16(b); !a.Is4In6() && s != a.String() {
		t.Fatalf("P7.3: Print6(%x) = %q, not %q", p, s, a)
	}
	if q, e := ip.Parse6(s); q != p || e != api.OK {
		t.Fatalf("P7.4: Parse6(Print6(%x)) = Parse6(%q) = %x, %d", p, s, q, e)
	}
}

func TestEveryRunOfPrint6(t *testing.T) {
	for set := range 256 {
		for _, n := range []uint16{1, 0x10, 0xFFFF} {
			var p [8]uint16
			for i := range p {
				p[i] = n * uint16(set>>i&1)
			}
			print6(t, p)
		}
	}
}

func TestEveryPieceOfPrint6(t *testing.T) {
	for n := range 1 << 16 {
		print6(t, [8]uint16{uint16(n), 1, 2, 3, 4, 5, 6, uint16(n)})
		var alone [8]uint16
		alone[n%8] = uint16(n)
		print6(t, alone)
	}
}

func TestParseOfPrint(t *testing.T) {
	r := rand.New(rand.NewSource(74))
	back4 := func(n uint32) {
		t.Helper()
		s := ip.Print4(n)
		if m, e := ip.Parse4(s); m != n || e != api.OK {
			t.Fatalf("P7.4: Parse4(Print4(%x)) = Parse4(%q) = %x, %d", n, s, m, e)
		}
		if !ip.Ends(s) {
			t.Fatalf("P7.1: not Ends(%q)", s)
		}
	}
	for shift := range 32 {
		for _, n := range []uint32{1 << shift, 1<<shift - 1, ^uint32(0) << shift, 1<<shift + 1} {
			back4(n)
		}
	}
	for range 100000 {
		back4(r.Uint32() >> uint(r.Intn(32)))
	}
	for range 50000 {
		var p [8]uint16
		for i := range p {
			p[i] = uint16(r.Intn(1<<16) >> uint(r.Intn(16)) * r.Intn(2))
		}
		print6(t, p)
	}
}

// TestArraysAreValues: what is written into one answer, or into what was handed in, is seen nowhere else.
func TestArraysAreValues(t *testing.T) {
	first, _ := ip.Parse6("1:2:3:4:5:6:7:8")
	first[0], first[7] = 0xEEEE, 0xEEEE
	reads6(t, "1:2:3:4:5:6:7:8", [8]uint16{1, 2, 3, 4, 5, 6, 7, 8})
	reads6(t, "::", [8]uint16{})
	no6(t, "1:2:3:4:5:6:7:8:9", api.ErrForm)
	p := [8]uint16{0: 1, 7: 1}
	s := ip.Print6(p)
	p[3] = 9
	if s != "1::1" || ip.Print6([8]uint16{0: 1, 7: 1}) != "1::1" || ip.Print6(p) != "1:0:0:9::1" {
		t.Errorf("P7.3: %q, then %q", s, ip.Print6(p))
	}
	keys := map[[8]uint16]int{}
	for _, s := range []string{"1::1", "1:0:0:0:0:0:0:1", "0001::0001", "1::0.0.0.1"} {
		q, _ := ip.Parse6(s)
		keys[q]++
	}
	if len(keys) != 1 {
		t.Errorf("P7.3: texts of one number are %d keys", len(keys))
	}
}
