package query_test

import (
	"fmt"
	"maps"
	"math/rand"
	"net/url"
	"regexp"
	"slices"
	"strconv"
	"strings"
	"testing"
	"unicode/utf8"
	"unsafe"

	"springhouse/api"
	"springhouse/query"
)

// pairs makes a list of names and values in turn.
func pairs(texts ...string) []api.Pair {
	var l []api.Pair
	for i := 0; i+1 < len(texts); i += 2 {
		l = append(l, api.Pair{Name: texts[i], Value: texts[i+1]})
	}
	return l
}

func short(l []api.Pair) string { return fmt.Sprintf("%d pairs %.300q", len(l), l) }

// tells wants that Parse of s is the pairs of these names and values.
func tells(t *testing.T, s string, texts ...string) {
	t.Helper()
	tellsList(t, s, pairs(texts...))
}

func tellsList(t *testing.T, s string, want []api.Pair) {
	t.Helper()
	if l, e := query.Parse(s); !slices.Equal(l, want) || e != api.OK {
		t.Errorf("P10.1: Parse(%.80q) (%d bytes) = %s, %d, not %s", s, len(s), short(l), e, short(want))
	}
}

// fails wants that Parse of s is the error want, and nothing beside it.
func fails(t *testing.T, s string, want api.Errno) {
	t.Helper()
	if l, e := query.Parse(s); len(l) != 0 || e != want {
		t.Errorf("P10.1: Parse(%.80q) (%d bytes) = %s, %d, not %d", s, len(s), short(l), e, want)
	}
}

// prints wants that Print of the pairs of these names and values is want.
func prints(t *testing.T, want string, texts ...string) {
	t.Helper()
	if s := query.Print(pairs(texts...)); s != want {
		t.Errorf("P10.1: Print(%.200q) = %.200q, not %.200q", texts, s, want)
	}
}

// names wants that Names of pairs of these names, with values of any kind, is want.
func names(t *testing.T, in []string, want ...string) {
	t.Helper()
	var l []api.Pair
	for i, name := range in {
		l = append(l, api.Pair{Name: name, Value: strconv.Itoa(len(in) - i)})
	}
	if got := query.Names(l); !slices.Equal(got, want) {
		t.Errorf("P10.1: Names(%.200q) = %.200q, not %.200q", in, got, want)
	}
}

// The chapter once more: byte by byte, and with the library's means.

func wantedParse(s string) ([]api.Pair, api.Errno) {
	if len(s) > 4000 {
		return nil, api.ErrLong
	}
	var l []api.Pair
	var texts [2]string
	size, part := 0, 0
	for i := range len(s) + 1 {
		switch {
		case i == len(s) || s[i] == '&':
			if size > 0 {
				l = append(l, api.Pair{Name: wantedText(texts[0]), Value: wantedText(texts[1])})
			}
			texts, size, part = [2]string{}, 0, 0
		case s[i] == '=' && part == 0:
			size, part = size+1, 1
		default:
			texts[part] += s[i : i+1]
			size++
		}
	}
	if len(l) > 256 {
		return nil, api.ErrLimit
	}
	return l, api.OK
}

var percentSign = regexp.MustCompile("(?s)%[0-9A-Fa-f]{2}|\\+")

func wantedText(s string) string {
	return wantedSigns(percentSign.ReplaceAllStringFunc(s, func(found string) string {
		if found == "+" {
			return " "
		}
		n, _ := strconv.ParseUint(found[1:], 16, 8)
		return string([]byte{byte(n)})
	}))
}

// wantedSigns is s, with FFFD in place of each longest run of bytes that only begins a sign, or else of a byte.
func wantedSigns(s string) string {
	out := ""
	for s != "" {
		n := 1
		for n < len(s) && begins(s[:n+1]) {
			n++
		}
		if c, size := utf8.DecodeRuneInString(s[:n]); size == n && (c != utf8.RuneError || n == 3) {
			out += s[:n]
		} else {
			out += "\uFFFD"
		}
		s = s[n:]
	}
	return out
}

// begins tells whether some sign's bytes begin with s, or are it.
func begins(s string) bool {
	if c, size := utf8.DecodeRuneInString(s); size == len(s) && (c != utf8.RuneError || size == 3) {
		return true
	}
	return len(s) < 4 && (begins(s+"\x80") || begins(s+"\x90") || begins(s+"\xA0"))
}

// wantedForm is s as the library's QueryEscape has it, but for two signs.
func wantedForm(s string) string {
	return strings.NewReplacer("%2A", "*", "~", "%7E").Replace(url.QueryEscape(s))
}

func wantedPrint(l []api.Pair) string {
	var pieces []string
	for _, p := range l {
		pieces = append(pieces, wantedForm(p.Name)+"="+wantedForm(p.Value))
	}
	return strings.Join(pieces, "&")
}

func wantedNames(l []api.Pair) []string {
	found := map[string]int{}
	for _, p := range l {
		found[p.Name]++
	}
	return slices.Sorted(maps.Keys(found))
}

// holds wants of s what the second reading tells.
func holds(t *testing.T, s string) {
	t.Helper()
	want, wantE := wantedParse(s)
	if l, e := query.Parse(s); !slices.Equal(l, want) || e != wantE {
		t.Fatalf("P10.1: Parse(%.200q) (%d bytes) = %s, %d, not %s, %d", s, len(s), short(l), e, short(want), wantE)
	}
}

func TestExamples(t *testing.T) {
	tells(t, "a=b+c&&d&e=%41=", "a", "b c", "d", "", "e", "A=")
}

func TestTheSecondReading(t *testing.T) {
	for s, want := range map[string]string{
		"":                         "",
		"a+b%2B%2b%+%4%41%4g%%%41": "a b++% %4A%4g%%A",
		"\xE2\x82A\xE2\x82\xAC":    "\uFFFDA€",
		"\xF0\x80\xED\xA0\x80":     "\uFFFD\uFFFD\uFFFD\uFFFD\uFFFD",
		"\xF0\x90\x80\xF4\x8F\xBF": "\uFFFD\uFFFD",
		"\uFFFD\x80\U0010FFFF\xC0": "\uFFFD\uFFFD\U0010FFFF\uFFFD",
	} {
		if got := wantedText(s); got != want {
			t.Errorf("the test itself: wantedText(%q) = %q, not %q", s, got, want)
		}
	}
	if got := wantedForm("a b*~-._\x00\xFF%+"); got != "a+b*%7E-._%00%FF%25%2B" {
		t.Errorf("the test itself: wantedForm = %q", got)
	}
}

func TestNothing(t *testing.T) {
	for _, n := range []int{0, 1, 2, 3, 255, 256, 257, 258, 3999, 4000} {
		tells(t, strings.Repeat("&", n))
	}
}

func TestOrdinary(t *testing.T) {
	tells(t, "a=b", "a", "b")
	tells(t, "q=springhouse&lang=en&page=2", "q", "springhouse", "lang", "en", "page", "2")
	tells(t, "a=1&a=2&a=1", "a", "1", "a", "2", "a", "1")
	tells(t, "b=1&a=2&B=3", "b", "1", "a", "2", "B", "3")
	tells(t, "utm_source=x.y&id=4-5*6~7", "utm_source", "x.y", "id", "4-5*6~7")
	tells(t, "?a=b", "?a", "b")
	tells(t, "a;b=c;d#?e/f", "a;b", "c;d#?e/f")
	tells(t, "Ä=ß&日本=語", "Ä", "ß", "日本", "語")
	tells(t, "a[]=1&a[]=2", "a[]", "1", "a[]", "2")
	tells(t, " a = b \t&\r\n", " a ", " b \t", "\r\n", "")
}

func TestEmptyPieces(t *testing.T) {
	for _, s := range []string{"a=b&c", "&a=b&c", "a=b&c&", "&&&a=b&c", "a=b&c&&&", "a=b&&c", "a=b&&&&c", "&&a=b&&c&&"} {
		tells(t, s, "a", "b", "c", "")
	}
	for _, s := range []string{"a", "&a", "a&", "&&a", "a&&", "&a&", "&&a&&"} {
		tells(t, s, "a", "")
	}
}

func TestEqualsSigns(t *testing.T) {
	tells(t, "=", "", "")
	tells(t, "=&=", "", "", "", "")
	tells(t, "&=&", "", "")
	tells(t, "=a", "", "a")
	tells(t, "a=", "a", "")
	tells(t, "a", "a", "")
	tells(t, "==", "", "=")
	tells(t, "===", "", "==")
	tells(t, "=a=", "", "a=")
	tells(t, "a==", "a", "=")
	tells(t, "a=b=c", "a", "b=c")
	tells(t, "a==b", "a", "=b")
	tells(t, "a=b==c=", "a", "b==c=")
	tells(t, "a&=b&c=&d=e=f", "a", "", "", "b", "c", "", "d", "e=f")
	tells(t, "a&b=c", "a", "", "b", "c")
}

func TestBlanks(t *testing.T) {
	tells(t, "+", " ", "")
	tells(t, "+=+", " ", " ")
	tells(t, "++=+++", "  ", "   ")
	tells(t, "+a+b+=+c++d+", " a b ", " c  d ")
	tells(t, "a+b", "a b", "")
	tells(t, "+&+", " ", "", " ", "")
	tells(t, "%2B=%2b", "+", "+")
	tells(t, "%20=+%20+", " ", "   ")
	tells(t, "+%2B+=%2B+%2B", " + ", "+ +")
	tells(t, "%+41=%4+1", "% 41", "%4 1")
	tells(t, "%+=%2+", "% ", "%2 ")
	tells(t, "%2%42=%252B", "%2B", "%2B")
	tells(t, "a b=c d", "a b", "c d")
}

func TestPercentSigns(t *testing.T) {
	tells(t, "%41=%61%62", "A", "ab")
	tells(t, "%4a=%4A", "J", "J")
	tells(t, "%", "%", "")
	tells(t, "%=%", "%", "%")
	tells(t, "a%=b%", "a%", "b%")
	tells(t, "%4=%4", "%4", "%4")
	tells(t, "a%4=b%f", "a%4", "b%f")
	tells(t, "%g1=%1g", "%g1", "%1g")
	tells(t, "%4G=%G4", "%4G", "%G4")
	tells(t, "%zz=%-1", "%zz", "%-1")
	tells(t, "%%=%%%", "%%", "%%%")
	tells(t, "%%41=%4%41", "%A", "%4A")
	tells(t, "%25=%2541", "%", "%41")
	tells(t, "%%34%31=%2%35", "%41", "%25")
	tells(t, "%00=a%00b", "\x00", "a\x00b")
	tells(t, "%4=1", "%4", "1")
	tells(t, "%=41", "%", "41")
	tells(t, "%4&1", "%4", "", "1", "")
	tells(t, "%&41", "%", "", "41", "")
	tells(t, "%4&%41&%", "%4", "", "A", "", "%", "")
}

func TestSignsThatCutByPercentSigns(t *testing.T) {
	tells(t, "%3D", "=", "")
	tells(t, "%3d=%3D", "=", "=")
	tells(t, "a%3Db=c", "a=b", "c")
	tells(t, "a%3Db", "a=b", "")
	tells(t, "a=b%3Dc", "a", "b=c")
	tells(t, "%26", "&", "")
	tells(t, "a%26b=c%26d", "a&b", "c&d")
	tells(t, "%26&%26", "&", "", "&", "")
	tells(t, "%26%3D%2B%25=%26%3D%2B%25", "&=+%", "&=+%")
	tells(t, "%26%26=%3D%3D&%3D", "&&", "==", "=", "")
}

func TestSigns(t *testing.T) {
	tells(t, "%E2%82%AC=%e2%82%ac", "€", "€")
	tells(t, "€=\xE2%82\xAC", "€", "€")
	tells(t, "%E2\x82%AC=\xE2\x82%AC", "€", "€")
	tells(t, "%C3%BC=%F4%8F%BF%BF", "ü", "\U0010FFFF")
	tells(t, "%EF%BB%BFa=\uFEFFb", "\uFEFFa", "\uFEFFb")
	tells(t, "%EF%BF%BD=\uFFFD", "\uFFFD", "\uFFFD")
	tells(t, "%EF%BF%BF=%C2%80", "\uFFFF", "\u0080")
	tells(t, "%F0%9D%84%9E", "𝄞", "")
}

func TestNoSigns(t *testing.T) {
	const no = "\uFFFD"
	tells(t, "%FF=\xFF", no, no)
	tells(t, "\xFF%ff\x80=%80\xC0%C1", no+no+no, no+no+no)
	tells(t, "%E2=%82%AC", no, no+no)
	tells(t, "%E2&%82%AC", no, "", no+no, "")
	tells(t, "\xE2=\x82\xAC", no, no+no)
	tells(t, "\xE2&\x82\xAC", no, "", no+no, "")
	tells(t, "%E2%82=%AC", no, no)
	tells(t, "%E2%3D%82%AC=%E2%82%26%AC", no+"="+no+no, no+"&"+no)
	tells(t, "\xE2%26\x82=\xE2%3d", no+"&"+no, no+"=")
	tells(t, "%E2+%82%AC=%E2%82+", no+" "+no+no, no+" ")
	tells(t, "%E2%82%=%E2%8", no+"%", no+"%8")
	tells(t, "%E2%82A=%C3(", no+"A", no+"(")
	tells(t, "%F0%80=%F0%90", no+no, no)
	tells(t, "%ED%A0%80=%ED%9F", no+no+no, no)
	tells(t, "%F4%90%80%80=%F5%80", no+no+no+no, no+no)
	tells(t, "%E0%80%80=%E0%A0", no+no+no, no)
	tells(t, "%C3%C3%BC=%F0%9D%84", no+"ü", no)
}

func TestEveryByte(t *testing.T) {
	for n := range 256 {
		c := byte(n)
		plain := string([]byte{c})
		if c > 0x7F {
			plain = "\uFFFD"
		}
		for _, form := range []string{"%%%02X", "%%%02x"} {
			s := fmt.Sprintf(form, c)
			tells(t, s, plain, "")
			tells(t, "a"+s+"="+s+"1&"+s+"=", "a"+plain, plain+"1", plain, "")
		}
		if c == '&' || c == '=' || c == '+' {
			continue
		}
		s := string([]byte{c})
		tells(t, s, plain, "")
		tells(t, "a"+s+"z="+s+"z&"+s+"=", "a"+plain+"z", plain+"z", plain, "")
	}
}

func TestEveryTwoBytes(t *testing.T) {
	for n := range 1 << 16 {
		b := []byte{byte(n >> 8), byte(n)}
		holds(t, string(b))
		holds(t, fmt.Sprintf("a=%%%02x%%%02X", b[0], b[1]))
		holds(t, "%"+string(b))
	}
}

func TestAtMaxText(t *testing.T) {
	const no = "\uFFFD"
	tells(t, strings.Repeat("a", 3999), strings.Repeat("a", 3999), "")
	tells(t, strings.Repeat("a", 4000), strings.Repeat("a", 4000), "")
	tells(t, "a="+strings.Repeat("b", 3998), "a", strings.Repeat("b", 3998))
	tells(t, strings.Repeat("&", 3999)+"a", "a", "")
	tells(t, strings.Repeat("=", 4000), "", strings.Repeat("=", 3999))
	tells(t, strings.Repeat("+", 4000), strings.Repeat(" ", 4000), "")
	tells(t, strings.Repeat("\xFF", 4000), strings.Repeat(no, 4000), "")
	tells(t, "a"+strings.Repeat("%FF", 1333), "a"+strings.Repeat(no, 1333), "")
	tells(t, strings.Repeat("%41", 1333)+"%", strings.Repeat("A", 1333)+"%", "")
	for _, piece := range []string{"a", "&", "=", "+", "%", "\xFF", "a=b&", "&&&a", "%41", "%41&", "€"} {
		for _, n := range []int{4001, 4002, 5000, 8000, 1 << 16} {
			fails(t, strings.Repeat(piece, n)[:n], api.ErrLong)
		}
	}
	fails(t, "a=b"+strings.Repeat("&", 3998), api.ErrLong)
	fails(t, strings.Repeat("%41", 1334), api.ErrLong)
	fails(t, strings.Repeat("€", 1334), api.ErrLong)
}

func TestAtMaxItems(t *testing.T) {
	for _, piece := range []struct{ text, name, value string }{
		{"a", "a", ""}, {"=", "", ""}, {"a=b", "a", "b"}, {"=b", "", "b"}, {"%", "%", ""}, {"+", " ", ""}, {"%26%26%26", "&&&", ""},
	} {
		for _, between := range []string{"&", "&&", "&&&"} {
			for _, edge := range []string{"", "&", "&&", "&&&&&"} {
				text := func(n int) string {
					return edge + strings.Join(slices.Repeat([]string{piece.text}, n), between) + edge
				}
				for _, n := range []int{1, 2, 255, 256} {
					tellsList(t, text(n), slices.Repeat(pairs(piece.name, piece.value), n))
				}
				for _, n := range []int{257, 258, 300} {
					fails(t, text(n), api.ErrLimit)
				}
			}
		}
	}
	fails(t, strings.Repeat("a&", 256)+"=", api.ErrLimit)
	fails(t, "="+strings.Repeat("&a", 256), api.ErrLimit)
	fails(t, strings.Repeat("=&", 512), api.ErrLimit)
	fails(t, strings.Repeat("a&", 256)+strings.Repeat("&", 3487)+"a", api.ErrLimit)
	tellsList(t, strings.Repeat("a&", 256)+strings.Repeat("&", 3488), slices.Repeat(pairs("a", ""), 256))
	tellsList(t, strings.Repeat("=&", 255)+strings.Repeat("=", 3490), append(slices.Repeat(pairs("", ""), 255), api.Pair{Value: strings.Repeat("=", 3489)}))
}

func TestWhichErrorIsFirst(t *testing.T) {
	fails(t, strings.Repeat("a&", 2000), api.ErrLimit)
	fails(t, strings.Repeat("a&", 2000)+"&", api.ErrLong)
	fails(t, strings.Repeat("a&", 2000)+"a", api.ErrLong)
	fails(t, strings.Repeat("a&", 300)+strings.Repeat("&", 3401), api.ErrLong)
	fails(t, strings.Repeat("a&", 300)+strings.Repeat("&", 3400), api.ErrLimit)
	fails(t, strings.Repeat("a", 3489)+strings.Repeat("&a", 256), api.ErrLong)
	fails(t, strings.Repeat("a", 3488)+strings.Repeat("&a", 256), api.ErrLimit)
}

func TestParseOfAllShort(t *testing.T) {
	signs := []string{"&", "=", "+", "%", "2", "B", "6", "\xE2", "\x82", "z"}
	level := []string{""}
	for range 5 {
		var longer []string
		for _, s := range level {
			for _, sign := range signs {
				longer = append(longer, s+sign)
			}
		}
		for _, s := range longer {
			holds(t, s)
		}
		level = longer
	}
}

func TestParseOfRandom(t *testing.T) {
	r := rand.New(rand.NewSource(101))
	pieces := []string{"&", "&", "=", "=", "+", "%", "%2", "%2B", "%3d", "%26", "%E2", "%82", "%AC", "\xE2", "\x82", "\xAC", "%F0", "%90", "%ED%A0", "%f4", "%8F", "€", "a", "F", "9", "%25", "&&", "\x00"}
	for range 20000 {
		s := ""
		for range r.Intn(30) {
			s += pieces[r.Intn(len(pieces))]
		}
		holds(t, s)
	}
	for range 300 {
		s := ""
		for n := r.Intn(4100); len(s) < n; {
			s += pieces[r.Intn(6+r.Intn(len(pieces)-5))]
			if r.Intn(8) == 0 {
				s += strings.Repeat("z", r.Intn(50))
			}
		}
		holds(t, s)
	}
}

func TestPrint(t *testing.T) {
	prints(t, "")
	prints(t, "=", "", "")
	prints(t, "=&=", "", "", "", "")
	prints(t, "=&=&=", "", "", "", "", "", "")
	prints(t, "a=", "a", "")
	prints(t, "=b", "", "b")
	prints(t, "a=b", "a", "b")
	prints(t, "a=b&c=d", "a", "b", "c", "d")
	prints(t, "b=1&a=2&b=1", "b", "1", "a", "2", "b", "1")
	prints(t, "+=+++", " ", "   ")
	prints(t, "+a+b+=+c++d+", " a b ", " c  d ")
	prints(t, "%2B=%2B%2B", "+", "++")
	prints(t, "%26=a%26b", "&", "a&b")
	prints(t, "%3D=a%3Db", "=", "a=b")
	prints(t, "%25=%2541", "%", "%41")
	prints(t, "%25+%2520=%252B+%2B", "% %20", "%2B +")
	prints(t, "%E2%82%AC=%C3%BC%F4%8F%BF%BF", "€", "ü\U0010FFFF")
	prints(t, "%80=%FF%E2%82", "\x80", "\xFF\xE2\x82")
	prints(t, "%00=%0D%0A%7F", "\x00", "\r\n\x7F")
	prints(t, "*-._=%7E%21%27%28%29%3B%2C%2F%3F%3A%40%23", "*-._", "~!'();,/?:@#")
	prints(t, "azAZ09=azAZ09", "azAZ09", "azAZ09")
}

func TestPrintOfEveryByte(t *testing.T) {
	for n := range 256 {
		s := string([]byte{byte(n)})
		form := wantedForm(s)
		prints(t, form+"=", s, "")
		prints(t, "="+form, "", s)
		prints(t, "a"+form+"="+form+"b&"+form+"="+form, "a"+s, s+"b", s, s)
	}
}

func TestPrintOfMuch(t *testing.T) {
	for _, n := range []int{255, 256, 257, 5000} {
		want := strings.Repeat("&a+b=%FF", n)[1:]
		if s := query.Print(slices.Repeat(pairs("a b", "\xFF"), n)); s != want {
			t.Errorf("P10.1: Print of %d pairs: %d bytes, not %d", n, len(s), len(want))
		}
	}
	for _, n := range []int{4000, 4001, 1 << 16} {
		prints(t, strings.Repeat("a", n)+"="+strings.Repeat("+", n), strings.Repeat("a", n), strings.Repeat(" ", n))
		prints(t, "="+strings.Repeat("%FF", n), "", strings.Repeat("\xFF", n))
	}
}

// randomList has some pairs of texts made of pieces.
func randomList(r *rand.Rand, pieces []string) []api.Pair {
	text := func() string {
		s := ""
		for range r.Intn(4) {
			s += pieces[r.Intn(len(pieces))]
		}
		return s
	}
	var l []api.Pair
	for range r.Intn(8) {
		l = append(l, api.Pair{Name: text(), Value: text()})
	}
	return l
}

var anyPieces = []string{"a", "B", "0", " ", "+", "&", "=", "%", "%41", "%2B", "*-._", "~", "€", "ü", "\x00", "\n", "\x7F", "\x80", "\xE2\x82", "\xFF", "\uFFFD"}

func TestPrintOfRandom(t *testing.T) {
	r := rand.New(rand.NewSource(102))
	for range 20000 {
		l := randomList(r, anyPieces)
		if s, want := query.Print(l), wantedPrint(l); s != want {
			t.Fatalf("P10.1: Print(%q) = %q, not %q", l, s, want)
		}
	}
}

func TestNames(t *testing.T) {
	names(t, nil)
	names(t, []string{""}, "")
	names(t, []string{"", "", ""}, "")
	names(t, []string{"a"}, "a")
	names(t, []string{"a", "a"}, "a")
	names(t, []string{"b", "a"}, "a", "b")
	names(t, []string{"b", "a", "b", "a", "b"}, "a", "b")
	names(t, []string{"b", "a", "b", "B"}, "B", "a", "b")
	names(t, []string{"b", "", "a", ""}, "", "a", "b")
	names(t, []string{"ab", "a", "abc", "b", "aa"}, "a", "aa", "ab", "abc", "b")
	names(t, []string{"a10", "a9", "a1"}, "a1", "a10", "a9")
	names(t, []string{"é", "z", "Z", "e"}, "Z", "e", "z", "é")
	names(t, []string{"\xFF", "\x80", "\x7F", "\x00", ""}, "", "\x00", "\x7F", "\x80", "\xFF")
	// By bytes, not by the 16 bits that other languages keep texts by.
	names(t, []string{"\U00010000", "\uFFFF", "\uE000"}, "\uE000", "\uFFFF", "\U00010000")
	// Not by what they mean: nothing is decoded, folded or cut.
	names(t, []string{"%41", "A", "+", " ", "a=b", "a", "A "}, " ", "%41", "+", "A", "A ", "a", "a=b")
	names(t, []string{"e\u0301", "é"}, "e\u0301", "é")
}

func TestNamesInEveryOrder(t *testing.T) {
	all := []string{"", "B", "a", "aa", "b", "€"}
	var place func(left, taken []string)
	place = func(left, taken []string) {
		if len(left) == 0 {
			names(t, taken, all...)
			names(t, append(slices.Clone(taken), taken...), all...)
			return
		}
		for i, name := range left {
			rest := slices.Delete(slices.Clone(left), i, i+1)
			place(rest, append(slices.Clone(taken), name))
		}
	}
	place(all, nil)
}

func TestNamesOfAllShort(t *testing.T) {
	few := []string{"", "a", "b", "a\x00"}
	for n := range 1 << 12 {
		var in []string
		for i := n; i > 0; i /= 4 {
			in = append(in, few[i%4])
		}
		var l []api.Pair
		for _, name := range in {
			l = append(l, api.Pair{Name: name})
		}
		names(t, in, wantedNames(l)...)
	}
}

func TestNamesOfRandom(t *testing.T) {
	r := rand.New(rand.NewSource(103))
	for range 20000 {
		l := randomList(r, anyPieces)
		if got, want := query.Names(l), wantedNames(l); !slices.Equal(got, want) {
			t.Fatalf("P10.1: Names(%q) = %q, not %q", l, got, want)
		}
	}
}

func TestNamesOfMany(t *testing.T) {
	for _, n := range []int{255, 256, 257, 5000} {
		var in, want []string
		for i := range n {
			want = append(want, fmt.Sprintf("%05d", i))
			in = append(in, fmt.Sprintf("%05d", n-1-i), fmt.Sprintf("%05d", i/2))
		}
		names(t, in, want...)
		names(t, slices.Repeat([]string{"a"}, n), "a")
	}
	long := strings.Repeat("a", 4001)
	names(t, []string{long + "b", long, long + "a", long}, long, long+"a", long+"b")
}

func TestNothingOfNothing(t *testing.T) {
	for _, l := range [][]api.Pair{nil, {}, make([]api.Pair, 0, 4), pairs("a", "b")[:0]} {
		if s := query.Print(l); s != "" {
			t.Errorf("P10.1: Print of no pairs = %q", s)
		}
		if got := query.Names(l); len(got) != 0 {
			t.Errorf("P10.1: Names of no pairs = %q", got)
		}
	}
}

func TestHandedInIsNotChanged(t *testing.T) {
	r := rand.New(rand.NewSource(104))
	for range 2000 {
		whole := append(randomList(r, anyPieces), pairs("spare", "room", "more", "spare")...)
		n := r.Intn(len(whole))
		kept := slices.Clone(whole)
		query.Print(whole[:n])
		query.Names(whole[:n])
		if !slices.Equal(whole, kept) {
			t.Fatalf("P10.2: a list of %d pairs %q has become %q", n, kept, whole)
		}
	}
}

func TestBehindTheLengthIsNotRead(t *testing.T) {
	whole := pairs("b", "1", "a", "2", "0", "3", "b", "4")
	for n := range whole {
		alone := slices.Clip(slices.Clone(whole[:n]))
		if s, want := query.Print(whole[:n]), query.Print(alone); s != want {
			t.Errorf("P10.2: Print of the first %d of %q = %q, not %q", n, whole, s, want)
		}
		if got, want := query.Names(whole[:n]), query.Names(alone); !slices.Equal(got, want) {
			t.Errorf("P10.2: Names of the first %d of %q = %q, not %q", n, whole, got, want)
		}
	}
}

// asText is a text whose memory is b.
func asText(b []byte) string { return unsafe.String(&b[0], len(b)) }

func spoil(b []byte) {
	for i := range b {
		b[i] = '#'
	}
}

func TestTextsHandedInAreNotKept(t *testing.T) {
	for _, s := range []string{"a", "a=b", "name=value&name=value", "a&&b=", "=b", "%41=+", "€=\xFF"} {
		want, _ := wantedParse(s)
		b := []byte(s)
		l, _ := query.Parse(asText(b))
		if string(b) != s {
			t.Errorf("P10.2: Parse(%q) has changed it to %q", s, b)
		}
		spoil(b)
		if !slices.Equal(l, want) {
			t.Errorf("P10.2: pairs of Parse(%q) hang on the memory handed in: %q", s, l)
		}
	}
	for _, s := range []string{"a", "ab", "name", "€ "} {
		b, v := []byte(s), []byte(s)
		l := []api.Pair{{Name: asText(b), Value: asText(v)}, {Name: asText(b)}}
		text, found := query.Print(l), query.Names(l)
		if string(b) != s || string(v) != s {
			t.Errorf("P10.2: texts %q handed in are changed to %q and %q", s, b, v)
		}
		spoil(b)
		spoil(v)
		if want := wantedPrint(pairs(s, s, s, "")); text != want {
			t.Errorf("P10.2: Print of %q hangs on the memory handed in: %q, not %q", s, text, want)
		}
		if !slices.Equal(found, []string{s}) {
			t.Errorf("P10.2: Names of %q hang on the memory handed in: %q", s, found)
		}
	}
}

func TestListsHandedInAreNotKept(t *testing.T) {
	l := pairs("b", "1", "a", "2")
	text, found := query.Print(l), query.Names(l)
	for i := range l {
		l[i] = api.Pair{Name: "#", Value: "#"}
	}
	if text != "b=1&a=2" || !slices.Equal(found, []string{"a", "b"}) {
		t.Errorf("P10.2: answers hang on the list handed in: %q, %q", text, found)
	}
	if again := query.Names(pairs("b", "1", "a", "2")); !slices.Equal(again, []string{"a", "b"}) {
		t.Errorf("P10.2: what was handed in before is kept: %q", again)
	}
}

func TestListsHandedOutAreNewMemory(t *testing.T) {
	for _, s := range []string{"", "a", "a=b&c=d", strings.Repeat("a&", 256), strings.Repeat("b=1&a=2&", 50)} {
		want, _ := wantedParse(s)
		first, _ := query.Parse(s)
		second, _ := query.Parse(s)
		room := first[:cap(first)]
		for i := range room {
			room[i] = api.Pair{Name: "#", Value: "#"}
		}
		if third, _ := query.Parse(s); !slices.Equal(second, want) || !slices.Equal(third, want) {
			t.Errorf("P10.2: lists of Parse(%.20q) share memory: %.100q, %.100q", s, second, third)
		}
		firstNames, secondNames := query.Names(want), query.Names(want)
		spare := firstNames[:cap(firstNames)]
		for i := range spare {
			spare[i] = "#"
		}
		if third, names := query.Names(want), wantedNames(want); !slices.Equal(secondNames, names) || !slices.Equal(third, names) {
			t.Errorf("P10.2: lists of Names of Parse(%.20q) share memory: %.100q, %.100q", s, secondNames, third)
		}
	}
}

func TestTheSameAgain(t *testing.T) {
	const s = "b=1&a=2&%ff=+&&b=3"
	want, _ := query.Parse(s)
	text, found := query.Print(want), query.Names(want)
	query.Parse(strings.Repeat("a&", 300))
	query.Parse(strings.Repeat("a", 4001))
	query.Parse("c=d")
	query.Print(pairs("c", "d"))
	query.Names(pairs("c", "d"))
	tellsList(t, s, want)
	if again := query.Print(want); again != text {
		t.Errorf("P10.1: Print(%q) = %q, and then %q", want, text, again)
	}
	if again := query.Names(want); !slices.Equal(again, found) {
		t.Errorf("P10.1: Names(%q) = %q, and then %q", want, found, again)
	}
}

// returns wants that Parse of Print of l is l.
func returns(t *testing.T, l []api.Pair) {
	t.Helper()
	s := query.Print(l)
	if m, e := query.Parse(s); !slices.Equal(l, m) || e != api.OK {
		t.Fatalf("P10.3: Parse of Print of %s = %s, %d; Print is %.200q", short(l), short(m), e, s)
	}
}

func TestParseOfPrint(t *testing.T) {
	returns(t, nil)
	returns(t, pairs("", ""))
	returns(t, pairs("", "", "", "", "", ""))
	returns(t, pairs("a", "b c", "+", "&=", "%41", "%", "=", "=="))
	returns(t, pairs("b", "", "", "b", "b", ""))
	for c := range rune(0x11000) {
		if utf8.ValidRune(c) {
			returns(t, pairs(string(c), "a"+string(c)+string(c)))
		}
	}
	returns(t, pairs("\U0010FFFF\uFFFD", "\uFEFF\U000F0000"))
}

func TestParseOfPrintOfRandom(t *testing.T) {
	r := rand.New(rand.NewSource(105))
	var pieces []string
	for _, piece := range anyPieces {
		if utf8.ValidString(piece) {
			pieces = append(pieces, piece)
		}
	}
	for range 20000 {
		returns(t, randomList(r, pieces))
	}
}

func TestParseOfPrintAtTheLimits(t *testing.T) {
	returns(t, slices.Repeat(pairs("", ""), 256))
	returns(t, slices.Repeat(pairs("a", " "), 256))
	returns(t, slices.Repeat(pairs("=", "+&"), 256))
	returns(t, pairs(strings.Repeat("a", 3999), ""))
	returns(t, pairs("", strings.Repeat("€", 444)))
	fails(t, query.Print(slices.Repeat(pairs("", ""), 257)), api.ErrLimit)
	fails(t, query.Print(pairs(strings.Repeat("a", 3999), "b")), api.ErrLong)
	fails(t, query.Print(pairs("", strings.Repeat("%", 1334))), api.ErrLong)
	// Of what is no UTF-8 only the repairs come back.
	tells(t, query.Print(pairs("\xFF", "a\xE2\x82")), "\uFFFD", "a\uFFFD")
}
