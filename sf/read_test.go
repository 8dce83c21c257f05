package sf_test

import (
	"encoding/base64"
	"fmt"
	"math/rand"
	"slices"
	"strings"
	"testing"

	"springhouse/api"
	"springhouse/sf"
)

// told tells any answer, field by field, without quoting bytes raw; no list and an empty one are told alike.
func told(x any) string { return strings.ReplaceAll(fmt.Sprintf("%#v", x), "(nil)", "{}") }

// Values made short.

func integer(n int) sf.Bare                 { return sf.Bare{Kind: sf.Integer, N: n} }
func decimal(n int) sf.Bare                 { return sf.Bare{Kind: sf.Decimal, N: n} }
func text(s string) sf.Bare                 { return sf.Bare{Kind: sf.Text, Text: s} }
func token(s string) sf.Bare                { return sf.Bare{Kind: sf.Token, Text: s} }
func binary(b ...byte) sf.Bare              { return sf.Bare{Kind: sf.Bytes, Bytes: b} }
func truth(yes bool) sf.Bare                { return sf.Bare{Kind: sf.Bool, Yes: yes} }
func date(n int) sf.Bare                    { return sf.Bare{Kind: sf.Date, N: n} }
func item(b sf.Bare, l ...sf.Param) sf.Item { return sf.Item{Value: b, Params: l} }
func inner(l []sf.Item, p ...sf.Param) sf.Item {
	return sf.Item{Inner: true, Items: l, Params: p}
}
func param(name string, b sf.Bare) sf.Param { return sf.Param{Name: name, Value: b} }
func entry(name string, x sf.Item) sf.Entry { return sf.Entry{Name: name, Value: x} }

// badPlace tells whether at may not stand beside e: only ErrForm has a place.
func badPlace(at int, e api.Errno, s string) bool {
	if e == api.ErrForm {
		return at < 0 || at > len(s)
	}
	return at != 0
}

// checkItem, checkList and checkDict hold what is read of s against what is wanted.

func checkItem(t *testing.T, s string, want sf.Item, wanted api.Errno) {
	t.Helper()
	x, at, e := sf.ParseItem(s)
	if e != wanted || badPlace(at, e, s) || told(x) != told(want) {
		t.Errorf("P12.1: ParseItem(%.300q): %.300s, %d, %d, not %.300s, %d", s, told(x), at, e, told(want), wanted)
	}
}

func checkList(t *testing.T, s string, want []sf.Item, wanted api.Errno) {
	t.Helper()
	l, at, e := sf.ParseList(s)
	if e != wanted || badPlace(at, e, s) || told(l) != told(want) {
		t.Errorf("P12.1: ParseList(%.300q): %.300s, %d, %d, not %.300s, %d", s, told(l), at, e, told(want), wanted)
	}
}

func checkDict(t *testing.T, s string, want []sf.Entry, wanted api.Errno) {
	t.Helper()
	l, at, e := sf.ParseDict(s)
	if e != wanted || badPlace(at, e, s) || told(l) != told(want) {
		t.Errorf("P12.1: ParseDict(%.300q): %.300s, %d, %d, not %.300s, %d", s, told(l), at, e, told(want), wanted)
	}
}

// checkBare reads s where a bare value may stand: alone, of a Param, in an inner list, in a list, in a dictionary.
func checkBare(t *testing.T, s string, b sf.Bare, e api.Errno) {
	t.Helper()
	if e != api.OK {
		checkItem(t, s, sf.Item{}, e)
		checkItem(t, "k;a="+s, sf.Item{}, e)
		checkList(t, s, nil, e)
		checkList(t, "k, ("+s+")", nil, e)
		checkList(t, "k;a="+s+", k", nil, e)
		checkDict(t, "k="+s, nil, e)
		checkDict(t, "k;a="+s+";b", nil, e)
		return
	}
	checkItem(t, s, item(b), e)
	checkItem(t, "k;a="+s+";b", item(token("k"), param("a", b), param("b", truth(true))), e)
	checkList(t, s, []sf.Item{item(b)}, e)
	checkList(t, s+", ("+s+" "+s+");a="+s, []sf.Item{item(b), inner([]sf.Item{item(b), item(b)}, param("a", b))}, e)
	checkDict(t, "k="+s, []sf.Entry{entry("k", item(b))}, e)
	checkDict(t, "k;a="+s+",l=("+s+";b="+s+")", []sf.Entry{entry("k", item(truth(true), param("a", b))), entry("l", inner([]sf.Item{item(b, param("b", b))}))}, e)
}

func TestKinds(t *testing.T) {
	if got := []int{sf.Integer, sf.Decimal, sf.Text, sf.Token, sf.Bytes, sf.Bool, sf.Date}; !slices.Equal(got, []int{1, 2, 3, 4, 5, 6, 7}) {
		t.Errorf("chapter 12, Kinds: %v", got)
	}
}

func TestExamples(t *testing.T) {
	checkList(t, `a;b=1, (1 2.50);c`, []sf.Item{
		item(token("a"), param("b", integer(1))),
		inner([]sf.Item{item(integer(1)), item(decimal(2500))}, param("c", truth(true))),
	}, api.OK)
	checkItem(t, `1,`, sf.Item{}, api.ErrForm)
	checkDict(t, `a=?0, b, a=2`, []sf.Entry{entry("a", item(integer(2))), entry("b", item(truth(true)))}, api.OK)
}

func TestNumbers(t *testing.T) {
	nines := strings.Repeat("9", 15)
	for s, b := range map[string]sf.Bare{
		"0": integer(0), "7": integer(7), "-7": integer(-7), "-0": integer(0), "00": integer(0), "007": integer(7), "-007": integer(-7),
		"42": integer(42), "1234567890": integer(1234567890), "2147483648": integer(2147483648), "-9007199254740993": {},
		nines: integer(999999999999999), "-" + nines: integer(-999999999999999), "000000000000001": integer(1), "0000000000000001": {},
		"1000000000000000": {}, "-1000000000000000": {}, "0000000000000000": {}, "9" + nines: {}, strings.Repeat("1", 40): {},
		"9223372036854775807": {}, "-9223372036854775808": {}, "18446744073709551617": {},
		"-": {}, "--1": {}, "+1": {}, "1-": {}, "-a": {}, "1e3": {}, "0x1": {}, "1_0": {}, "- 1": {}, "-\"1\"": {}, "1\x00": {},
		"0.0": decimal(0), "-0.0": decimal(0), "1.0": decimal(1000), "1.5": decimal(1500), "-1.5": decimal(-1500), "2.50": decimal(2500), "2.500": decimal(2500),
		"2.05": decimal(2050), "2.005": decimal(2005), "0.1": decimal(100), "0.01": decimal(10), "0.001": decimal(1), "-0.001": decimal(-1), "-0.1": decimal(-100),
		"00.10": decimal(100), "123.456": decimal(123456), "000000000001.000": decimal(1000), "0000000000001.0": {},
		"999999999999.999": decimal(999999999999999), "-999999999999.999": decimal(-999999999999999), "999999999999.9": decimal(999999999999900), "999999999999.0": decimal(999999999999000),
		"1000000000000.0": {}, "1000000000000.": {}, "9999999999999.999": {}, "0000000000000.0": {}, "999999999999999.0": {}, "1000000000000000.0": {},
		"1.": {}, "-1.": {}, ".5": {}, "-.5": {}, ".": {}, "-.": {}, "1.0000": {}, "1.2345": {}, "-0.0001": {}, "1.23456789": {}, "999999999999.": {}, "999999999999.1234": {},
		"1..2": {}, "1.2.3": {}, "1.-2": {}, "1.a": {}, "1. 2": {}, "1.5.": {},
	} {
		e := api.OK
		if b.Kind == 0 {
			e = api.ErrForm
		}
		checkBare(t, s, b, e)
	}
}

// TestDigits reads numbers of so many digits ahead of the point and behind it.
func TestDigits(t *testing.T) {
	for ahead := range 20 {
		for behind := range 7 {
			for _, sign := range []string{"", "-"} {
				s := sign + strings.Repeat("4", ahead) + "." + strings.Repeat("2", behind)
				want, e := sf.Bare{}, api.ErrForm
				if 1 <= ahead && ahead <= 12 && 1 <= behind && behind <= 3 {
					want, e = decimal(wide(sign+strings.Repeat("4", ahead)+strings.Repeat("2", behind)+"000"[behind:])), api.OK
				}
				checkBare(t, s, want, e)
			}
		}
		for _, sign := range []string{"", "-"} {
			s := sign + strings.Repeat("8", ahead)
			want, when, e := sf.Bare{}, sf.Bare{}, api.ErrForm
			if 1 <= ahead && ahead <= 15 {
				want, when, e = integer(wide(s)), date(wide(s)), api.OK
			}
			checkBare(t, "@"+s, when, e)
			if s != "" {
				checkBare(t, s, want, e)
			}
		}
	}
}

func TestDates(t *testing.T) {
	for s, b := range map[string]sf.Bare{
		"@0": date(0), "@-0": date(0), "@1": date(1), "@-1": date(-1), "@007": date(7), "@1659578233": date(1659578233),
		"@999999999999999": date(999999999999999), "@-999999999999999": date(-999999999999999),
		"@1000000000000000": {}, "@-1000000000000000": {}, "@0000000000000001": {},
		"@": {}, "@-": {}, "@1.5": {}, "@1.": {}, "@1.0": {}, "@a": {}, "@@1": {}, "@ 1": {}, "@+1": {}, "@--1": {}, "@?1": {}, "@\"1\"": {}, "1@": {}, "@1@": {},
	} {
		e := api.OK
		if b.Kind == 0 {
			e = api.ErrForm
		}
		checkBare(t, s, b, e)
	}
}

func TestTexts(t *testing.T) {
	for s, b := range map[string]sf.Bare{
		`""`: text(""), `"a"`: text("a"), `" "`: text(" "), `" a  b "`: text(" a  b "), `"~"`: text("~"),
		`"\""`: text(`"`), `"\\"`: text(`\`), `"\\\""`: text(`\"`), `"\\\\"`: text(`\\`), `"a\"b\\c"`: text(`a"b\c`), `"\\n"`: text(`\n`),
		`"a,b;c=(d) :e:?1@2"`: text(`a,b;c=(d) :e:?1@2`), `"'"`: text("'"),
		`"`: {}, `"a`: {}, `"\`: {}, `"\"`: {}, `"a\"`: {}, `"\\\"`: {}, `"\a"`: {}, `"\n"`: {}, `"\ "`: {}, `"\'"`: {}, `"\` + "\x00" + `"`: {}, `"\` + "\xFF" + `"`: {},
		`a"`: {}, `"a"b`: {}, `"a""b"`: {}, `'a'`: {}, "\"\t\"": {}, "\"\n\"": {}, "\"\x1F\"": {}, "\"\x7F\"": {}, "\"\x80\"": {}, "\"\xFF\"": {}, "\"\xC3\xA9\"": {}, "\"\x00\"": {},
		`%"a"`: {}, `%"%c3%a9"`: {},
	} {
		e := api.OK
		if b.Kind == 0 {
			e = api.ErrForm
		}
		checkBare(t, s, b, e)
	}
}

func TestTokens(t *testing.T) {
	for s, b := range map[string]sf.Bare{
		"a": token("a"), "Z": token("Z"), "*": token("*"), "**": token("**"), "*1": token("*1"), "a1": token("a1"), "a/b:c": token("a/b:c"), "text/html": token("text/html"),
		"a!#$%&'*+-.^_`|~:/": token("a!#$%&'*+-.^_`|~:/"), "A*-": token("A*-"), "a:": token("a:"), "a?": {}, "a@": {}, "a\\": {}, "a{": {}, "a}": {}, "a[": {}, "a]": {}, "a<": {}, "a>": {}, "a\"": {}, "a=": {}, "a(": {}, "a)": {},
		"1a": {}, "-a": {}, "!a": {}, "/a": {}, "_a": {}, ".a": {}, "~a": {}, "a\xC3\xA9": {}, "\xC3\xA9": {}, "a\x00": {}, "a\x7F": {}, "{": {}, "}": {}, "%a": {},
	} {
		e := api.OK
		if b.Kind == 0 {
			e = api.ErrForm
		}
		// Where another value may stand behind it, `)` ends an inner list.
		if s == "a)" || s == "a(" {
			checkItem(t, s, sf.Item{}, e)
			checkList(t, s, nil, e)
			checkDict(t, "k="+s, nil, e)
			continue
		}
		checkBare(t, s, b, e)
	}
}

// TestEachByte holds each byte, first and later, against the signs that the chapter names.
func TestEachByte(t *testing.T) {
	small, great, digits := "abcdefghijklmnopqrstuvwxyz", "ABCDEFGHIJKLMNOPQRSTUVWXYZ", "0123456789"
	signs64 := great + small + digits + "+/"
	for i := range 256 {
		b := string([]byte{byte(i)})
		has := func(set string) bool { return strings.Contains(set, b) }
		pick := func(good bool) api.Errno {
			if good {
				return api.OK
			}
			return api.ErrForm
		}
		if _, _, e := sf.ParseItem(b); e != pick(has(small+great+"*"+digits)) {
			t.Errorf("P12.1: byte %02X alone as an item: %d", i, e)
		}
		if _, _, e := sf.ParseItem("x" + b + "y"); e != pick(has(small+great+digits+"!#$%&'*+-.^_`|~:/;")) {
			t.Errorf("P12.1: byte %02X within a token: %d", i, e)
		}
		if _, _, e := sf.ParseItem(`"` + b + `x"`); e != pick(0x20 <= i && i <= 0x7E && b != `"` && b != `\`) {
			t.Errorf("P12.1: byte %02X in a Text: %d", i, e)
		}
		if _, _, e := sf.ParseItem(`"\` + b + `x"`); e != pick(b == `"` || b == `\`) {
			t.Errorf("P12.1: byte %02X behind `\\`: %d", i, e)
		}
		if _, _, e := sf.ParseItem(":AB" + b + "D:"); e != pick(has(signs64)) {
			t.Errorf("P12.1: byte %02X in base64: %d", i, e)
		}
		if _, _, e := sf.ParseItem("?" + b); e != pick(has("01")) {
			t.Errorf("P12.1: byte %02X behind `?`: %d", i, e)
		}
		if _, _, e := sf.ParseItem("@" + b); e != pick(has(digits)) {
			t.Errorf("P12.1: byte %02X behind `@`: %d", i, e)
		}
		if _, _, e := sf.ParseItem("1" + b); e != pick(has(digits+" ")) {
			t.Errorf("P12.1: byte %02X behind a digit: %d", i, e)
		}
		if _, _, e := sf.ParseItem("x;" + b); e != pick(has(small+"*")) {
			t.Errorf("P12.1: byte %02X as a Param's key: %d", i, e)
		}
		if _, _, e := sf.ParseItem("x;k" + b + "l"); e != pick(has(small+digits+"_-.*;=")) {
			t.Errorf("P12.1: byte %02X within a Param's key: %d", i, e)
		}
		if _, _, e := sf.ParseDict(b); e != pick(has(small+"* ")) {
			t.Errorf("P12.1: byte %02X as a key: %d", i, e)
		}
		if _, _, e := sf.ParseDict("k" + b + "l"); e != pick(has(small+digits+"_-.*;=,")) {
			t.Errorf("P12.1: byte %02X within a key: %d", i, e)
		}
		if _, _, e := sf.ParseList(b + "x"); e != pick(has(small+great+"* ")) {
			t.Errorf("P12.1: byte %02X ahead of a list: %d", i, e)
		}
		if _, _, e := sf.ParseList("?1" + b); e != pick(has(" \t")) {
			t.Errorf("P12.1: byte %02X behind a list: %d", i, e)
		}
		if _, _, e := sf.ParseList("?1" + b + "x"); e != pick(has(",;")) {
			t.Errorf("P12.1: byte %02X between members: %d", i, e)
		}
		if _, _, e := sf.ParseList("(?1" + b + "x)"); e != pick(has(" ;")) {
			t.Errorf("P12.1: byte %02X between items: %d", i, e)
		}
	}
}

func TestBytes(t *testing.T) {
	for s, b := range map[string]sf.Bare{
		"::": binary(), ":AA:": binary(0), ":AA==:": binary(0), ":AAA:": binary(0, 0), ":AAA=:": binary(0, 0), ":AAAA:": binary(0, 0, 0),
		":aGVsbG8=:": binary([]byte("hello")...), ":aGVsbG8:": binary([]byte("hello")...), ":+/8:": binary(0xFB, 0xFF), ":+/+/:": binary(0xFB, 0xFF, 0xBF), ":////:": binary(0xFF, 0xFF, 0xFF),
		// Bits that are left over.
		":AB:": binary(0), ":AP==:": binary(0), ":aGVsbG9=:": binary([]byte("hello")...), ":AAD:": binary(0, 0), ":AAB=:": binary(0, 0), "://///w:": binary(0xFF, 0xFF, 0xFF, 0xFF), "://///x==:": binary(0xFF, 0xFF, 0xFF, 0xFF),
		// 4 n and 1 signs.
		":A:": {}, ":A=:": {}, ":A==:": {}, ":A===:": {}, ":AAAAA:": {}, ":AAAAA===:": {}, ":AAAAA=:": {},
		// Too few and too many `=`.
		":AA=:": {}, ":AA===:": {}, ":AAA==:": {}, ":AAA===:": {}, ":AAAA=:": {}, ":AAAA==:": {}, ":AAAA====:": {}, ":=:": {}, ":==:": {}, ":====:": {},
		// `=` inside.
		":=AA:": {}, ":A=A:": {}, ":A=A=:": {}, ":AA=A:": {}, ":AA==AA==:": {}, ":AAA=AAA=:": {}, ":=AAA:": {}, ":A=AA:": {}, ":AA==AAAA:": {},
		// Signs of neither.
		":A A:": {}, ": AA:": {}, ":AA :": {}, ":-_8:": {}, ":AA\n:": {}, ":AA\r\nAA:": {}, ":AA.=:": {}, ":\"\":": {}, ":A\x00A:": {}, ":A\xFFA:": {}, ":*:": {},
		// Without an end.
		":": {}, ":AA": {}, ":AA==": {}, "AA:=": {}, ":::": {}, "::::": {}, ":AA:AA:": {},
	} {
		e := api.OK
		if b.Kind == 0 {
			e = api.ErrForm
		}
		checkBare(t, s, b, e)
	}
}

// TestBytesOfAll reads data of many lengths, filled up and not, against the library.
func TestBytesOfAll(t *testing.T) {
	r := rand.New(rand.NewSource(121))
	for n := range 300 {
		data := make([]byte, n)
		r.Read(data)
		for _, s := range []string{base64.StdEncoding.EncodeToString(data), base64.RawStdEncoding.EncodeToString(data)} {
			checkItem(t, ":"+s+":", item(binary(data...)), api.OK)
		}
		if s, e := sf.PrintItem(item(binary(data...))); s != ":"+base64.StdEncoding.EncodeToString(data)+":" || e != api.OK {
			t.Errorf("P12.2: %v: %q, %d", data, s, e)
		}
	}
	for i := range 65536 {
		data := []byte{byte(i >> 8), byte(i)}
		x, _, e := sf.ParseItem(":" + base64.RawStdEncoding.EncodeToString(data) + ":")
		if e != api.OK || !slices.Equal(x.Value.Bytes, data) {
			t.Fatalf("P12.1: %v: %s, %d", data, told(x), e)
		}
		if s, e := sf.PrintItem(item(binary(data...))); e != api.OK || s != ":"+base64.StdEncoding.EncodeToString(data)+":" {
			t.Fatalf("P12.2: %v: %q, %d", data, s, e)
		}
	}
}

func TestBools(t *testing.T) {
	for s, b := range map[string]sf.Bare{"?1": truth(true), "?0": truth(false), "?": {}, "?2": {}, "??": {}, "?10": {}, "?00": {}, "?true": {}, "?-1": {}, "? 1": {}, "1?": {}, "?1?0": {}, "?\x01": {}} {
		e := api.OK
		if b.Kind == 0 {
			e = api.ErrForm
		}
		checkBare(t, s, b, e)
	}
}

// TestSpaces has blanks and tabs wherever they may stand, and where they may not.
func TestSpaces(t *testing.T) {
	a, b := item(token("a")), item(token("b"))
	for _, s := range []string{"a", " a", "a ", "   a   "} {
		checkItem(t, s, a, api.OK)
		checkList(t, s, []sf.Item{a}, api.OK)
		checkDict(t, s, []sf.Entry{entry("a", item(truth(true)))}, api.OK)
	}
	for _, s := range []string{"\ta", " \ta", "\t a", "\na", "a\n", "a\r", "\ra", "a\x00", "a\v", "\u00A0a"} {
		checkItem(t, s, sf.Item{}, api.ErrForm)
		checkList(t, s, nil, api.ErrForm)
		checkDict(t, s, nil, api.ErrForm)
	}
	// Behind the last member blanks and tabs are skipped, as they are ahead of `,`: it is not known yet that none comes.
	for _, s := range []string{"a\t", "a \t", "a\t "} {
		checkItem(t, s, sf.Item{}, api.ErrForm)
		checkList(t, s, []sf.Item{a}, api.OK)
		checkDict(t, s, []sf.Entry{entry("a", item(truth(true)))}, api.OK)
	}
	for _, between := range []string{",", ", ", " ,", " , ", ",\t", "\t,", "\t,\t", " \t , \t ", ",    ", "\t\t\t,"} {
		checkList(t, "a"+between+"b", []sf.Item{a, b}, api.OK)
		checkList(t, "()"+between+"()", []sf.Item{inner(nil), inner(nil)}, api.OK)
		checkDict(t, "k=a"+between+"l=b", []sf.Entry{entry("k", a), entry("l", b)}, api.OK)
		checkDict(t, "k"+between+"l", []sf.Entry{entry("k", item(truth(true))), entry("l", item(truth(true)))}, api.OK)
		checkItem(t, "a"+between+"b", sf.Item{}, api.ErrForm)
		for _, s := range []string{"a" + between, between + "a", "a" + between + between + "b", between, "a" + between + "b" + between} {
			checkItem(t, s, sf.Item{}, api.ErrForm)
			checkList(t, s, nil, api.ErrForm)
			checkDict(t, s, nil, api.ErrForm)
		}
	}
	for _, between := range []string{" ", "\t", "", ";", ",\n", "\n,", ",\r\n"} {
		if between != "" {
			checkList(t, "1"+between+"2", nil, api.ErrForm)
		}
		checkDict(t, "k=1"+between+"=2", nil, api.ErrForm)
	}
	for _, s := range []string{"k =1", "k= 1", "k\t=1", "k=\t1", "k=", "k= ", "k= ,l", "k=,l", "k==1"} {
		checkDict(t, s, nil, api.ErrForm)
	}
}

func TestEmpty(t *testing.T) {
	for _, s := range []string{"", " ", "     "} {
		checkItem(t, s, sf.Item{}, api.ErrForm)
		checkList(t, s, nil, api.OK)
		checkDict(t, s, nil, api.OK)
	}
	for _, s := range []string{"\t", " \t", "\t ", ",", ";", "=", "(", ")", "\n", "\x00"} {
		checkItem(t, s, sf.Item{}, api.ErrForm)
		checkList(t, s, nil, api.ErrForm)
		checkDict(t, s, nil, api.ErrForm)
	}
}

func TestParams(t *testing.T) {
	yes := truth(true)
	for s, l := range map[string][]sf.Param{
		"": nil, ";a": {param("a", yes)}, ";a=?1": {param("a", yes)}, ";a=?0": {param("a", truth(false))}, ";a=1;b=c": {param("a", integer(1)), param("b", token("c"))},
		"; a": {param("a", yes)}, ";   a=1;  b": {param("a", integer(1)), param("b", yes)},
		";a;b;a=2":       {param("a", integer(2)), param("b", yes)},
		";a=1;b=2;a":     {param("a", yes), param("b", integer(2))},
		";a=1;a=2;a=3":   {param("a", integer(3))},
		";a;b;c;b=1;a=2": {param("a", integer(2)), param("b", integer(1)), param("c", yes)},
		";*":             {param("*", yes)}, ";*a_-.*9=x": {param("*a_-.*9", token("x"))}, ";aa=1;a=2": {param("aa", integer(1)), param("a", integer(2))},
		";a=\";b\"": {param("a", text(";b"))}, ";a=:AA==:;b": {param("a", binary(0)), param("b", yes)}, ";a=@1": {param("a", date(1))}, ";a=-1.5": {param("a", decimal(-1500))},
	} {
		checkItem(t, "x"+s, item(token("x"), l...), api.OK)
		checkItem(t, " 1"+s+" ", item(integer(1), l...), api.OK)
		checkList(t, "x"+s+",()"+s+",(1"+s+")"+s, []sf.Item{item(token("x"), l...), inner(nil, l...), inner([]sf.Item{item(integer(1), l...)}, l...)}, api.OK)
		checkDict(t, "k"+s+",l=2"+s+",m=()"+s, []sf.Entry{entry("k", item(yes, l...)), entry("l", item(integer(2), l...)), entry("m", inner(nil, l...))}, api.OK)
	}
	for _, s := range []string{";", "; ", ";;a", ";a;", ";A", ";1", ";-a", ";a=", ";a= 1", ";a =1", " ;a", "\t;a", ";\ta", "; \ta", ";a=;b", ";a=()", ";a=(1)", ";a==1", ";=1", ";a=1.", ";a=\"", ";a\x00", ";\n a", ";a=A\x80", ";aB"} {
		checkItem(t, "1"+s, sf.Item{}, api.ErrForm)
		checkList(t, "1"+s, nil, api.ErrForm)
		checkList(t, "()"+s, nil, api.ErrForm)
		checkList(t, "(1"+s+")", nil, api.ErrForm)
		checkDict(t, "k"+s, nil, api.ErrForm)
		checkDict(t, "k=1"+s+",l", nil, api.ErrForm)
		checkDict(t, "k=()"+s, nil, api.ErrForm)
	}
}

func TestInner(t *testing.T) {
	one, a := item(integer(1)), item(token("a"))
	for s, x := range map[string]sf.Item{
		"()": inner(nil), "( )": inner(nil), "(    )": inner(nil), "(1)": inner([]sf.Item{one}), "( 1 )": inner([]sf.Item{one}), "(1 a)": inner([]sf.Item{one, a}), "(1    a   )": inner([]sf.Item{one, a}),
		"(1 1 1)": inner([]sf.Item{one, one, one}), "(1);a": inner([]sf.Item{one}, param("a", truth(true))), "(1;a)": inner([]sf.Item{item(integer(1), param("a", truth(true)))}),
		"(1;a=1 a;b; c=?0);d;d=2": inner([]sf.Item{item(integer(1), param("a", integer(1))), item(token("a"), param("b", truth(true)), param("c", truth(false)))}, param("d", integer(2))),
		"(\"a b\" \")\")":         inner([]sf.Item{item(text("a b")), item(text(")"))}), "(:AA==: ?0 @1 1.5)": inner([]sf.Item{item(binary(0)), item(truth(false)), item(date(1)), item(decimal(1500))}),
		"();a=1": inner(nil, param("a", integer(1))),
	} {
		checkItem(t, s, sf.Item{}, api.ErrForm)
		checkList(t, s, []sf.Item{x}, api.OK)
		checkList(t, "1, "+s+" ,a", []sf.Item{one, x, a}, api.OK)
		checkDict(t, "k="+s, []sf.Entry{entry("k", x)}, api.OK)
		checkDict(t, "j,k="+s+",l=1", []sf.Entry{entry("j", item(truth(true))), entry("k", x), entry("l", one)}, api.OK)
	}
	for _, s := range []string{"(", "( ", "(1", "(1 ", "(1;", "(1;a", "(1 a", ")", "())", "(()", "(())", "((1))", "(1 (a))", "((1) a)", "(1(a))", "(1,a)", "(1, a)", "(,)", "(1\ta)", "(\t1)", "(1\t)", "(\t)", "(1\n)", "(1\"a\")", "(\"a\"\"b\")", "(1)a", "(1)(a)", "() ()", "(1 = 2)", "(a=1)", "(1))", "(;a)", "(1 ;a)", "() ;a", "(a:)b)", "(?1?0)"} {
		checkItem(t, s, sf.Item{}, api.ErrForm)
		checkList(t, s, nil, api.ErrForm)
		checkList(t, "1, "+s, nil, api.ErrForm)
		checkDict(t, "k="+s, nil, api.ErrForm)
	}
	for _, s := range []string{"(1)", "()", "k(1)", "k=1(1)", "(k)=1", "k;(1)", "k;a=(1)", "k=(l=1)"} {
		checkDict(t, s, nil, api.ErrForm)
	}
}

func TestDict(t *testing.T) {
	yes, one := item(truth(true)), item(integer(1))
	for s, l := range map[string][]sf.Entry{
		"a":               {entry("a", yes)},
		"a=?1":            {entry("a", yes)},
		"a=?0":            {entry("a", item(truth(false)))},
		"a,a,a":           {entry("a", yes)},
		"a=1,b,c=(1),b=1": {entry("a", one), entry("b", one), entry("c", inner([]sf.Item{one}))},
		"a=1;x=1,b,a":     {entry("a", yes), entry("b", yes)},
		"a,b,a;x":         {entry("a", item(truth(true), param("x", truth(true)))), entry("b", yes)},
		"a=(1 1);x,b=1,a=1;y=2,b=()": {
			entry("a", item(integer(1), param("y", integer(2)))), entry("b", inner(nil))},
		"c,b,a":         {entry("c", yes), entry("b", yes), entry("a", yes)},
		"c,b,a,b=1":     {entry("c", yes), entry("b", one), entry("a", yes)},
		"ab,a,abc":      {entry("ab", yes), entry("a", yes), entry("abc", yes)},
		"*":             {entry("*", yes)},
		"*9_-.*a=1":     {entry("*9_-.*a", one)},
		"a=a":           {entry("a", item(token("a")))},
		"a;a=1;b=2,b=1": {entry("a", item(truth(true), param("a", integer(1)), param("b", integer(2)))), entry("b", one)},
	} {
		checkDict(t, s, l, api.OK)
	}
	for _, s := range []string{"A", "1", "-", "_a", ".a", "\"a\"", "aB", "a/b", "a:b", "a\x80", "a b", "a=1 b", "a=1 b=2", "=", "=1", "a=1=2", "a=;b", "?1", "@1", ":AA:", "a=1;", "a=b c", "a=\"b", "a=?2", "a=1,A", "a=1,,b"} {
		checkDict(t, s, nil, api.ErrForm)
	}
}

// row tells n different keys, each behind lead, with more behind it.
func row(n int, lead, more string) string {
	var s strings.Builder
	for i := range n {
		fmt.Fprintf(&s, "%sk%d%s", lead, i, more)
	}
	return s.String()
}

func TestMaxItems(t *testing.T) {
	for _, n := range []int{1, 2, 255, 256, 257, 258, 300} {
		wanted := api.OK
		if n > 256 {
			wanted = api.ErrLimit
		}
		params := row(n, ";", "")
		ones := strings.Repeat("1 ", n)
		members := strings.TrimSuffix(strings.Repeat("1,", n), ",")
		keys := strings.TrimSuffix(row(n, "", ","), ",")
		for _, s := range []string{members, "(" + ones + ")", "1" + params, "()" + params, "(1" + params + ")", "2,(" + ones + ")", "(1 2" + params + " 3)", "(1 2)" + params} {
			l, at, e := sf.ParseList(s)
			if e != wanted || badPlace(at, e, s) || (e == api.OK) != (len(l) > 0) {
				t.Errorf("P12.1: ParseList, %d of %.20q: %d, %d, %d", n, s, len(l), at, e)
			}
		}
		for _, s := range []string{keys, "k=(" + ones + ")", "k" + params, "k=1" + params, "k=()" + params, "k=(1" + params + ")", "a, k" + params + ";k0, b"} {
			l, at, e := sf.ParseDict(s)
			if e != wanted || badPlace(at, e, s) || (e == api.OK) != (len(l) > 0) {
				t.Errorf("P12.1: ParseDict, %d of %.20q: %d, %d, %d", n, s, len(l), at, e)
			}
		}
		x, at, e := sf.ParseItem("1" + params)
		if e != wanted || badPlace(at, e, params) || e == api.OK && len(x.Params) != n || e != api.OK && told(x) != told(sf.Item{}) {
			t.Errorf("P12.1: ParseItem, %d Params: %d, %d, %d", n, len(x.Params), at, e)
		}
		if l, _, e := sf.ParseList(members); e == api.OK && len(l) != n {
			t.Errorf("P12.1: ParseList, %d members: %d", n, len(l))
		}
		if l, _, e := sf.ParseDict(keys); e == api.OK && len(l) != n {
			t.Errorf("P12.1: ParseDict, %d members: %d", n, len(l))
		}
	}
}

// TestMaxItemsAgain has keys that come again, which count once, and one more that does not.
func TestMaxItemsAgain(t *testing.T) {
	keys, params := row(256, "", ","), row(256, ";", "")
	for _, again := range []string{"k0", "k255", "k0,k0,k255,k7=1", "k9=(1 2);x"} {
		if l, at, e := sf.ParseDict(keys + again); len(l) != 256 || at != 0 || e != api.OK {
			t.Errorf("P12.1: ParseDict, 256 keys and %q: %d, %d, %d", again, len(l), at, e)
		}
		if l, at, e := sf.ParseDict(again + "," + keys + "kx"); len(l) != 0 || at != 0 || e != api.ErrLimit {
			t.Errorf("P12.1: ParseDict, 257 keys and %q: %d, %d, %d", again, len(l), at, e)
		}
	}
	for _, again := range []string{";k0", ";k255", ";k0;k0;k255;k7=1"} {
		x, at, e := sf.ParseItem("1" + params + again)
		if len(x.Params) != 256 || at != 0 || e != api.OK || x.Params[0].Name != "k0" || x.Params[255].Name != "k255" {
			t.Errorf("P12.1: ParseItem, 256 Params and %q: %d, %d, %d", again, len(x.Params), at, e)
		}
		if x, at, e := sf.ParseItem("1" + again + params + ";kx"); len(x.Params) != 0 || at != 0 || e != api.ErrLimit {
			t.Errorf("P12.1: ParseItem, 257 Params and %q: %d, %d, %d", again, len(x.Params), at, e)
		}
	}
	if l, _, e := sf.ParseList(strings.Repeat("1,", 1999) + "1"); len(l) != 0 || e != api.ErrLimit {
		t.Errorf("P12.1: ParseList, 2000 members: %d, %d", len(l), e)
	}
	// 256 members with 257 items or Params in all, and 256 of the one and of the other.
	if l, _, e := sf.ParseList(strings.Repeat("1,", 255) + "(1 1)"); len(l) != 256 || e != api.OK {
		t.Errorf("P12.1: ParseList, 257 items in all: %d, %d", len(l), e)
	}
	if l, _, e := sf.ParseList("(1" + params + ")" + params + "," + strings.Repeat("1,", 254) + "(" + strings.Repeat("1 ", 256) + ")"); len(l) != 256 || e != api.OK {
		t.Errorf("P12.1: ParseList, 256 of each: %d, %d", len(l), e)
	}
	// What comes first decides, where one error stands ahead of what would be the other.
	if _, _, e := sf.ParseList(strings.Repeat("1,", 256)); e != api.ErrForm {
		t.Errorf("P12.1: ParseList, 256 members and `,`: %d", e)
	}
	if _, _, e := sf.ParseDict(row(256, "", ",")); e != api.ErrForm {
		t.Errorf("P12.1: ParseDict, 256 members and `,`: %d", e)
	}
}

func TestMaxText(t *testing.T) {
	pad := func(s string, n int) string { return s + strings.Repeat(" ", n-len(s)) }
	checkItem(t, pad("1", 4000), item(integer(1)), api.OK)
	checkList(t, pad("1", 4000), []sf.Item{item(integer(1))}, api.OK)
	checkDict(t, pad("a=1", 4000), []sf.Entry{entry("a", item(integer(1)))}, api.OK)
	long := strings.Repeat("x", 4000)
	checkItem(t, long, item(token(long)), api.OK)
	checkItem(t, `"`+long[:3998]+`"`, item(text(long[:3998])), api.OK)
	checkDict(t, long, []sf.Entry{entry(long, item(truth(true)))}, api.OK)
	checkItem(t, "1;"+long[:3998], item(integer(1), param(long[:3998], truth(true))), api.OK)
	checkItem(t, ":"+strings.Repeat("A", 3996)+"::", sf.Item{}, api.ErrForm)
	checkItem(t, ":"+strings.Repeat("AAAA", 999)+":", item(binary(make([]byte, 2997)...)), api.OK)
	for _, s := range []string{pad("1", 4001), pad("", 4001), long + "x", pad("(", 4001), pad(",", 4001), strings.Repeat("1,", 2001), row(900, ";", "") + long, pad("1", 100000), strings.Repeat("\xFF", 4001)} {
		checkItem(t, s, sf.Item{}, api.ErrLong)
		checkList(t, s, nil, api.ErrLong)
		checkDict(t, s, nil, api.ErrLong)
	}
}

// agree holds all three readings of s against the second one.
func agree(t *testing.T, f *forms, s string) {
	x, at, e := sf.ParseItem(s)
	if y, wanted := secondItem(f, s); e != wanted || badPlace(at, e, s) || e != api.OK && !bare(x) || e == api.OK && told(x) != told(y) {
		t.Fatalf("P12.1: ParseItem(%q): %s, %d, %d, not %s, %d", s, told(x), at, e, told(y), wanted)
	}
	l, at, e := sf.ParseList(s)
	if m, wanted := secondList(f, s); e != wanted || badPlace(at, e, s) || e != api.OK && len(l) > 0 || e == api.OK && told(l) != told(m) {
		t.Fatalf("P12.1: ParseList(%q): %s, %d, %d, not %s, %d", s, told(l), at, e, told(m), wanted)
	}
	d, at, e := sf.ParseDict(s)
	if m, wanted := secondDict(f, s); e != wanted || badPlace(at, e, s) || e != api.OK && len(d) > 0 || e == api.OK && told(d) != told(m) {
		t.Fatalf("P12.1: ParseDict(%q): %s, %d, %d, not %s, %d", s, told(d), at, e, told(m), wanted)
	}
}

// bare tells whether there is nothing in x.
func bare(x sf.Item) bool {
	v := x.Value
	return !x.Inner && len(x.Items)+len(x.Params)+len(v.Bytes)+len(v.Text)+v.Kind+v.N == 0 && !v.Yes
}

// TestShortTexts goes through all texts of up to so many signs of a few, between a beginning and an end.
func TestShortTexts(t *testing.T) {
	f := newForms()
	for _, c := range []struct {
		signs, ahead, behind string
		most                 int
	}{
		{"1a,;=() \t", "", "", 6},
		{"a;=, ", "", "", 8},
		{"() 1,", "", "", 8},
		{"(); a", "(", ")", 6},
		{"01-.@", "", "", 6},
		{"\"\\a\x1F\x7F ", "\"", "", 6},
		{"AB=:", ":", "", 8},
		{"AQ=", ":", ":", 9},
		{"?01;a=", "", "", 6},
		{"*a9_-.A", "", "", 5},
		{"1-.\"a:?@;=(),", "", "", 5},
		{" ,\ta", "a", "", 7},
	} {
		t.Run(fmt.Sprintf("%q", c.ahead+c.signs+c.behind), func(t *testing.T) {
			t.Parallel()
			var all func(s string, left int)
			all = func(s string, left int) {
				agree(t, f, c.ahead+s+c.behind)
				for i := 0; i < len(c.signs) && left > 0; i++ {
					all(s+c.signs[i:i+1], left-1)
				}
			}
			all("", c.most)
		})
	}
}

// TestRandomTexts reads random texts that may be, as they are and with a few bytes changed.
func TestRandomTexts(t *testing.T) {
	f := newForms()
	r := rand.New(rand.NewSource(122))
	m := maker{r}
	signs := "a1-.,;=() \t\"\\:?@*AZ0/+_\x00\x7F\x80\xFF%"
	for range 12000 {
		var s string
		switch r.Intn(3) {
		case 0:
			s = m.loose(secondItemText(m.item(false)))
		case 1:
			s = m.loose(secondListText(m.list()))
		default:
			s = m.loose(secondDictText(m.dict()))
		}
		agree(t, f, s)
		for range 4 {
			at := r.Intn(len(s) + 1)
			sign := string(signs[r.Intn(len(signs))])
			switch end := min(at+r.Intn(3), len(s)); r.Intn(3) {
			case 0:
				s = s[:at] + s[end:]
			case 1:
				s = s[:at] + sign + s[at:]
			default:
				s = s[:at] + sign + s[end:]
			}
			agree(t, f, s)
		}
	}
}
