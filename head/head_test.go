package head_test

import (
	"fmt"
	"slices"
	"strings"
	"testing"

	"springhouse/api"
	"springhouse/head"
)

// fields makes lines of names and values in turn.
func fields(texts ...string) []api.Field {
	var l []api.Field
	for i := 0; i+1 < len(texts); i += 2 {
		l = append(l, api.Field{Name: texts[i], Value: texts[i+1]})
	}
	return l
}

func short(l []api.Field) string { return fmt.Sprintf("%d lines %.300q", len(l), l) }

func name(t *testing.T, s string, want bool) {
	t.Helper()
	if head.Name(s) != want {
		t.Errorf("P13.1: Name(%.120q) (%d bytes) = %v", s, len(s), !want)
	}
}

func value(t *testing.T, s string, want bool) {
	t.Helper()
	if head.Value(s) != want {
		t.Errorf("P13.1: Value(%.120q) (%d bytes) = %v", s, len(s), !want)
	}
}

func may(t *testing.T, l []api.Field, want bool) {
	t.Helper()
	if head.May(l) != want {
		t.Errorf("P13.1: May(%s) = %v", short(l), !want)
	}
}

func trims(t *testing.T, s, want string) {
	t.Helper()
	if got := head.Trim(s); got != want {
		t.Errorf("P13.1: Trim(%q) = %q, not %q", s, got, want)
	}
}

// all wants of All that these are the values, and of One that they are told as one.
func all(t *testing.T, l []api.Field, name string, want ...string) {
	t.Helper()
	if got := head.All(l, name); !slices.Equal(got, want) {
		t.Errorf("P13.2: All(%s, %q) = %q, not %q", short(l), name, got, want)
	}
	one := strings.Join(want, ", ")
	if s, ok := head.One(l, name); s != one || ok != (len(want) > 0) {
		t.Errorf("P13.2: One(%s, %q) = %q, %v, not %q, %v", short(l), name, s, ok, one, len(want) > 0)
	}
}

// drops wants of Drop that want is left, and of Set that one line stands behind it.
func drops(t *testing.T, l []api.Field, name string, want ...string) {
	t.Helper()
	left := fields(want...)
	if got := head.Drop(l, name); !slices.Equal(got, left) {
		t.Errorf("P13.2: Drop(%s, %q) = %s, not %s", short(l), name, short(got), short(left))
	}
	for _, value := range []string{"", "v", " any\n"} {
		with := append(slices.Clone(left), api.Field{Name: name, Value: value})
		if got := head.Set(l, name, value); !slices.Equal(got, with) {
			t.Errorf("P13.2: Set(%s, %q, %q) = %s, not %s", short(l), name, value, short(got), short(with))
		}
	}
}

// splits wants that these are the pieces of the one value s.
func splits(t *testing.T, s string, want ...string) {
	t.Helper()
	splitsAll(t, []string{s}, want...)
}

func splitsAll(t *testing.T, values []string, want ...string) {
	t.Helper()
	if got := head.Split(values); !slices.Equal(got, want) {
		t.Errorf("P13.3: Split(%.200q) = %.200q, not %.200q", values, got, want)
	}
}

func merges(t *testing.T, old, fresh []api.Field, but []string, want ...string) {
	t.Helper()
	got := head.Merge(old, fresh, but)
	if !slices.Equal(got, fields(want...)) {
		t.Errorf("P13.3: Merge(%s, %s, %q) = %s, not %s", short(old), short(fresh), but, short(got), short(fields(want...)))
	}
	if again := head.Merge(got, fresh, but); !slices.Equal(again, got) {
		t.Errorf("P13.5: Merge(%s, %s, %q) = %s, merged again", short(got), short(fresh), but, short(again))
	}
}

const (
	letters   = "abcdefghijklmnopqrstuvwxyzABCDEFGHIJKLMNOPQRSTUVWXYZ"
	nameBytes = letters + "0123456789" + "!#$%&'*+-.^_\x60|~"
)

func TestName(t *testing.T) {
	for size, want := range map[int]bool{0: false, 1: true, 2: true, 99: true, 100: true, 101: false, 200: false, 4000: false, 70000: false} {
		name(t, strings.Repeat("a", size), want)
	}
	name(t, nameBytes, true)
	for c := range 256 {
		b := string([]byte{byte(c)})
		want := strings.Contains(nameBytes, b)
		name(t, b, want)
		name(t, b+"ab", want)
		name(t, "a"+b+"b", want)
		name(t, "ab"+b, want)
		name(t, strings.Repeat("a", 99)+b, want)
		name(t, strings.Repeat("a", 100)+b, false)
	}
	for _, s := range []string{"Cache-Control", "ETag", "x_1", "-", "0"} {
		name(t, s, true)
	}
	for _, s := range []string{"a b", " a", "a ", "a:", ":status", "a,b", "a=b", "a/b", `"a"`, "a\r\n", "é", "\u212A", "(a)", "[a]", "{a}", "a@b", "a?", "a;", `a\`, "<a>"} {
		name(t, s, false)
	}
}

// inValue has the bytes of a value by a row each.
func inValue(c int) bool {
	switch {
	case c == 9:
		return true
	case c < 0x20, c == 0x7F:
		return false
	}
	return true
}

func TestValue(t *testing.T) {
	for size, want := range map[int]bool{0: true, 1: true, 2: true, 3999: true, 4000: true, 4001: false, 8000: false, 70000: false} {
		for _, c := range []string{"a", "\xFF"} {
			value(t, strings.Repeat(c, size), want)
		}
	}
	value(t, "a"+strings.Repeat(" ", 3998)+"b", true)
	value(t, "a"+strings.Repeat("\t", 3999)+"b", false)
	value(t, " "+strings.Repeat("a", 3999), false)
	value(t, " "+strings.Repeat("a", 4000), false)
	value(t, strings.Repeat("a", 4000)+" ", false)
	for c := range 256 {
		b := string([]byte{byte(c)})
		atEnd := inValue(c) && c != ' ' && c != '\t'
		value(t, b, atEnd)
		value(t, b+"ab", atEnd)
		value(t, "ab"+b, atEnd)
		value(t, "a"+b+"b", inValue(c))
		value(t, "a "+b+"\tb", inValue(c))
		value(t, strings.Repeat("a", 3999)+b, atEnd)
		value(t, strings.Repeat("a", 4000)+b, false)
	}
	for _, s := range []string{"a b\tc", "a \t b", `"a, b"`, "max-age=9", "é", "\x80\xFF", "!", "~"} {
		value(t, s, true)
	}
	for _, s := range []string{" ", "\t", " \t", " a", "a ", "\ta", "a\t", "a\n", "a\r\nb: c", "a\x00", "\x1F", "\x7F", "a\vb", "a\fb"} {
		value(t, s, false)
	}
}

func TestMay(t *testing.T) {
	may(t, nil, true)
	may(t, []api.Field{}, true)
	may(t, fields("a", ""), true)
	may(t, fields("a", "b", "A", "b", "a", "b"), true)
	many := slices.Repeat(fields("a", "b"), 64)
	may(t, many, true)
	may(t, append(slices.Clone(many), many[0]), false)
	may(t, slices.Repeat(many, 3), false)
	wide := slices.Repeat(fields(strings.Repeat("n", 100), strings.Repeat("v", 4000)), 64)
	may(t, wide, true)
	for i := range many {
		for _, bad := range fields("", "b", "a b", "b", strings.Repeat("a", 101), "b", "a", " b", "a", "b\t", "a", "b\n", "a", strings.Repeat("b", 4001)) {
			l := slices.Clone(many)
			l[i] = bad
			may(t, l, false)
			may(t, l[i:i+1], false)
			may(t, l[:i], true)
		}
	}
	may(t, fields("Cache-Control", "no-store", "X", ""), true)
	may(t, fields("no-store ", "Cache-Control"), false)
}

func TestLower(t *testing.T) {
	const capital, small = "ABCDEFGHIJKLMNOPQRSTUVWXYZ", "abcdefghijklmnopqrstuvwxyz"
	for c := range 256 {
		b := string([]byte{byte(c)})
		want := b
		if i := strings.Index(capital, b); i >= 0 {
			want = small[i : i+1]
		}
		for _, around := range []string{"", "a", "\xC3", "ZZZ"} {
			low := strings.ReplaceAll(around, "Z", "z")
			if got := head.Lower(around + b + around); got != low+want+low {
				t.Errorf("P13.1: Lower(%q) = %q, not %q", around+b+around, got, low+want+low)
			}
		}
	}
	for s, want := range map[string]string{
		"": "", capital: small, small: small, "@AZ[`az{": "@az[`az{", "Cache-Control": "cache-control",
		"ÄÖ": "ÄÖ", "\u212A\u017F\u0130": "\u212A\u017F\u0130", "\xC4A\xFF": "\xC4a\xFF", "ＡA": "Ａa",
	} {
		if got := head.Lower(s); got != want {
			t.Errorf("P13.1: Lower(%q) = %q, not %q", s, got, want)
		}
	}
}

func TestTrim(t *testing.T) {
	for s, want := range map[string]string{
		"": "", " ": "", "\t": "", " \t \t ": "", "a": "a", " a": "a", "a ": "a", "\ta\t": "a", "\t  a b\t c \t ": "a b\t c",
		"\na\n": "\na\n", " \n ": "\n", "\u00A0a\u00A0": "\u00A0a\u00A0", "\xFF ": "\xFF", " \"a \"": "\"a \"", "\r\n": "\r\n", "a \v": "a \v",
	} {
		trims(t, s, want)
	}
	for c := range 256 {
		b := string([]byte{byte(c)})
		if c == ' ' || c == '\t' {
			trims(t, b, "")
			trims(t, b+"a"+b+"a"+b, "a"+b+"a")
			continue
		}
		trims(t, b, b)
		trims(t, " "+b+"\t", b)
		trims(t, b+" a "+b+" ", b+" a "+b)
	}
	long := strings.Repeat(" \t", 50000)
	trims(t, long, "")
	trims(t, long+"a"+long+"b"+long, "a"+long+"b")
}

func TestNames(t *testing.T) {
	l := fields("A", "1", "b", "2", "a", "3", "", "4", "a b", "5", "É", "6", "aa", "7")
	all(t, l, "a", "1", "3")
	all(t, l, "A", "1", "3")
	all(t, l, "B", "2")
	all(t, l, "", "4")
	all(t, l, "A B", "5")
	all(t, l, "É", "6")
	all(t, l, "é")
	all(t, l, "c")
	all(t, l, "AA", "7")
	all(t, l, "a ")
	all(t, l, "aaa")
	all(t, l, " ")
	all(t, nil, "a")
	all(t, nil, "")
	all(t, fields("c", ""), "C", "")
	all(t, fields("c", "", "C", ""), "c", "", "")
	all(t, fields("c", "", "C", "x", "c", ""), "c", "", "x", "")
	all(t, fields("c", ",", "d", "y", "C", " x "), "c", ",", " x ")
	all(t, fields("a", "b", "a", "b"), "a", "b", "b")
	all(t, fields("a", "b"), "b")
	all(t, fields("cache-control", "no-store", "CACHE-CONTROL", "public"), "Cache-Control", "no-store", "public")

	drops(t, l, "a", "b", "2", "", "4", "a b", "5", "É", "6", "aa", "7")
	drops(t, l, "A", "b", "2", "", "4", "a b", "5", "É", "6", "aa", "7")
	drops(t, l, "B", "A", "1", "a", "3", "", "4", "a b", "5", "É", "6", "aa", "7")
	drops(t, l, "", "A", "1", "b", "2", "a", "3", "a b", "5", "É", "6", "aa", "7")
	drops(t, l, "a B", "A", "1", "b", "2", "a", "3", "", "4", "É", "6", "aa", "7")
	drops(t, l, "é", "A", "1", "b", "2", "a", "3", "", "4", "a b", "5", "É", "6", "aa", "7")
	drops(t, nil, "a")
	drops(t, nil, "")
	drops(t, fields("a", "1", "A", "2"), "a")
	drops(t, fields("a", "1"), "1", "a", "1")
	drops(t, fields("a", "1", "k", "2", "A", "3", "K", "4"), "A", "k", "2", "K", "4")
}

// TestOtherLetters has names that are one to who folds more letters than A to Z, or repairs what is no sign.
func TestOtherLetters(t *testing.T) {
	alike := [][]string{{"k", "\u212A"}, {"s", "\u017F"}, {"ä", "Ä"}, {"i", "\u0130", "\u0131"}, {"\x80", "\xFF", "\uFFFD"}, {"@", "\x60"}, {"[", "{"}, {"a", "\xC1", "!"}, {"a", "a ", " a", "a\x00"}}
	for _, row := range alike {
		var l []api.Field
		for _, s := range row {
			l = append(l, api.Field{Name: s, Value: s})
		}
		for i, s := range row {
			if got := head.All(l, s); !slices.Equal(got, []string{s}) {
				t.Errorf("P13.2: All(%q, %q) = %q", l, s, got)
			}
			left := slices.Delete(slices.Clone(l), i, i+1)
			if got := head.Drop(l, s); !slices.Equal(got, left) {
				t.Errorf("P13.2: Drop(%q, %q) = %q", l, s, got)
			}
			if got := head.Merge(l, l[i:i+1], nil); !slices.Equal(got, append(left, l[i])) {
				t.Errorf("P13.3: Merge(%q, %q, none) = %q", l, l[i:i+1], got)
			}
			if got := head.Merge(nil, l, []string{s}); !slices.Equal(got, left[:len(l)-1]) {
				t.Errorf("P13.3: Merge(none, %q, %q) = %q", l, s, got)
			}
		}
	}
}

func TestSplit(t *testing.T) {
	splits(t, `a, "b,c" ,,d`, `a`, `"b,c"`, `d`)
	splitsAll(t, nil)
	splitsAll(t, []string{})
	splitsAll(t, []string{"", "", ""})
	splitsAll(t, []string{"", " ", ",", "\t,, ", ",,,,"})
	splitsAll(t, []string{"a", "b"}, "a", "b")
	splitsAll(t, []string{"a,b", "", "c", " , ", "d,\te\t"}, "a", "b", "c", "d", "e")
	splitsAll(t, []string{"b,a", "b"}, "b", "a", "b")
	splits(t, "")
	splits(t, ",")
	splits(t, " \t ")
	splits(t, "a", "a")
	splits(t, "a,", "a")
	splits(t, ",a", "a")
	splits(t, " a b ,\tc\td\t", "a b", "c\td")
	splits(t, "a;b=c d", "a;b=c d")
	splits(t, "a\n,\rb,\v", "a\n", "\rb", "\v")
	splits(t, "\xFF,é,\x00", "\xFF", "é", "\x00")

	splits(t, `"a,b"`, `"a,b"`)
	splits(t, `"",a`, `""`, `a`)
	splits(t, `" a ", b`, `" a "`, `b`)
	splits(t, `x="1,2",y`, `x="1,2"`, `y`)
	splits(t, `x="1,2"3,4"5,6"7,y`, `x="1,2"3`, `4"5,6"7`, `y`)
	splits(t, `"a""b,c",d`, `"a""b,c"`, `d`)
	splits(t, `"a" "b,c" ,d`, `"a" "b,c"`, `d`)
	splits(t, `W/"a,b",W/"c"`, `W/"a,b"`, `W/"c"`)
	splits(t, `'a,b'`, `'a`, `b'`)
	splits(t, `(a,b)`, `(a`, `b)`)

	splits(t, `"`, `"`)
	splits(t, `",`, `",`)
	splits(t, `a,"b,c , `, `a`, `"b,c ,`)
	splits(t, `"a"",b`, `"a"",b`)
	splitsAll(t, []string{`"a,b`, `c,d`, `e"`, `f,g`}, `"a,b`, `c`, `d`, `e"`, `f`, `g`)
	splitsAll(t, []string{`"a,b\`, `",c`}, `"a,b\`, `",c`)
	splitsAll(t, []string{`"a,b\`, `c",d`, `"e"`}, `"a,b\`, `c",d`, `"e"`)

	splits(t, `"a\",b",c`, `"a\",b"`, `c`)
	splits(t, `"a\\",b`, `"a\\"`, `b`)
	splits(t, `"a\\\",b",c`, `"a\\\",b"`, `c`)
	splits(t, `"\,",b`, `"\,"`, `b`)
	splits(t, `"\a",b`, `"\a"`, `b`)
	splits(t, `"a\`, `"a\`)
	splits(t, `"a\ `, `"a\`)
	splits(t, `"a,\"`, `"a,\"`)
	splits(t, `"a,\" , b`, `"a,\" , b`)
	splits(t, `\`, `\`)
	splits(t, `\,a`, `\`, `a`)
	splits(t, `a\,b`, `a\`, `b`)
	splits(t, `a\"b,c",d`, `a\"b,c"`, `d`)
	splits(t, `\"a\",b",c`, `\"a\",b"`, `c`)
	splits(t, `"a"\,b`, `"a"\`, `b`)
	splits(t, `"a"\",b`, `"a"\",b`)
	splits(t, `a\\,b\`, `a\\`, `b\`)

	// Split names no limit.
	many := strings.Repeat("a,", 5000)
	splits(t, many, slices.Repeat([]string{"a"}, 5000)...)
	splits(t, `"`+many+`"`, `"`+many+`"`)
	splitsAll(t, slices.Repeat([]string{"a", "b,c"}, 500), slices.Repeat([]string{"a", "b", "c"}, 500)...)
}

// TestSplitBytes has each byte where only some cut, quote or are taken along.
func TestSplitBytes(t *testing.T) {
	for c := range 256 {
		b := string([]byte{byte(c)})
		switch c {
		case ',':
			splits(t, "x"+b+"y", "x", "y")
		case ' ', '\t':
			splits(t, "x,"+b+"y"+b+b+"z"+b, "x", "y"+b+b+"z")
		case '"':
			splits(t, "x"+b+"y,z", "x"+b+"y,z")
		default:
			splits(t, "x"+b+"y,z", "x"+b+"y", "z")
			splits(t, b+","+b, b, b)
		}
		switch c {
		case '"':
			splits(t, `"x`+b+`y,z`, `"x`+b+`y`, `z`)
		case '\\':
			splits(t, `"x`+b+`",z`, `"x`+b+`",z`)
		default:
			splits(t, `"x`+b+`y,z",w`, `"x`+b+`y,z"`, `w`)
			splits(t, `"x`+b+`",z`, `"x`+b+`"`, `z`)
		}
		splits(t, `"x\`+b+`y,z",w`, `"x\`+b+`y,z"`, `w`)
	}
}

func TestMerge(t *testing.T) {
	merges(t, fields("A", "1", "B", "2"), fields("a", "3"), nil, "B", "2", "a", "3")
	merges(t, nil, nil, nil)
	merges(t, nil, nil, []string{"a"})
	merges(t, fields("a", "1", "b", "2"), nil, nil, "a", "1", "b", "2")
	merges(t, fields("a", "1", "b", "2"), nil, []string{"a", "b"}, "a", "1", "b", "2")
	merges(t, nil, fields("a", "1", "b", "2"), nil, "a", "1", "b", "2")
	merges(t, nil, fields("a", "1", "b", "2"), []string{"a"}, "b", "2")
	merges(t, nil, fields("a", "1", "b", "2"), []string{"B", "A"})

	// What may not go in takes nothing away.
	merges(t, fields("A", "1", "B", "2"), fields("a", "3", "b", "4"), []string{"A"}, "A", "1", "b", "4")
	merges(t, fields("A", "1", "B", "2"), fields("a", "3", "b", "4"), []string{"a"}, "A", "1", "b", "4")
	merges(t, fields("A", "1", "B", "2"), fields("a", "3", "b", "4"), []string{"c", "B", "b", "a"}, "A", "1", "B", "2")
	merges(t, fields("A", "1"), fields("A", "1"), []string{"a"}, "A", "1")
	merges(t, fields("A", "1"), fields("b", "3"), []string{"a"}, "A", "1", "b", "3")

	// Names that are there several times.
	merges(t, fields("a", "1", "b", "2", "A", "3", "b", "4"), fields("A", "5"), nil, "b", "2", "b", "4", "A", "5")
	merges(t, fields("b", "1", "a", "2", "b", "3"), fields("a", "4", "A", "5", "a", "4"), nil, "b", "1", "b", "3", "a", "4", "A", "5", "a", "4")
	merges(t, fields("b", "1", "a", "2", "B", "3"), fields("a", "4", "c", "5", "A", "6", "C", "7"), []string{"C", "x"}, "b", "1", "B", "3", "a", "4", "A", "6")
	merges(t, fields("c", "1", "a", "2", "c", "3"), fields("b", "5", "B", "4", "a", "0"), nil, "c", "1", "c", "3", "b", "5", "B", "4", "a", "0")
	merges(t, fields("z", "1", "y", "2", "x", "3"), fields("c", "1", "b", "2", "a", "3"), nil, "z", "1", "y", "2", "x", "3", "c", "1", "b", "2", "a", "3")

	// What is there but empty, or may not be, counts as any.
	merges(t, fields("a", "1"), fields("a", ""), nil, "a", "")
	merges(t, fields("a", ""), fields("b", ""), nil, "a", "", "b", "")
	merges(t, fields("a", ""), fields("A", "1"), []string{""}, "A", "1")
	merges(t, fields("", "1", "a b", "2", "é", "3"), fields("", "4", "A B", "5", "É", "6"), nil, "é", "3", "", "4", "A B", "5", "É", "6")
	merges(t, fields("", "1", "a b", "2"), fields("", "4", "A B", "5"), []string{"", "a b"}, "", "1", "a b", "2")
	merges(t, fields("a", "1"), fields(" a", "2\n"), []string{"a ", "a,"}, "a", "1", " a", "2\n")
	long := strings.Repeat("A", 300)
	merges(t, fields(long, "1", long+"b", "2"), fields(strings.ToLower(long), "3"), nil, long+"b", "2", strings.ToLower(long), "3")

	// Merge names no limit.
	many := slices.Repeat(fields("a", "1", "b", "2"), 100)
	var want []string
	for range 100 {
		want = append(want, "a", "1")
	}
	merges(t, many, fields("B", "3"), nil, append(want, "B", "3")...)
	merges(t, fields("B", "3"), many, []string{"B"}, append([]string{"B", "3"}, want...)...)
}

func TestSame(t *testing.T) {
	l := fields("A", "x", "b", "y", "a", "x")
	for _, c := range []struct {
		a, b []api.Field
		want bool
	}{
		{nil, nil, true},
		{nil, []api.Field{}, true},
		{l, fields("A", "x", "b", "y", "a", "x"), true},
		{l, fields("a", "x", "b", "y", "a", "x"), false},
		{l, fields("A", "x", "b", "y", "A", "x"), false},
		{l, fields("A", "X", "b", "y", "a", "x"), false},
		{l, fields("A", "x", "b", "y", "a", "X"), false},
		{l, fields("A", "x", "b", "y", "a", ""), false},
		{l, fields("A", "x", "c", "y", "a", "x"), false},
		{l, fields("A", "x", "", "y", "a", "x"), false},
		{l, fields("A", "x", "b", "z", "a", "x"), false},
		{l, fields("A", "x", "b", "y "), false},
		{l, l[:2], false},
		{l, l[1:], false},
		{l, nil, false},
		{l, append(slices.Clone(l), api.Field{}), false},
		{l, append(slices.Clone(l), l[2]), false},
		{l, fields("a", "x", "b", "y", "A", "x"), false},
		{l, fields("b", "y", "A", "x", "a", "x"), false},
		{fields("a", "b"), fields("b", "a"), false},
		{fields("", ""), nil, false},
		{fields("a", "1, 2"), fields("a", "1", "a", "2"), false},
		{fields("ab", "c"), fields("a", "bc"), false},
		{fields("\xFF", "\xFE"), fields("\xFF", "\xFE"), true},
		{fields("\xFF", "\xFE"), fields("\uFFFD", "\uFFFD"), false},
	} {
		if head.Same(c.a, c.b) != c.want || head.Same(c.b, c.a) != c.want {
			t.Errorf("P13.3: Same(%q, %q) is not %v", c.a, c.b, c.want)
		}
	}
}
