package sf_test

import (
	"math"
	"math/rand"
	"slices"
	"strings"
	"testing"

	"springhouse/api"
	"springhouse/sf"
)

// checkPrints holds what is told of x, alone and as a member, against text; of one that may not be, text is empty and e ErrRange.
func checkPrints(t *testing.T, x sf.Item, text string, e api.Errno) {
	t.Helper()
	alone, single := text, e
	if x.Inner {
		alone, single = "", api.ErrRange
	}
	if s, f := sf.PrintItem(x); s != alone || f != single {
		t.Errorf("P12.2: PrintItem(%.300s): %.300q, %d, not %.300q, %d", told(x), s, f, alone, single)
	}
	one := item(integer(1))
	list, dict := "1, "+text+", 1", "a=1, k="+text+", b=1"
	if rest, yes := strings.CutPrefix(text, "?1"); yes {
		dict = "a=1, k" + rest + ", b=1"
	}
	if e != api.OK {
		list, dict = "", ""
	}
	if s, f := sf.PrintList([]sf.Item{one, x, one}); s != list || f != e {
		t.Errorf("P12.2: PrintList of 1, %.300s, 1: %.300q, %d, not %.300q, %d", told(x), s, f, list, e)
	}
	if s, f := sf.PrintDict([]sf.Entry{entry("a", one), entry("k", x), entry("b", one)}); s != dict || f != e {
		t.Errorf("P12.2: PrintDict of 1, %.300s, 1: %.300q, %d, not %.300q, %d", told(x), s, f, dict, e)
	}
}

// values are bare values that may be, with what is told of them.
func values() map[string]sf.Bare {
	return map[string]sf.Bare{
		"0": integer(0), "1": integer(1), "-1": integer(-1), "10": integer(10), "2147483648": integer(1 << 31), "999999999999999": integer(999999999999999), "-999999999999999": integer(-999999999999999),
		"0.0": decimal(0), "0.001": decimal(1), "-0.001": decimal(-1), "0.01": decimal(10), "0.1": decimal(100), "-0.1": decimal(-100), "1.0": decimal(1000), "-1.0": decimal(-1000), "10.0": decimal(10000), "100.0": decimal(100000),
		"2.5": decimal(2500), "2.05": decimal(2050), "2.005": decimal(2005), "-2.505": decimal(-2505), "0.999": decimal(999), "-0.999": decimal(-999), "1.001": decimal(1001), "1000.01": decimal(1000010),
		"999999999999.999": decimal(999999999999999), "-999999999999.999": decimal(-999999999999999), "999999999999.0": decimal(999999999999000), "999999999999.9": decimal(999999999999900),
		`""`: text(""), `" "`: text(" "), `"a b"`: text("a b"), `"~!"`: text("~!"), `"\""`: text(`"`), `"\\"`: text(`\`), `"\\\"\\\\"`: text(`\"\\`), `"a,b;c"`: text("a,b;c"), `"'1'"`: text("'1'"),
		"a": token("a"), "*": token("*"), "Z": token("Z"), "*1": token("*1"), "A!#$%&'*+-.^_`|~:/09z": token("A!#$%&'*+-.^_`|~:/09z"),
		"::": binary(), ":AA==:": binary(0), ":AAA=:": binary(0, 0), ":AAAA:": binary(0, 0, 0), ":aGVsbG8=:": binary([]byte("hello")...), ":+/8=:": binary(0xFB, 0xFF), "://///w==:": binary(0xFF, 0xFF, 0xFF, 0xFF),
		"?1": truth(true), "?0": truth(false),
		"@0": date(0), "@1": date(1), "@-1": date(-1), "@1659578233": date(1659578233), "@999999999999999": date(999999999999999), "@-999999999999999": date(-999999999999999),
	}
}

func TestPrints(t *testing.T) {
	one := item(integer(1))
	for s, b := range values() {
		asParam := "=" + s
		if s == "?1" {
			asParam = ""
		}
		checkPrints(t, item(b), s, api.OK)
		checkPrints(t, item(b, param("a", b), param("*b", b)), s+";a"+asParam+";*b"+asParam, api.OK)
		checkPrints(t, inner([]sf.Item{item(b)}), "("+s+")", api.OK)
		checkPrints(t, inner([]sf.Item{one, item(b, param("a", b)), item(b)}, param("c", b), param("a", b)), "(1 "+s+";a"+asParam+" "+s+");c"+asParam+";a"+asParam, api.OK)
	}
	checkPrints(t, inner(nil), "()", api.OK)
	checkPrints(t, inner(nil, param("a", integer(1))), "();a=1", api.OK)
	checkPrints(t, inner([]sf.Item{one, one, one}), "(1 1 1)", api.OK)
	checkPrints(t, item(binary(), param("k", truth(false))), "::;k=?0", api.OK)
}

// TestPrintsLists has none, one and more.
func TestPrintsLists(t *testing.T) {
	a, yes := item(token("a")), item(truth(true))
	for s, l := range map[string][]sf.Item{"": nil, "a": {a}, "a, a": {a, a}, "(), (), a": {inner(nil), inner(nil), a}} {
		if got, e := sf.PrintList(l); got != s || e != api.OK {
			t.Errorf("P12.2: PrintList(%s): %q, %d", told(l), got, e)
		}
	}
	for s, l := range map[string][]sf.Entry{
		"": nil, "a=a": {entry("a", a)}, "a": {entry("a", yes)}, "b, a=?0": {entry("b", yes), entry("a", item(truth(false)))}, "a=a, b=a, ab=a": {entry("a", a), entry("b", a), entry("ab", a)},
		"a;x;y=1, b=();z, *=(?1);w": {entry("a", item(truth(true), param("x", truth(true)), param("y", integer(1)))), entry("b", inner(nil, param("z", truth(true)))), entry("*", inner([]sf.Item{yes}, param("w", truth(true))))},
	} {
		if got, e := sf.PrintDict(l); got != s || e != api.OK {
			t.Errorf("P12.2: PrintDict(%s): %q, %d", told(l), got, e)
		}
	}
	if s, e := sf.PrintList([]sf.Item{}); s != "" || e != api.OK {
		t.Errorf("P12.2: PrintList of an empty list: %q, %d", s, e)
	}
	if s, e := sf.PrintDict([]sf.Entry{}); s != "" || e != api.OK {
		t.Errorf("P12.2: PrintDict of an empty list: %q, %d", s, e)
	}
}

// notBare are bare values that may not be.
func notBare() []sf.Bare {
	l := []sf.Bare{
		{}, {N: 1}, {Text: "a"}, {Bytes: []byte{1}}, {Yes: true},
		integer(1000000000000000), integer(-1000000000000000), integer(math.MaxInt), integer(math.MinInt), integer(math.MinInt + 1),
		decimal(1000000000000000), decimal(-1000000000000000), decimal(math.MaxInt), decimal(math.MinInt),
		date(1000000000000000), date(-1000000000000000), date(math.MaxInt), date(math.MinInt),
		text("\x00"), text("\x1F"), text("\x7F"), text("\x80"), text("\xFF"), text("é"), text("\t"), text("a\nb"), text("ab\x7F"),
		token(""), token("1"), token("-"), token("!a"), token("/"), token(":"), token(" a"), token("a "), token("a b"), token("a\""), token("a\\"), token("a,b"), token("a;b"), token("a=b"), token("a(b"), token("a)"), token("a?"), token("a@"), token("a{"), token("a\x00"), token("a\x7F"), token("é"), token("aé"), token("a\xFF"),
	}
	// Each other field of each Kind.
	for _, b := range []sf.Bare{integer(1), integer(0), decimal(1), decimal(0), text("a"), text(""), token("a"), binary(1), binary(), truth(true), truth(false), date(1), date(0)} {
		for field := range 4 {
			c := b
			switch {
			case field == 0 && b.Kind != sf.Integer && b.Kind != sf.Decimal && b.Kind != sf.Date:
				c.N = 1
				l = append(l, c)
				c.N = -1
			case field == 1 && b.Kind != sf.Text && b.Kind != sf.Token:
				c.Text = "a"
			case field == 2 && b.Kind != sf.Bytes:
				c.Bytes = []byte{0}
			case field == 3 && b.Kind != sf.Bool:
				c.Yes = true
			default:
				continue
			}
			l = append(l, c)
		}
	}
	// Each other Kind, with nothing and with something beside it.
	for _, kind := range []int{0, -1, 8, 9, 100, 1 << 32, 1<<32 + 1, math.MaxInt, math.MinInt} {
		l = append(l, sf.Bare{Kind: kind}, sf.Bare{Kind: kind, N: 1}, sf.Bare{Kind: kind, Text: "a"}, sf.Bare{Kind: kind, Bytes: []byte{1}}, sf.Bare{Kind: kind, Yes: true})
	}
	return l
}

func TestPrintsNoBare(t *testing.T) {
	one := integer(1)
	for _, b := range notBare() {
		checkPrints(t, item(b), "", api.ErrRange)
		checkPrints(t, item(b, param("a", one)), "", api.ErrRange)
		checkPrints(t, item(one, param("a", b)), "", api.ErrRange)
		checkPrints(t, item(one, param("a", one), param("b", b), param("c", one)), "", api.ErrRange)
		checkPrints(t, inner([]sf.Item{item(b)}), "", api.ErrRange)
		checkPrints(t, inner([]sf.Item{item(one), item(one), item(b)}), "", api.ErrRange)
		checkPrints(t, inner([]sf.Item{item(one, param("a", b))}), "", api.ErrRange)
		checkPrints(t, inner(nil, param("a", one), param("b", b)), "", api.ErrRange)
	}
}

func TestPrintsNoItem(t *testing.T) {
	one, list := item(integer(1)), []sf.Item{item(integer(1))}
	for _, x := range []sf.Item{
		{},
		// An Inner one with a Value, one that is not Inner with Items.
		{Inner: true, Value: integer(1)}, {Inner: true, Value: integer(0)}, {Inner: true, Value: sf.Bare{N: 1}}, {Inner: true, Value: sf.Bare{Text: "a"}}, {Inner: true, Value: sf.Bare{Bytes: []byte{0}}}, {Inner: true, Value: sf.Bare{Yes: true}}, {Inner: true, Value: truth(true), Items: list},
		{Value: integer(1), Items: list}, {Items: list}, {Value: truth(true), Items: []sf.Item{inner(nil)}}, {Value: integer(1), Items: make([]sf.Item, 1)},
		// An inner list in one, and one in an item of one.
		inner([]sf.Item{inner(nil)}), inner([]sf.Item{one, inner(list), one}), inner([]sf.Item{{}}), inner(make([]sf.Item, 3)), inner([]sf.Item{{Value: integer(1), Items: list}}), inner([]sf.Item{inner([]sf.Item{inner(nil)})}),
	} {
		checkPrints(t, x, "", api.ErrRange)
	}
	for _, key := range []string{"", "A", "aB", "1", "1a", "-", "_a", ".a", "a b", " a", "a ", "a=", "a;", "a,", "a/", "a:", "a!", "a~", "a\"", "a\x00", "a\x7F", "a\x80", "é", "aé", "\xFF"} {
		bad := param(key, integer(1))
		checkPrints(t, item(integer(1), bad), "", api.ErrRange)
		checkPrints(t, item(integer(1), param("a", integer(1)), bad), "", api.ErrRange)
		checkPrints(t, inner(nil, bad), "", api.ErrRange)
		checkPrints(t, inner([]sf.Item{one, item(integer(1), bad)}), "", api.ErrRange)
		for _, l := range [][]sf.Entry{{entry(key, one)}, {entry("a", one), entry(key, one), entry("b", one)}, {entry(key, inner(nil))}, {entry(key, item(truth(true)))}} {
			if s, e := sf.PrintDict(l); s != "" || e != api.ErrRange {
				t.Errorf("P12.2: PrintDict with key %q: %q, %d", key, s, e)
			}
		}
	}
	// Names that come twice, of Params and of members.
	for _, names := range [][]string{{"a", "a"}, {"a", "b", "a"}, {"b", "a", "a"}, {"a", "a", "a"}, {"c", "*", "d", "*", "e"}} {
		var l []sf.Param
		var d []sf.Entry
		for i, name := range names {
			l = append(l, param(name, integer(i)))
			d = append(d, entry(name, item(integer(i))))
		}
		checkPrints(t, item(integer(1), l...), "", api.ErrRange)
		checkPrints(t, inner(nil, l...), "", api.ErrRange)
		checkPrints(t, inner([]sf.Item{one, item(integer(1), l...)}), "", api.ErrRange)
		if s, e := sf.PrintDict(d); s != "" || e != api.ErrRange {
			t.Errorf("P12.2: PrintDict of names %q: %q, %d", names, s, e)
		}
	}
	for i := range 256 {
		good := i == '*' || 'a' <= i && i <= 'z'
		later := good || i == '_' || i == '-' || i == '.' || '0' <= i && i <= '9'
		b := string([]byte{byte(i)})
		_, e := sf.PrintDict([]sf.Entry{entry(b, one)})
		_, f := sf.PrintDict([]sf.Entry{entry("a"+b, one)})
		_, g := sf.PrintItem(item(integer(1), param("a"+b+"c", integer(1))))
		if (e == api.OK) != good || (f == api.OK) != later || (g == api.OK) != later {
			t.Errorf("P12.2: byte %02X in a key: %d, %d, %d", i, e, f, g)
		}
	}
}

// manyParams are n Params with names that differ.
func manyParams(n int) []sf.Param {
	var l []sf.Param
	for _, name := range strings.Fields(row(n, " ", "")) {
		l = append(l, param(name, truth(true)))
	}
	return l
}

func TestPrintsMaxItems(t *testing.T) {
	one := item(integer(1))
	for _, n := range []int{255, 256, 257, 300, 5000} {
		e := api.OK
		if n > 256 {
			e = api.ErrRange
		}
		ok := func(s string) string {
			if e != api.OK {
				return ""
			}
			return s
		}
		ones, params := slices.Repeat([]sf.Item{one}, n), manyParams(n)
		if s, f := sf.PrintList(ones); s != ok(strings.TrimSuffix(strings.Repeat("1, ", n), ", ")) || f != e {
			t.Errorf("P12.2: PrintList, %d members: %.30q, %d", n, s, f)
		}
		var d []sf.Entry
		for _, p := range params {
			d = append(d, entry(p.Name, one))
		}
		if s, f := sf.PrintDict(d); s != ok(strings.TrimSuffix(row(n, "", "=1, "), ", ")) || f != e {
			t.Errorf("P12.2: PrintDict, %d members: %.30q, %d", n, s, f)
		}
		checkPrints(t, inner(ones), ok("("+strings.TrimSpace(strings.Repeat("1 ", n))+")"), e)
		checkPrints(t, item(integer(1), params...), ok("1"+row(n, ";", "")), e)
		checkPrints(t, inner(nil, params...), ok("()"+row(n, ";", "")), e)
		checkPrints(t, inner([]sf.Item{one, item(integer(1), params...)}), ok("(1 1"+row(n, ";", "")+")"), e)
	}
	// What is told may be longer than what is read.
	long := strings.Repeat("x", 5000)
	checkPrints(t, item(token(long), param(long, text(long))), long+";"+long+"=\""+long+"\"", api.OK)
}

func TestGet(t *testing.T) {
	one, two := item(integer(1)), inner([]sf.Item{item(integer(2), param("x", binary(1)))}, param("y", text("z")))
	l := []sf.Entry{entry("a", one), entry("b", two), entry("a", item(token("c"))), entry("", item(integer(3))), entry("A", item(integer(4))), entry("\xFF", item(integer(5))), entry("b", sf.Item{})}
	for _, c := range []struct {
		l    []sf.Entry
		name string
		want sf.Item
		ok   bool
	}{
		{l, "a", item(token("c")), true}, {l[:2], "a", one, true}, {l[:2], "b", two, true}, {l, "b", sf.Item{}, true}, {l, "", item(integer(3)), true}, {l, "A", item(integer(4)), true}, {l, "\xFF", item(integer(5)), true},
		{l, "c", sf.Item{}, false}, {l, "aa", sf.Item{}, false}, {l, "\x00", sf.Item{}, false}, {l[:1], "", sf.Item{}, false}, {l[:2], "A", sf.Item{}, false}, {l[:0], "a", sf.Item{}, false}, {nil, "a", sf.Item{}, false}, {nil, "", sf.Item{}, false},
		{l[1:3], "a", item(token("c")), true}, {[]sf.Entry{entry("a", one), entry("a", two), entry("a", one)}[:2], "a", two, true},
	} {
		if x, ok := sf.Get(c.l, c.name); ok != c.ok || told(x) != told(c.want) {
			t.Errorf("P12.2: Get(%s, %q): %s, %v", told(c.l), c.name, told(x), ok)
		}
	}
	// Hand-made ones, whatever they are, are told as they stand.
	odd := sf.Item{Inner: true, Value: sf.Bare{Kind: 99, N: math.MinInt, Text: "\xFF", Bytes: []byte{1}, Yes: true}, Items: []sf.Item{{Inner: true, Items: []sf.Item{{Value: sf.Bare{Kind: -1}}}, Params: []sf.Param{{}}}}, Params: []sf.Param{{Name: "A", Value: sf.Bare{Bytes: []byte{2}}}, {Name: "A"}}}
	if x, ok := sf.Get([]sf.Entry{entry("a", odd)}, "a"); !ok || told(x) != told(odd) {
		t.Errorf("P12.2: Get of %s: %s, %v", told(odd), told(x), ok)
	}
}

// others are items that differ from each other in one field at least, most of them in one alone.
func others() []sf.Item {
	l := []sf.Item{{}, {Inner: true}, {Value: sf.Bare{N: 1}}, {Value: sf.Bare{Text: "a"}}, {Value: sf.Bare{Bytes: []byte{0}}}, {Value: sf.Bare{Bytes: []byte{1}}}, {Value: sf.Bare{Bytes: []byte{0, 1}}}, {Value: sf.Bare{Yes: true}}}
	for kind := -1; kind < 10; kind++ {
		if kind != 0 {
			l = append(l, sf.Item{Value: sf.Bare{Kind: kind}}, sf.Item{Value: sf.Bare{Kind: kind, N: 1}}, sf.Item{Value: sf.Bare{Kind: kind, Text: "b"}})
		}
	}
	base := len(l)
	for _, x := range l[:base] {
		l = append(l,
			sf.Item{Value: integer(7), Params: []sf.Param{param("a", x.Value), param("b", integer(1))}},
			sf.Item{Inner: true, Items: []sf.Item{x}}, sf.Item{Items: []sf.Item{x, x}}, sf.Item{Inner: true, Items: []sf.Item{{Inner: true, Items: []sf.Item{x}}}})
	}
	// The same lists in other orders, and of other lengths; of Params, of which Inner items have none here, by names too.
	one, two := item(integer(1)), item(integer(2))
	l = append(l,
		inner([]sf.Item{one, two}), inner([]sf.Item{two, one}), inner([]sf.Item{one, two, one}), sf.Item{Items: []sf.Item{one, two}},
		item(integer(1), param("a", integer(1)), param("b", integer(1))), item(integer(1), param("b", integer(1)), param("a", integer(1))), item(integer(1), param("a", integer(1))), item(integer(1), param("A", integer(1))), item(integer(1), param("", integer(1))),
		item(integer(1), param("a", integer(1)), param("a", integer(1))), inner(nil, param("a", integer(1))))
	return l
}

func TestSame(t *testing.T) {
	l := others()
	again := others()
	for i, a := range l {
		for k, b := range again {
			if got := sf.Same(a, b); got != (told(a) == told(b)) {
				t.Errorf("P12.2: Same, %d and %d: %s, %s: %v", i, k, told(a), told(b), got)
			}
		}
	}
	// No list and an empty one are the same (P0.4).
	none := sf.Item{Value: integer(1), Params: []sf.Param{param("a", binary())}}
	empty := sf.Item{Value: sf.Bare{Kind: sf.Integer, N: 1, Bytes: []byte{}}, Items: []sf.Item{}, Params: []sf.Param{param("a", sf.Bare{Kind: sf.Bytes, Bytes: []byte{}})}}
	if !sf.Same(none, empty) || !sf.Same(empty, none) || !sf.Same(sf.Item{}, sf.Item{Items: []sf.Item{}, Params: []sf.Param{}}) {
		t.Errorf("P12.2: Same of none and empty lists")
	}
}

// TestThereAndBack: P12.4, and what is told itself against a second telling.
func TestThereAndBack(t *testing.T) {
	r := rand.New(rand.NewSource(124))
	m := maker{r}
	for range 20000 {
		x, l, d := m.item(false), m.list(), m.dict()
		s, e := sf.PrintItem(x)
		if s != secondItemText(x) || e != api.OK {
			t.Fatalf("P12.2: PrintItem(%s): %q, %d", told(x), s, e)
		}
		if y, at, e := sf.ParseItem(s); told(y) != told(x) || at != 0 || e != api.OK {
			t.Fatalf("P12.4: %s, told %q, is read as %s, %d", told(x), s, told(y), e)
		}
		s, e = sf.PrintList(l)
		if s != secondListText(l) || e != api.OK {
			t.Fatalf("P12.2: PrintList(%s): %q, %d", told(l), s, e)
		}
		if k, at, e := sf.ParseList(s); told(k) != told(l) || at != 0 || e != api.OK {
			t.Fatalf("P12.4: %s, told %q, is read as %s, %d", told(l), s, told(k), e)
		}
		s, e = sf.PrintDict(d)
		if s != secondDictText(d) || e != api.OK {
			t.Fatalf("P12.2: PrintDict(%s): %q, %d", told(d), s, e)
		}
		if k, at, e := sf.ParseDict(s); told(k) != told(d) || at != 0 || e != api.OK {
			t.Fatalf("P12.4: %s, told %q, is read as %s, %d", told(d), s, told(k), e)
		}
	}
}

// TestBackAndThere: Print of what Parse tells of a text, which is not told as it should be, is read as the same (P12.4), and told the same again.
func TestBackAndThere(t *testing.T) {
	r := rand.New(rand.NewSource(125))
	m := maker{r}
	read := 0
	for range 20000 {
		s := m.loose(secondDictText(m.dict()) + m.pick(",a", 2) + m.pick(";b=.0", 4))
		if l, _, e := sf.ParseList(s); e == api.OK {
			told1, e := sf.PrintList(l)
			k, _, f := sf.ParseList(told1)
			told2, g := sf.PrintList(k)
			if e != api.OK || f != api.OK || g != api.OK || told(k) != told(l) || told1 != told2 {
				t.Fatalf("P12.4: %q: told %q, %d, then %q, %d, %d", s, told1, e, told2, f, g)
			}
		}
		if l, _, e := sf.ParseDict(s); e == api.OK {
			read++
			told1, e := sf.PrintDict(l)
			k, _, f := sf.ParseDict(told1)
			told2, g := sf.PrintDict(k)
			if e != api.OK || f != api.OK || g != api.OK || told(k) != told(l) || told1 != told2 {
				t.Fatalf("P12.4: %q: told %q, %d, then %q, %d, %d", s, told1, e, told2, f, g)
			}
		}
	}
	if read < 2000 {
		t.Errorf("the test itself: only %d texts are dictionaries", read)
	}
}

// TestFullThereAndBack has lists as long as they may be.
func TestFullThereAndBack(t *testing.T) {
	x := item(integer(1), manyParams(256)...)
	l := slices.Repeat([]sf.Item{item(token("a"))}, 256)
	for _, list := range [][]sf.Item{l, {inner(l)}, {x}, {inner([]sf.Item{x}, manyParams(256)...)}} {
		s, e := sf.PrintList(list)
		k, _, f := sf.ParseList(s)
		if len(s) > 4000 || e != api.OK || f != api.OK || told(k) != told(list) {
			t.Errorf("P12.4: %.40q: %d bytes, %d, %d", s, len(s), e, f)
		}
	}
}

// TestDeep has inner lists as deep in one another as the document promises: none of the calls panics (P0.1).
func TestDeep(t *testing.T) {
	deep := func(n int) sf.Item {
		x := item(integer(n))
		for range 1 << 16 {
			x = inner([]sf.Item{x}, param("a", integer(1)))
		}
		return x
	}
	x := deep(1)
	y, ok := sf.Get([]sf.Entry{entry("a", x)}, "a")
	if !ok || !sf.Same(x, y) || sf.Same(x, deep(2)) {
		t.Errorf("P12.2: Get and Same of a deep one: %v", ok)
	}
	if s, e := sf.PrintList([]sf.Item{x}); s != "" || e != api.ErrRange {
		t.Errorf("P12.2: PrintList of a deep one: %.30q, %d", s, e)
	}
}
