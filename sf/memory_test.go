package sf_test

import (
	"fmt"
	"slices"
	"testing"
	"unsafe"

	"springhouse/api"
	"springhouse/sf"
)

// borrowed tells s as a text whose bytes may be written over later.
func borrowed(s string) (string, []byte) {
	b := append([]byte(s), '!')
	return unsafe.String(&b[0], len(s)), b
}

// spoil writes over all of l.
func spoil[T any](l []T, x T) {
	for i := range l {
		l[i] = x
	}
}

const (
	rich     = `a1;p=text;q="x\"y";r=:AAEC:;s=?0, (b2 "c3";t=tok :BAUG:);u=d4, k5;v, ()`
	richDict = `aa=a1;p=text;q="x\"y";r=:AAEC:;s=?0, bb=(b2 "c3";t=tok :BAUG:);u=d4, cc=k5;v, dd;w=:BwgJ:, ee=:CgsM:, aa=e6;p=f7`
)

// TestKeepsNoText: P12.3, the text is not kept, not even a piece of it.
func TestKeepsNoText(t *testing.T) {
	const one = `a1;p=text;q="x\"y";r=:AAEC:;p=b2`
	s, b := borrowed(one)
	x, _, e := sf.ParseItem(s)
	want := told(x)
	spoil(b, 'X')
	if e != api.OK || told(x) != want {
		t.Errorf("P12.3: ParseItem keeps its text: %s, not %s, %d", told(x), want, e)
	}
	s, b = borrowed(rich)
	l, _, e := sf.ParseList(s)
	want = told(l)
	spoil(b, 'X')
	if e != api.OK || told(l) != want {
		t.Errorf("P12.3: ParseList keeps its text: %s, not %s, %d", told(l), want, e)
	}
	s, b = borrowed(richDict)
	d, _, e := sf.ParseDict(s)
	want = told(d)
	spoil(b, 'X')
	if e != api.OK || told(d) != want {
		t.Errorf("P12.3: ParseDict keeps its text: %s, not %s, %d", told(d), want, e)
	}
}

// TestPrintsKeepNoText has a hand-made item of borrowed texts.
func TestPrintsKeepNoText(t *testing.T) {
	name, b := borrowed("name")
	value, c := borrowed("value")
	data := []byte{1, 2, 3}
	l := []sf.Entry{entry(name, item(token(value), param(name, text(value)), param("b", binary(data...)))), entry("c", inner([]sf.Item{item(token(value))}, param(name, token(value))))}
	s, e := sf.PrintItem(l[0].Value)
	u, f := sf.PrintList([]sf.Item{l[0].Value, l[1].Value})
	v, g := sf.PrintDict(l)
	x, ok := sf.Get(l, name)
	y, also := sf.Get(l, "c")
	alone, h := sf.PrintItem(item(token(value)))
	want := []string{told(x), told(y)}
	spoil(b, 'X')
	spoil(c, 'X')
	spoil(data, 9)
	if s != `value;name="value";b=:AQID:` || e != api.OK || alone != "value" || h != api.OK {
		t.Errorf("P12.3: PrintItem keeps its item: %q, %d, %q, %d", s, e, alone, h)
	}
	if u != `value;name="value";b=:AQID:, (value);name=value` || f != api.OK {
		t.Errorf("P12.3: PrintList keeps its list: %q, %d", u, f)
	}
	if v != `name=value;name="value";b=:AQID:, c=(value);name=value` || g != api.OK {
		t.Errorf("P12.3: PrintDict keeps its dictionary: %q, %d", v, g)
	}
	if told(x) != want[0] || told(y) != want[1] || !ok || !also {
		t.Errorf("P12.3: Get keeps its dictionary: %s, %s, not %v", told(x), told(y), want)
	}
}

// list is one list of an answer: how it stands, without what lies in lists of its own, and a call that adds to it and writes over it and its spare room.
type list struct {
	show  func() string
	spoil func()
}

func newList[T any](l []T, junk T, show func(T) string) list {
	return list{
		func() string {
			s := ""
			for _, x := range l {
				s += show(x) + "|"
			}
			return s
		},
		func() {
			_ = append(l, junk)
			spoil(l[:cap(l)], junk)
		},
	}
}

func showBare(b sf.Bare) string {
	return fmt.Sprintf("%d %d %q %d %v", b.Kind, b.N, b.Text, len(b.Bytes), b.Yes)
}

func showParam(p sf.Param) string { return fmt.Sprintf("%q %s", p.Name, showBare(p.Value)) }

func showItem(x sf.Item) string {
	return fmt.Sprintf("%v %s %d %d", x.Inner, showBare(x.Value), len(x.Items), len(x.Params))
}

func showEntry(e sf.Entry) string { return fmt.Sprintf("%q %s", e.Name, showItem(e.Value)) }

func ofBytes(b sf.Bare) list {
	return newList(b.Bytes, 'X', func(b byte) string { return fmt.Sprint(b) })
}

func ofItem(x sf.Item) []list {
	l := append(ofItems(x.Items), ofBytes(x.Value))
	for _, p := range x.Params {
		l = append(l, ofBytes(p.Value))
	}
	return append(l, newList(x.Params, param("junk", token("junk")), showParam))
}

func ofItems(items []sf.Item) []list {
	l := []list{newList(items, item(token("junk")), showItem)}
	for _, x := range items {
		l = append(l, ofItem(x)...)
	}
	return l
}

func ofEntries(entries []sf.Entry) []list {
	l := []list{newList(entries, entry("junk", item(token("junk"))), showEntry)}
	for _, x := range entries {
		l = append(l, ofItem(x.Value)...)
	}
	return l
}

func show(lists []list) []string {
	var l []string
	for _, x := range lists {
		l = append(l, x.show())
	}
	return l
}

// TestListsApart writes into each list that is handed out: none of the others shows it, of the same answer, of another one, or handed in.
func TestListsApart(t *testing.T) {
	calls := map[string]func() []list{
		"ParseItem": func() []list {
			x, _, _ := sf.ParseItem(`:AAEC:;p=:AAEC:;q=:BAUG:;r=1;p=:CQ==:`)
			y, _, _ := sf.ParseItem(`:AAEC:;p=:AAEC:;q=:BAUG:;r=1;p=:CQ==:`)
			return append(ofItem(x), ofItem(y)...)
		},
		"ParseList": func() []list {
			x, _, _ := sf.ParseList(rich)
			y, _, _ := sf.ParseList(rich)
			return append(ofItems(x), ofItems(y)...)
		},
		"ParseDict": func() []list {
			x, _, _ := sf.ParseDict(richDict)
			y, _, _ := sf.ParseDict(richDict)
			return append(ofEntries(x), ofEntries(y)...)
		},
		"Get": func() []list {
			d, _, _ := sf.ParseDict(richDict)
			l := ofEntries(d)
			for _, x := range append(d, d...) {
				y, _ := sf.Get(d, x.Name)
				l = append(l, ofItem(y)...)
			}
			return l
		},
	}
	for name, call := range calls {
		want := show(call())
		for i := range want {
			l := call()
			if !slices.Equal(show(l), want) {
				t.Fatalf("P12.3: %s answers otherwise after its answers were written over", name)
			}
			l[i].spoil()
			got := show(l)
			got[i] = want[i]
			if !slices.Equal(got, want) {
				t.Errorf("P12.3: %s: what is written into list %d (%s) is seen in another one: %q, not %q", name, i, want[i], got, want)
			}
		}
	}
}

// roomy tells l with things in its spare room that may not be.
func roomy[T any](l []T, junk T) []T {
	return append(append([]T{}, l...), junk, junk, junk)[:len(l)]
}

// whole tells l and its spare room.
func whole[T any](l []T) string { return told(l[:cap(l)]) }

// TestTakesAsIs: what is handed in isn't changed, and what lies behind its length is neither read nor written.
func TestTakesAsIs(t *testing.T) {
	bytes := roomy([]byte{1, 2, 3}, 0xEE)
	none := roomy([]byte{}, 0xEE)
	params := roomy([]sf.Param{param("p", binary(4)), param("q", sf.Bare{Kind: sf.Integer, N: 1, Bytes: none})}, param("p", sf.Bare{Kind: 77}))
	items := roomy([]sf.Item{item(sf.Bare{Kind: sf.Bytes, Bytes: bytes}, params...), {Value: token("t"), Params: params, Items: roomy([]sf.Item{}, inner(nil))}}, inner([]sf.Item{{}}))
	list := roomy([]sf.Item{{Inner: true, Items: items, Params: params}, {Value: sf.Bare{Kind: sf.Bytes, Bytes: bytes}, Params: params}}, sf.Item{})
	dict := roomy([]sf.Entry{entry("a", list[0]), entry("b", list[1])}, entry("b", item(token("behind"))))
	show := func() string {
		return whole(bytes) + whole(none) + whole(params) + whole(items) + whole(list) + whole(dict)
	}
	before := show()
	const innerText, itemText = `(:AQID:;p=:BA==:;q=1 t;p=:BA==:;q=1);p=:BA==:;q=1`, `:AQID:;p=:BA==:;q=1`
	if s, e := sf.PrintItem(list[1]); s != itemText || e != api.OK {
		t.Errorf("P12.3: PrintItem: %q, %d", s, e)
	}
	if s, e := sf.PrintList(list); s != innerText+", "+itemText || e != api.OK {
		t.Errorf("P12.3: PrintList: %q, %d", s, e)
	}
	if s, e := sf.PrintDict(dict); s != "a="+innerText+", b="+itemText || e != api.OK {
		t.Errorf("P12.3: PrintDict: %q, %d", s, e)
	}
	if x, ok := sf.Get(dict, "b"); !ok || told(x) != told(list[1]) {
		t.Errorf("P12.3: Get: %s, %v", told(x), ok)
	}
	if x, ok := sf.Get(dict[:1], "b"); ok || told(x) != told(sf.Item{}) {
		t.Errorf("P12.3: Get reads behind the length: %s, %v", told(x), ok)
	}
	plain := inner([]sf.Item{item(binary(1, 2, 3), params[:2:2]...), item(token("t"), params[:2:2]...)}, params[:2:2]...)
	if !sf.Same(list[0], plain) || !sf.Same(plain, list[0]) || sf.Same(list[0], list[1]) {
		t.Errorf("P12.3: Same reads behind the length")
	}
	if after := show(); after != before {
		t.Errorf("P12.3: what is handed in is changed: %s, not %s", after, before)
	}
}
