package head_test

import (
	"fmt"
	"slices"
	"testing"
	"unsafe"

	"springhouse/api"
	"springhouse/head"
)

// borrowed tells s as a text whose bytes may be written over later.
func borrowed(s string) (string, []byte) {
	b := append([]byte(s), '!')
	return unsafe.String(&b[0], len(s)), b
}

// lent are texts that may be written over.
type lent [][]byte

func (l *lent) text(s string) string {
	out, b := borrowed(s)
	*l = append(*l, b)
	return out
}

func (l *lent) texts(in ...string) []string {
	var out []string
	for _, s := range in {
		out = append(out, l.text(s))
	}
	return out
}

func (l *lent) fields(in ...string) []api.Field { return fields(l.texts(in...)...) }

func (l *lent) spoil() {
	for _, b := range *l {
		spoil(b, 'X')
	}
}

// spoil writes over all of l.
func spoil[T any](l []T, x T) {
	for i := range l {
		l[i] = x
	}
}

// TestKeepsNoText: P13.4, no text is kept, not even a piece of it.
func TestKeepsNoText(t *testing.T) {
	calls := map[string]func(l *lent) []any{
		"Lower":      func(l *lent) []any { return []any{head.Lower(l.text("aBc")), head.Lower(l.text("abc"))} },
		"Trim":       func(l *lent) []any { return []any{head.Trim(l.text(" abc\t")), head.Trim(l.text("abc"))} },
		"All":        func(l *lent) []any { return []any{head.All(l.fields("a", "xy", "A", "zw"), l.text("a"))} },
		"One of one": func(l *lent) []any { s, ok := head.One(l.fields("a", "xy"), l.text("A")); return []any{s, ok} },
		"One of several": func(l *lent) []any {
			s, ok := head.One(l.fields("a", "xy", "A", "z"), l.text("A"))
			return []any{s, ok}
		},
		"Drop":  func(l *lent) []any { return []any{head.Drop(l.fields("a", "xy", "B", "zw"), l.text("a"))} },
		"Set":   func(l *lent) []any { return []any{head.Set(l.fields("a", "xy", "B", "zw"), l.text("a"), l.text("uv"))} },
		"Split": func(l *lent) []any { return []any{head.Split(l.texts(`ab, "c,d" `, "efg"))} },
		"Merge": func(l *lent) []any {
			return []any{head.Merge(l.fields("a", "xy", "B", "zw"), l.fields("A", "uv", "C", "st"), l.texts("C"))}
		},
	}
	for name, call := range calls {
		var l lent
		got := call(&l)
		want := fmt.Sprintf("%q", got)
		l.spoil()
		if after := fmt.Sprintf("%q", got); after != want {
			t.Errorf("P13.4: %s keeps a text: %s, not %s", name, after, want)
		}
	}
}

// TestKeepsNoList: P13.4, a list is not kept, neither is one answer seen in another one.
func TestKeepsNoList(t *testing.T) {
	old, fresh := fields("a", "1", "b", "2", "A", "3"), fields("c", "4", "B", "5")
	lists := map[string]func(old, fresh []api.Field) []api.Field{
		"Drop":          func(old, fresh []api.Field) []api.Field { return head.Drop(old, "b") },
		"Drop of none":  func(old, fresh []api.Field) []api.Field { return head.Drop(old, "x") },
		"Set":           func(old, fresh []api.Field) []api.Field { return head.Set(old, "a", "6") },
		"Set of none":   func(old, fresh []api.Field) []api.Field { return head.Set(old, "x", "6") },
		"Merge":         func(old, fresh []api.Field) []api.Field { return head.Merge(old, fresh, nil) },
		"Merge of none": func(old, fresh []api.Field) []api.Field { return head.Merge(old, nil, nil) },
		"Merge to none": func(old, fresh []api.Field) []api.Field { return head.Merge(nil, fresh, []string{"x"}) },
	}
	for name, call := range lists {
		myOld, myFresh := slices.Clone(old), slices.Clone(fresh)
		one, two := call(myOld, myFresh), call(myOld, myFresh)
		want := slices.Clone(one)
		junk := api.Field{Name: "junk", Value: "junk"}
		_ = append(one, junk)
		spoil(one[:cap(one)], junk)
		if !slices.Equal(myOld, old) || !slices.Equal(myFresh, fresh) {
			t.Errorf("P13.4: %s: what is written into its answer is seen in what was handed in: %q, %q", name, myOld, myFresh)
		}
		if !slices.Equal(two, want) || !slices.Equal(call(myOld, myFresh), want) {
			t.Errorf("P13.4: %s: what is written into its answer is seen in another one", name)
		}
		spoil(myOld, junk)
		spoil(myFresh, junk)
		if !slices.Equal(two, want) {
			t.Errorf("P13.4: %s keeps a list: %q, not %q", name, two, want)
		}
	}
	values := []string{"a,b", "c"}
	texts := map[string]func() []string{
		"All":   func() []string { return head.All(old, "a") },
		"Split": func() []string { return head.Split(values) },
	}
	for name, call := range texts {
		one, two := call(), call()
		want := slices.Clone(one)
		_ = append(one, "junk")
		spoil(one[:cap(one)], "junk")
		if !slices.Equal(two, want) || !slices.Equal(call(), want) {
			t.Errorf("P13.4: %s: what is written into its answer is seen in another one", name)
		}
	}
	if !slices.Equal(values, []string{"a,b", "c"}) {
		t.Errorf("P13.4: what is written into Split's answer is seen in what was handed in: %q", values)
	}
}

// roomy tells l with things in its spare room that count where they are read.
func roomy[T any](l []T, junk T) []T {
	return append(append([]T{}, l...), junk, junk, junk)[:len(l)]
}

// whole tells l and its spare room.
func whole[T any](l []T) string { return fmt.Sprintf("%#v", l[:cap(l)]) }

// TestTakesAsIs: what is handed in isn't changed, and what lies behind its length is neither read nor written.
func TestTakesAsIs(t *testing.T) {
	old := roomy(fields("b", "1", "a", "2", "B", "3"), api.Field{Name: "c", Value: " bad"})
	fresh := roomy(fields("D", "4", "A", "5", "e", "6"), api.Field{Name: "b", Value: "7"})
	but := roomy([]string{"E", "x"}, "d")
	values := roomy([]string{"b,a", " c "}, "d")
	none, no := roomy([]api.Field{}, api.Field{Name: "a"}), roomy([]string{}, "d")
	show := func() string {
		return whole(old) + whole(fresh) + whole(but) + whole(values) + whole(none) + whole(no)
	}
	before := show()
	may(t, old, true)
	may(t, none, true)
	all(t, old, "b", "1", "3")
	all(t, old, "c")
	all(t, none, "a")
	drops(t, old, "b", "a", "2")
	drops(t, old, "c", "b", "1", "a", "2", "B", "3")
	drops(t, none, "a")
	splitsAll(t, values, "b", "a", "c")
	splitsAll(t, no)
	merges(t, old, fresh, but, "b", "1", "B", "3", "D", "4", "A", "5")
	merges(t, old, fresh, no, "b", "1", "B", "3", "D", "4", "A", "5", "e", "6")
	merges(t, old, none, but, "b", "1", "a", "2", "B", "3")
	merges(t, none, fresh, but, "D", "4", "A", "5")
	merges(t, old, old, nil, "b", "1", "a", "2", "B", "3")
	if !head.Same(old, fields("b", "1", "a", "2", "B", "3")) || !head.Same(none, nil) || head.Same(old, old[:4]) {
		t.Errorf("P13.4: Same reads behind the length")
	}
	if after := show(); after != before {
		t.Errorf("P13.4: what is handed in is changed: %s, not %s", after, before)
	}
}
