package head_test

import (
	"math/rand"
	"regexp"
	"slices"
	"strings"
	"testing"

	"springhouse/api"
	"springhouse/head"
)

// The chapter once more: by regular expressions on signs that stand for bytes, and by a small letter for each capital one.

var (
	nameForm  = regexp.MustCompile("\\A[0-9A-Za-z!#$%&'*+.^_\x60|~-]{1,100}\\z")
	valueForm = regexp.MustCompile(`\A(?:[!-~\x{80}-\x{FF}]+(?:[\t ]+[!-~\x{80}-\x{FF}]+)*)?\z`)
	ends      = regexp.MustCompile(`\A[\t ]+|[\t ]+\z`)
	pieceForm = regexp.MustCompile(`(?s)(?:[^,"]|"(?:[^"\\]|\\.)*(?:"|\\?\z))+`)
	capitals  = regexp.MustCompile(`[A-Z]`)
)

// wide tells the bytes of s as signs.
func wide(s string) string {
	var l []rune
	for i := range len(s) {
		l = append(l, rune(s[i]))
	}
	return string(l)
}

// narrow is the way back.
func narrow(s string) string {
	var b []byte
	for _, c := range s {
		b = append(b, byte(c))
	}
	return string(b)
}

func wantedName(s string) bool { return nameForm.MatchString(wide(s)) }

func wantedValue(s string) bool { return len(s) <= 4000 && valueForm.MatchString(wide(s)) }

func wantedMay(l []api.Field) bool {
	bad := func(f api.Field) bool { return !wantedName(f.Name) || !wantedValue(f.Value) }
	return len(l) <= 64 && !slices.ContainsFunc(l, bad)
}

func wantedLower(s string) string {
	return narrow(capitals.ReplaceAllStringFunc(wide(s), func(c string) string { return string(c[0] | 0x20) }))
}

func wantedTrim(s string) string { return narrow(ends.ReplaceAllString(wide(s), "")) }

func wantedSplit(values []string) []string {
	var l []string
	for _, value := range values {
		for _, piece := range pieceForm.FindAllString(wide(value), -1) {
			l = append(l, wantedTrim(narrow(piece)))
		}
	}
	return slices.DeleteFunc(l, func(s string) bool { return s == "" })
}

// counts tells how often names has a name that is the same as name.
func counts(names []string, name string) int {
	n := 0
	for _, x := range names {
		if wantedLower(x) == wantedLower(name) {
			n++
		}
	}
	return n
}

// wantedMerge goes line by line from the last of the new ones to the first of the old ones.
func wantedMerge(old, fresh []api.Field, but []string) []api.Field {
	var out []api.Field
	var taken []string
	for _, f := range slices.Backward(fresh) {
		if counts(but, f.Name) == 0 {
			out = append(out, f)
			taken = append(taken, f.Name)
		}
	}
	for _, f := range slices.Backward(old) {
		if counts(taken, f.Name) == 0 {
			out = append(out, f)
		}
	}
	slices.Reverse(out)
	return out
}

// holdsText holds all that the chapter says of a text against the second reading.
func holdsText(t *testing.T, s string) {
	t.Helper()
	name(t, s, wantedName(s))
	value(t, s, wantedValue(s))
	trims(t, s, wantedTrim(s))
	if got := head.Lower(s); got != wantedLower(s) {
		t.Errorf("P13.1: Lower(%q) = %q, not %q", s, got, wantedLower(s))
	}
	splits(t, s, wantedSplit([]string{s})...)
}

// texts calls f with s and with all that is s and up to size of these signs.
func texts(s string, signs []string, size int, f func(string)) {
	f(s)
	if size == 0 {
		return
	}
	for _, sign := range signs {
		texts(s+sign, signs, size-1, f)
	}
}

func TestAllShortTexts(t *testing.T) {
	n := 0
	texts("", []string{"a", ",", `"`, `\`, " ", "\t"}, 6, func(s string) {
		n++
		holdsText(t, s)
	})
	if n < 6*6*6*6*6*6 {
		t.Errorf("the test itself: %d texts", n)
	}
	texts("", []string{"Z", "\x00", "\xFF", "é", "~", "\x7F", "`", "(", " ", "\n"}, 3, func(s string) { holdsText(t, s) })
	for c := range 256 {
		for d := range 256 {
			holdsText(t, string([]byte{byte(c), byte(d)}))
		}
	}
}

func TestRandomTexts(t *testing.T) {
	r := rand.New(rand.NewSource(13))
	signs := []string{"a", "B", ",", ",", `"`, `"`, `\`, " ", "\t", "x=", "\xFF", "é", "\n", ";"}
	text := func(size int) string {
		s := ""
		for range r.Intn(size) {
			s += signs[r.Intn(len(signs))]
		}
		return s
	}
	quoted := 0
	for range 20000 {
		holdsText(t, text(40))
		values := []string{text(12), text(12), text(12)}[:r.Intn(4)]
		want := wantedSplit(values)
		splitsAll(t, values, want...)
		if slices.ContainsFunc(want, func(s string) bool { return strings.Contains(s, ",") }) {
			quoted++
		}
	}
	if quoted < 1000 {
		t.Errorf("the test itself: only %d of the values have commas in quotes", quoted)
	}
	for range 200 {
		b := make([]byte, r.Intn(300))
		for i := range b {
			b[i] = byte(r.Intn(256))
		}
		holdsText(t, string(b))
	}
}

// lists calls f with all lists of up to size of these lines, whose values tell where they stand.
func lists(names []string, size int, mark string, f func([]api.Field)) {
	f(nil)
	if size == 0 {
		return
	}
	for _, name := range names {
		lists(names, size-1, mark+"'", func(l []api.Field) { f(append(fields(name, mark), l...)) })
	}
}

func namesOf(l []api.Field) []string {
	var names []string
	for _, f := range l {
		names = append(names, f.Name)
	}
	return names
}

// holdsNames holds all that the chapter says of names against the second reading.
func holdsNames(t *testing.T, l []api.Field, name string) {
	t.Helper()
	var values, left []string
	for _, f := range l {
		if counts([]string{name}, f.Name) == 1 {
			values = append(values, f.Value)
		} else {
			left = append(left, f.Name, f.Value)
		}
	}
	all(t, l, name, values...)
	drops(t, l, name, left...)
}

func holdsMerge(t *testing.T, old, fresh []api.Field, but []string) {
	t.Helper()
	var want []string
	for _, f := range wantedMerge(old, fresh, but) {
		want = append(want, f.Name, f.Value)
	}
	merges(t, old, fresh, but, want...)
}

func TestAllShortLists(t *testing.T) {
	n := 0
	few := []string{"a", "A", "b"}
	lists(few, 3, "o", func(old []api.Field) {
		for _, name := range []string{"a", "A", "b", "B", "c", ""} {
			holdsNames(t, old, name)
		}
		lists(few, 3, "n", func(fresh []api.Field) {
			lists([]string{"A", "b", "c"}, 2, "", func(but []api.Field) {
				n++
				holdsMerge(t, old, fresh, namesOf(but))
			})
		})
	})
	if n != 40*40*13 {
		t.Errorf("the test itself: %d merged", n)
	}
}

func TestRandomLists(t *testing.T) {
	r := rand.New(rand.NewSource(14))
	pool := []string{"a", "A", "ab", "AB", "aB", "b", "", " ", "é", "É", "\xFF", "k", "K", "\u212A", "-", "a-b", "A-b", "z", "Z", "[", "{", "@", "`"}
	list := func(mark string) []api.Field {
		var l []api.Field
		for range r.Intn(8) {
			l = append(l, api.Field{Name: pool[r.Intn(len(pool))], Value: mark + string(rune('0'+len(l)))})
		}
		return l
	}
	fit, cut := 0, 0
	for range 20000 {
		old, fresh, but := list("o"), list("n"), namesOf(list(""))
		for _, name := range but {
			holdsNames(t, old, name)
		}
		holdsMerge(t, old, fresh, but)
		want := wantedMerge(old, fresh, but)
		if len(want) < len(old)+len(fresh) {
			cut++
		}
		// One and All of what was merged are those of the new lines, where one of them goes in.
		for _, f := range fresh {
			if counts(but, f.Name) > 0 {
				continue
			}
			fit++
			if got := head.All(head.Merge(old, fresh, but), f.Name); !slices.Equal(got, head.All(fresh, f.Name)) {
				t.Errorf("P13.3: Merge(%q, %q, %q) has %q of %q", old, fresh, but, got, f.Name)
			}
		}
	}
	if fit < 1000 || cut < 1000 {
		t.Errorf("the test itself: %d lines went in, %d lists were cut", fit, cut)
	}
}

func TestRandomHeads(t *testing.T) {
	r := rand.New(rand.NewSource(15))
	seen := map[bool]int{}
	for range 3000 {
		var l []api.Field
		for range r.Intn(70) {
			l = append(l, api.Field{Name: "a", Value: "b"})
		}
		if len(l) > 0 && r.Intn(3) > 0 {
			i := r.Intn(len(l))
			l[i].Name = []string{"a", "", "B!", "a:", "\xFF", strings.Repeat("a", 100), strings.Repeat("a", 101)}[r.Intn(7)]
			l[i].Value = []string{"", "b c", "\t", " b", "b ", "b\n", "\xFF", strings.Repeat("b", 4000), strings.Repeat("b", 4001)}[r.Intn(9)]
		}
		want := wantedMay(l)
		may(t, l, want)
		seen[want]++
	}
	if seen[true] < 500 || seen[false] < 500 {
		t.Errorf("the test itself: %v", seen)
	}
}
