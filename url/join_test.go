package url_test

import (
	"slices"
	"strings"
	"testing"
	"unsafe"

	"springhouse/api"
	"springhouse/url"
)

// TestJoinOfTheStandard has the examples of RFC 3986, as browsers tell them.
func TestJoinOfTheStandard(t *testing.T) {
	base := parsed(t, "http://a/b/c/d;p?q")
	for in, want := range map[string]string{
		"g:h": "g:h", "g": "http://a/b/c/g", "./g": "http://a/b/c/g", "g/": "http://a/b/c/g/", "/g": "http://a/g", "//g": "http://g/", "?y": "http://a/b/c/d;p?y", "g?y": "http://a/b/c/g?y", "#s": "http://a/b/c/d;p?q#s", "g#s": "http://a/b/c/g#s", "g?y#s": "http://a/b/c/g?y#s", ";x": "http://a/b/c/;x", "g;x": "http://a/b/c/g;x", "g;x?y#s": "http://a/b/c/g;x?y#s", "": "http://a/b/c/d;p?q",
		".": "http://a/b/c/", "./": "http://a/b/c/", "..": "http://a/b/", "../": "http://a/b/", "../g": "http://a/b/g", "../..": "http://a/", "../../": "http://a/", "../../g": "http://a/g",
		"../../../g": "http://a/g", "../../../../g": "http://a/g", "/./g": "http://a/g", "/../g": "http://a/g", "g.": "http://a/b/c/g.", ".g": "http://a/b/c/.g", "g..": "http://a/b/c/g..", "..g": "http://a/b/c/..g", "./../g": "http://a/b/g", "./g/.": "http://a/b/c/g/", "g/./h": "http://a/b/c/g/h", "g/../h": "http://a/b/c/h", "g;x=1/./y": "http://a/b/c/g;x=1/y", "g;x=1/../y": "http://a/b/c/y",
		"g?y/./x": "http://a/b/c/g?y/./x", "g?y/../x": "http://a/b/c/g?y/../x", "g#s/./x": "http://a/b/c/g#s/./x", "g#s/../x": "http://a/b/c/g#s/../x", "http:g": "http://a/b/c/g",
	} {
		prints(t, in, base, want)
	}
}

// TestJoinOfASpecialOne: either slash, and the base's own scheme and another one.
func TestJoinOfASpecialOne(t *testing.T) {
	base := parsed(t, "http://u:p@a:81/b/c?q#f")
	for in, want := range map[string]string{
		"\\": "http://u:p@a:81/", "\\g": "http://u:p@a:81/g", "g\\h": "http://u:p@a:81/b/g/h", "..\\g": "http://u:p@a:81/g", "\\\\g": "http://g/", "/\\g": "http://g/", "\\/g": "http://g/", "///g": "http://g/", "//\\/g\\h": "http://g/h", "\\\\\\g": "http://g/", "//v@g:1": "http://v@g:1/", "//g:80": "http://g/", "//g:81": "http://g:81/",
		"http:": "http://u:p@a:81/b/c?q", "HTTP:g": "http://u:p@a:81/b/g", "http:?": "http://u:p@a:81/b/c?", "http:#": "http://u:p@a:81/b/c?q#", "http:..": "http://u:p@a:81/", "http:/g": "http://u:p@a:81/g", "http:\\g": "http://u:p@a:81/g", "http:/": "http://u:p@a:81/", "http://g": "http://g/", "http:///g": "http://g/", "http:\\\\g": "http://g/", "http:/\\g": "http://g/", "http:\\/g": "http://g/", "http:http:g": "http://u:p@a:81/b/http:g",
		"https:g": "https://g/", "https:/g": "https://g/", "https://g": "https://g/", "https:\\\\g": "https://g/", "ws:g": "ws://g/", "ws:\\g:81": "ws://g:81/",
		"x:g": "x:g", "x:": "x:", "x:/g": "x:/g", "x://g": "x://g", "x:?": "x:?", "x:\\g": "x:\\g",
		"?": "http://u:p@a:81/b/c?", "#": "http://u:p@a:81/b/c?q#", "?#": "http://u:p@a:81/b/c?#", "?'": "http://u:p@a:81/b/c?%27", "#'": "http://u:p@a:81/b/c?q#'", "  ": "http://u:p@a:81/b/c?q", "\n?\ny": "http://u:p@a:81/b/c?y",
		"1:g": "http://u:p@a:81/b/1:g", ":g": "http://u:p@a:81/b/:g", "g_h:i": "http://u:p@a:81/b/g_h:i", "http": "http://u:p@a:81/b/http", "é:g": "http://u:p@a:81/b/%C3%A9:g", "@g": "http://u:p@a:81/b/@g", "g:/?": "g:/?", "/g:h": "http://u:p@a:81/g:h", "?g:h": "http://u:p@a:81/b/c?g:h", "#g:h": "http://u:p@a:81/b/c?q#g:h",
		"%2e%2E/g": "http://u:p@a:81/g", "%2e": "http://u:p@a:81/b/", "\xFF": "http://u:p@a:81/b/%EF%BF%BD",
	} {
		prints(t, in, base, want)
	}
	for in, want := range map[string]api.Errno{
		"//": api.ErrNone, "\\\\": api.ErrNone, "///": api.ErrNone, "//?": api.ErrNone, "//u@": api.ErrNone, "//:80": api.ErrNone, "http://": api.ErrNone, "https:": api.ErrNone, "https:/": api.ErrNone, "ws:?g": api.ErrNone, "http:\\\\#": api.ErrNone,
		"file:": api.ErrForm, "file:g": api.ErrForm, "FILE:///g": api.ErrForm, "//g h": api.ErrForm, "//g:x": api.ErrForm, "x://g h": api.ErrForm, "//256.1": api.ErrRange, "//g:65536": api.ErrRange,
	} {
		fails(t, in, base, want)
	}
	// Another port of the base is the base's; its own scheme's does not come back.
	tells(t, "/", base, api.URL{Scheme: "http", User: "u", Pass: "p", HasHost: true, Host: named("a"), Port: 81, Path: []string{""}})
	tells(t, "//a", base, api.URL{Scheme: "http", HasHost: true, Host: named("a"), Port: -1, Path: []string{""}})
}

func TestJoinOfOthers(t *testing.T) {
	base := parsed(t, "x://u@a:0/b/c?q#f")
	for in, want := range map[string]string{
		"": "x://u@a:0/b/c?q", "g": "x://u@a:0/b/g", "/g": "x://u@a:0/g", "\\g": "x://u@a:0/b/\\g", "\\\\g": "x://u@a:0/b/\\\\g", "/\\g": "x://u@a:0/\\g", "//g": "x://g", "///g": "x:///g", "////g": "x:////g", "//": "x://", "//?": "x://?", "//G:1/..": "x://G:1/", "..": "x://u@a:0/", "../..": "x://u@a:0/", "../../../g": "x://u@a:0/g", ".": "x://u@a:0/b/", "/": "x://u@a:0/", "/.": "x://u@a:0/", "/..//g": "x://u@a:0//g", "..\\g": "x://u@a:0/b/..\\g", "?": "x://u@a:0/b/c?", "#g": "x://u@a:0/b/c?q#g", "?'": "x://u@a:0/b/c?'",
		"x:g": "x:g", "X:": "x:", "x:/g": "x:/g", "x://g": "x://g", "x:#": "x:#", "http:g": "http://g/", "http:/g": "http://g/", "y:../g": "y:../g",
	} {
		prints(t, in, base, want)
	}
	for in, want := range map[string]api.Errno{"//:80": api.ErrNone, "//u@": api.ErrNone, "//g h": api.ErrForm, "//g:65536": api.ErrRange, "http:": api.ErrNone, "file:": api.ErrForm, "//g\\h": api.ErrForm} {
		fails(t, in, base, want)
	}
}

// TestJoinWithoutAHost: of bases that have none, or an empty one, or no Path.
func TestJoinWithoutAHost(t *testing.T) {
	for _, row := range [][3]string{
		{"x:/b/c?q", "", "x:/b/c?q"}, {"x:/b/c?q", "g", "x:/b/g"}, {"x:/b/c?q", "/g", "x:/g"}, {"x:/b/c?q", "//g", "x://g"}, {"x:/b/c?q", "..", "x:/"}, {"x:/b/c?q", "..//g", "x:/.//g"}, {"x:/b/c?q", "/.//g", "x:/.//g"}, {"x:/b/c?q", "../..", "x:/"}, {"x:/b/c?q", "?", "x:/b/c?"}, {"x:/b/c?q", "#", "x:/b/c?q#"},
		{"x:/.//b", "", "x:/.//b"}, {"x:/.//b", "g", "x:/.//g"}, {"x:/.//b", "..", "x:/"}, {"x:/.//b", ".", "x:/.//"}, {"x:/.//b", "../g", "x:/g"}, {"x:/.//b", "//g", "x://g"},
		{"x:/", "g", "x:/g"}, {"x:/", "", "x:/"}, {"x:/", "..", "x:/"}, {"x:/", ".//g", "x:/.//g"},
		{"x://", "", "x://"}, {"x://", "g", "x:///g"}, {"x://", "/g", "x:///g"}, {"x://", "..", "x:///"}, {"x://", "?g", "x://?g"}, {"x://", "#g", "x://#g"}, {"x://", "//g", "x://g"}, {"x://", "/", "x:///"}, {"x://", "//", "x://"},
		{"x:///b", "g", "x:///g"}, {"x:///b", "/.//g", "x:////g"},
		{"x://a", "", "x://a"}, {"x://a", "g", "x://a/g"}, {"x://a", "..", "x://a/"}, {"x://a", "?", "x://a?"}, {"x://a?q", "", "x://a?q"}, {"x://a?q", "#", "x://a?q#"}, {"x://a?q", "g", "x://a/g"}, {"x://a?", "", "x://a?"}, {"x://a?", "#g", "x://a?#g"}, {"x://a#", "", "x://a"},
	} {
		prints(t, row[1], parsed(t, row[0]), row[2])
	}
	// Of a base that the language alone can make.
	bare := &api.URL{Scheme: "x", Port: -1}
	tells(t, "", bare, *bare)
	tells(t, "g", bare, api.URL{Scheme: "x", Port: -1, Path: []string{"g"}})
	tells(t, "..", bare, api.URL{Scheme: "x", Port: -1, Path: []string{""}})
	tells(t, "", &api.URL{}, api.URL{})
	tells(t, "g?", &api.URL{}, api.URL{Path: []string{"g"}, HasQuery: true})
	tells(t, "//g", &api.URL{}, api.URL{HasHost: true, Host: text("g"), Port: -1})
}

func TestJoinOfADarkOne(t *testing.T) {
	plain, whole := parsed(t, "x:y z"), parsed(t, "x:y ?q#f")
	for in, want := range map[string]string{
		"#": "x:y z#", "#g": "x:y z#g", "#?": "x:y z#?", "##": "x:y z##", " #g ": "x:y z#g", "\n#\ng": "x:y z#g", "#g h": "x:y z#g%20h", "#x:g": "x:y z#x:g",
		"x:": "x:", "x:g": "x:g", "x:#": "x:#", "X:/g": "x:/g", "y:g": "y:g", "http:g": "http://g/", "http://g": "http://g/", "x://": "x://",
	} {
		prints(t, in, plain, want)
		whole := strings.Replace(want, "x:y z#", "x:y ?q#", 1)
		prints(t, in, parsed(t, "x:y ?q#f"), whole)
	}
	for _, in := range []string{"", "g", "/", "/g", "//g", "\\", "?", "?g", "?#g", "g#", ".", ":", "1:g", " ", "\x00", "x", "x#", "http#g", "x/:", "a_b:", "\xFF#", "%23g", "＃"} {
		fails(t, in, plain, api.ErrForm)
		fails(t, in, whole, api.ErrForm)
	}
	fails(t, "file:#", plain, api.ErrForm)
	fails(t, "http:#", plain, api.ErrNone)
	tells(t, "#g", whole, api.URL{Scheme: "x", Port: -1, Dark: true, Text: "y ", HasQuery: true, Query: "q", HasFragment: true, Fragment: "g"})
	// It stays as it stands, whatever fields it has.
	odd := &api.URL{Scheme: "http", User: "u", Pass: "p", HasHost: true, Host: named("a"), Port: 5, Dark: true, Text: "t", Path: []string{"b", "c"}, Query: "hidden", HasFragment: true, Fragment: "f"}
	after := *odd
	after.Fragment = "g"
	tells(t, "#g", odd, after)
	fails(t, "g", odd, api.ErrForm)
	// Its own special scheme takes no heed of its being Dark; only what is named is taken.
	tells(t, "http:g", odd, api.URL{Scheme: "http", User: "u", Pass: "p", HasHost: true, Host: named("a"), Port: 5, Path: []string{"b", "g"}})
	tells(t, "http:", odd, api.URL{Scheme: "http", User: "u", Pass: "p", HasHost: true, Host: named("a"), Port: 5, Path: []string{"b", "c"}, Query: "hidden"})
	tells(t, "http:#", odd, api.URL{Scheme: "http", User: "u", Pass: "p", HasHost: true, Host: named("a"), Port: 5, Path: []string{"b", "c"}, Query: "hidden", HasFragment: true})
}

// TestJoinOnAnyBase: each base is taken as it stands, also one that no text tells.
func TestJoinOnAnyBase(t *testing.T) {
	odd := &api.URL{Scheme: "HTTP", User: " ", Pass: "@", Host: named("not there"), Port: -9, Text: "t", Path: []string{"..", "a/b", "%2e"}, HasQuery: true, Query: "#", HasFragment: true, Fragment: " "}
	kept := api.URL{Scheme: "HTTP", User: " ", Pass: "@", Host: named("not there"), Port: -9}
	same := kept
	same.Path, same.HasQuery, same.Query = odd.Path, true, "#"
	tells(t, "", odd, same)
	one := kept
	one.Path = []string{"..", "a/b", "g"}
	tells(t, "g", odd, one)
	one.Path = []string{"..", ""}
	tells(t, "..", odd, one)
	one.Path = []string{"\\g"}
	tells(t, "/\\g", odd, one)
	tells(t, "//g", odd, api.URL{Scheme: "HTTP", HasHost: true, Host: text("g"), Port: -1})
	// The scheme is small in a text, so that this base has another one.
	tells(t, "HTTP:g", odd, api.URL{Scheme: "http", HasHost: true, Host: named("g"), Port: -1, Path: []string{""}})
	file := &api.URL{Scheme: "file", Port: -1, Path: []string{"b"}}
	tells(t, "g", file, api.URL{Scheme: "file", Port: -1, Path: []string{"g"}})
	fails(t, "file:g", file, api.ErrForm)
	for _, base := range shapedBases() {
		for _, in := range []string{"", "g", "/g", "//g", "?g", "#g", "..", "http:g", "x:g", "ws:", "file:", "\\g", "../..//g"} {
			holds(t, in, base)
		}
	}
}

func TestJoinAtMaxItems(t *testing.T) {
	most := api.MaxItems
	base := &api.URL{Scheme: "x", Port: -1, Path: slices.Repeat([]string{"b"}, most)}
	for _, in := range []string{"", "g", ".", "..", "../", "?", "#", "./g", "../g/h", "../../g/h/i"} {
		u, e := url.Join(*base, in)
		if len(u.Path) < most-1 || e != api.OK {
			t.Errorf("P9.1: Join of %q: %d pieces, %d", in, len(u.Path), e)
		}
		holds(t, in, base)
	}
	for _, in := range []string{"g/h", "g/", "../g/h/i", "./g/."} {
		fails(t, in, base, api.ErrLimit)
	}
	more := &api.URL{Scheme: "x", Port: -1, Path: slices.Repeat([]string{"b"}, most+1)}
	for _, in := range []string{"", "?", "#", "g", "g/..", "."} {
		fails(t, in, more, api.ErrLimit)
	}
	for _, in := range []string{"..", "../g", "/", "//g", "x:g"} {
		holds(t, in, more)
		if u, e := url.Join(*more, in); len(u.Path) > most || e != api.OK {
			t.Errorf("P9.1: Join of %q: %d pieces, %d", in, len(u.Path), e)
		}
	}
	// A Dark one has its Path as it stands.
	more.Dark = true
	fails(t, "#g", more, api.ErrLimit)
	fails(t, "g", more, api.ErrForm)
	more.Path = more.Path[:most]
	holds(t, "#g", more)
	// An address may be long by its base.
	long := &api.URL{Scheme: "x", Port: -1, Path: []string{bytesOf('b', 1<<20), ""}, HasQuery: true, Query: bytesOf('q', 1<<20)}
	tells(t, "?g", long, api.URL{Scheme: "x", Port: -1, Path: long.Path, HasQuery: true, Query: "g"})
}

func TestJoinAtMaxText(t *testing.T) {
	most := api.MaxText
	for _, base := range someBases(t)[1:] {
		for _, c := range []byte{'g', '/', '\\', '?', '#', '.', ' ', 0, '@', ':', 0xFF, '\n'} {
			holds(t, bytesOf(c, most), base)
			holds(t, "#"+bytesOf(c, most-1), base)
			fails(t, bytesOf(c, most+1), base, api.ErrLong)
			fails(t, "file:"+bytesOf(c, most), base, api.ErrLong)
		}
	}
}

// TestTheBaseStays wants that no Join changes its base, its Path's spare room included, nor keeps it.
func TestTheBaseStays(t *testing.T) {
	for _, base := range someBases(t)[1:] {
		for _, in := range []string{"", "g", "g/h/i", "..", "../g/h", "/g", "//g", "?g", "#g", "x:g", "file:", "//", "http:g", "http:..", "ws:/g/h", strings.Repeat("g/", 300), bytesOf('g', api.MaxText+1)} {
			whole := append(slices.Clone(base.Path), "spare", "room", "behind")
			mine := *base
			mine.Path = whole[:len(base.Path)]
			got, e := url.Join(mine, in)
			want, wantE := wanted(in, base)
			if !equal(mine, *base) || !slices.Equal(whole[len(base.Path):], []string{"spare", "room", "behind"}) {
				t.Errorf("P9.3: Join(%s, %q) changed it to %s, with %q behind", short(*base), in, short(mine), whole)
			}
			for i := range whole {
				whole[i] = "spoilt"
			}
			if !equal(got, want) || e != wantE {
				t.Errorf("P9.3: Join(%s, %q) = %s, %d once the base was written over", short(*base), in, short(got), e)
			}
			// Nor does what is written into the answer come into the base.
			for i := range got.Path[:cap(got.Path)] {
				got.Path[:cap(got.Path)][i] = "mine"
			}
			_ = append(got.Path, "mine")
			if slices.Contains(whole, "mine") {
				t.Errorf("P9.3: Join(%s, %q) has the base's Path", short(*base), in)
			}
		}
	}
}

// TestAnswersAreApart: what is written into one answer, or appended to it, is in no other one.
func TestAnswersAreApart(t *testing.T) {
	base := parsed(t, "http://a/b/c/d/e/f/g")
	for _, in := range []string{"", "x", "x/y", "..", "../../x", "#", "/x/y/z", "http://b/x/y/z/../w"} {
		first, e := url.Join(*base, in)
		want, wantE := wanted(in, base)
		if e != wantE {
			t.Fatalf("P9.1: Join %q: %d", in, e)
		}
		second, _ := url.Join(*base, in)
		whole := second.Path[:cap(second.Path)]
		for i := range whole {
			whole[i] = "spoilt"
		}
		third, _ := url.Join(*base, in)
		if !equal(first, want) || !equal(third, want) || !equal(*base, *parsed(t, "http://a/b/c/d/e/f/g")) {
			t.Errorf("P9.3: Join %q: %s, %s, base %s", in, short(first), short(third), short(*base))
		}
	}
}

// handed is a text whose memory may be written over, which only a test may do.
type handed struct{ b []byte }

func (h *handed) text(s string) string {
	if s == "" {
		return ""
	}
	start := len(h.b)
	if start+len(s) > cap(h.b) {
		panic("the test itself: too little memory")
	}
	h.b = append(h.b, s...)
	return unsafe.String(&h.b[start], len(s))
}

// address is u, with texts whose memory may be written over.
func (h *handed) address(u api.URL) api.URL {
	for _, s := range []*string{&u.Scheme, &u.User, &u.Pass, &u.Host.Name, &u.Text, &u.Query, &u.Fragment} {
		*s = h.text(*s)
	}
	u.Path = slices.Clone(u.Path)
	for i := range u.Path {
		u.Path[i] = h.text(u.Path[i])
	}
	return u
}

// TestTextsAreNotKept writes over the memory of all texts that were handed in.
func TestTextsAreNotKept(t *testing.T) {
	for _, base := range someBases(t) {
		for _, in := range []string{"", "g", "#g", "?g", "..", "http://u:p@g:1/h?i#j", "x://u:p@g:1/h?i#j", "x:g?h#i", "x:/g", "http:g", "//g", "/g"} {
			h := handed{make([]byte, 0, 4096)}
			mine := base
			if base != nil {
				u := h.address(*base)
				mine = &u
			}
			got, e := read(h.text(in), mine)
			want, wantE := wanted(in, base)
			clear(h.b)
			if !equal(got, want) || e != wantE {
				t.Errorf("P9.3: %s = %s, %d once all texts were written over, not %s, %d", of(in, base), short(got), e, short(want), wantE)
			}
		}
		if base == nil {
			continue
		}
		h := handed{make([]byte, 0, 4096)}
		u := h.address(*base)
		copied, printed, same := url.Copy(u), url.Print(u), url.Same(u, *base)
		before := string(h.b)
		if before == "" && !equal(*base, api.URL{}) || !same || !equal(u, *base) {
			t.Errorf("P9.3: %s was changed to %s", short(*base), short(u))
		}
		clear(h.b)
		if !equal(copied, *base) || printed != wantedPrint(*base) {
			t.Errorf("P9.3: Copy and Print of %s are %s, %q once its texts were written over", short(*base), short(copied), printed)
		}
	}
}
