package url_test

import (
	"math"
	"math/rand"
	"reflect"
	"slices"
	"strings"
	"testing"

	"springhouse/api"
	"springhouse/host"
	"springhouse/url"
)

func TestPrint(t *testing.T) {
	six := api.Host{Kind: 3, Six: [8]uint16{7: 1}}
	for want, u := range map[string]api.URL{
		// Dark ones.
		"x:":         {Scheme: "x", Port: -1, Dark: true},
		"x:t":        {Scheme: "x", Port: -1, Dark: true, Text: "t"},
		"x:t?":       {Scheme: "x", Port: -1, Dark: true, Text: "t", HasQuery: true},
		"x:t#":       {Scheme: "x", Port: -1, Dark: true, Text: "t", HasFragment: true},
		"x:t?q#f":    {Scheme: "x", Port: -1, Dark: true, Text: "t", HasQuery: true, Query: "q", HasFragment: true, Fragment: "f"},
		"x:dark":     {Scheme: "x", Port: 5, Dark: true, Text: "dark", Path: []string{"", "b"}, User: "u", Pass: "p", Host: named("a"), Query: "q", Fragment: "f"},
		"x://a/t":    {Scheme: "x", Port: -1, HasHost: true, Host: text("a"), Dark: true, Text: "/t", Path: []string{"b"}},
		"x://a:5t?#": {Scheme: "x", Port: 5, HasHost: true, Host: text("a"), Dark: true, Text: "t", HasQuery: true, HasFragment: true},
		// Without a Host.
		"x:/":       {Scheme: "x", Port: -1, Path: []string{""}},
		"x:/b":      {Scheme: "x", Port: -1, Path: []string{"b"}},
		"x:/b/":     {Scheme: "x", Port: -1, Path: []string{"b", ""}},
		"x:/b//c":   {Scheme: "x", Port: -1, Path: []string{"b", "", "c"}},
		"x:/.//":    {Scheme: "x", Port: -1, Path: []string{"", ""}},
		"x:/.//b":   {Scheme: "x", Port: -1, Path: []string{"", "b"}},
		"x:/.///":   {Scheme: "x", Port: -1, Path: []string{"", "", ""}},
		"x:/.//b?q": {Scheme: "x", Port: 80, Path: []string{"", "b"}, HasQuery: true, Query: "q", User: "u", Host: named("a")},
		"x://c":     {Scheme: "x", Path: []string{"/c"}},
		"x:/ /?":    {Scheme: "x", Path: []string{" ", "?"}},
		"y:?#":      {Scheme: "y", HasQuery: true, HasFragment: true},
		":":         {},
		":t":        {Dark: true, Text: "t", Query: "q", Fragment: "f"},
		// With one.
		"x://":             {Scheme: "x", HasHost: true, Port: -1},
		"x:///":            {Scheme: "x", HasHost: true, Port: -1, Path: []string{""}},
		"x:////":           {Scheme: "x", HasHost: true, Port: -1, Path: []string{"", ""}},
		"x:////b":          {Scheme: "x", HasHost: true, Port: -1, Path: []string{"", "b"}},
		"x://a//b":         {Scheme: "x", HasHost: true, Host: text("a"), Port: -1, Path: []string{"", "b"}},
		"http://a":         {Scheme: "http", HasHost: true, Host: named("a"), Port: -1},
		"http://a/":        {Scheme: "http", HasHost: true, Host: named("a"), Port: -1, Path: []string{""}},
		"http://1.2.0.3/b": {Scheme: "http", HasHost: true, Host: api.Host{Kind: 2, Four: 0x01020003}, Port: -1, Path: []string{"b"}},
		"http://[::1]:1/b": {Scheme: "http", HasHost: true, Host: six, Port: 1, Path: []string{"b"}},
		"x://[::1]?q":      {Scheme: "x", HasHost: true, Host: six, Port: -1, HasQuery: true, Query: "q", Text: "t", Fragment: "f"},
		"x://?#":           {Scheme: "x", HasHost: true, Port: -1, HasQuery: true, HasFragment: true},
		"x://#f":           {Scheme: "x", HasHost: true, Port: -1, HasFragment: true, Fragment: "f", Query: "q"},
		"x://b":            {Scheme: "x", HasHost: true, Host: text("b"), Port: -1},
		"x://:9":           {Scheme: "x", HasHost: true, Host: api.Host{Kind: 9, Name: "a"}, Port: 9},
		// User and Pass.
		"x://u@a":    {Scheme: "x", User: "u", HasHost: true, Host: text("a"), Port: -1},
		"x://:p@a":   {Scheme: "x", Pass: "p", HasHost: true, Host: text("a"), Port: -1},
		"x://u:p@a":  {Scheme: "x", User: "u", Pass: "p", HasHost: true, Host: text("a"), Port: -1},
		"x://u:p@:1": {Scheme: "x", User: "u", Pass: "p", HasHost: true, Port: 1},
		"x://@@a":    {Scheme: "x", User: "@", HasHost: true, Host: text("a"), Port: -1},
		"x://:::@a":  {Scheme: "x", User: ":", Pass: ":", HasHost: true, Host: text("a"), Port: -1},
		// Ports; the scheme's own too, where it stands.
		"http://a:80":    {Scheme: "http", HasHost: true, Host: named("a"), Port: 80},
		"http://a:0":     {Scheme: "http", HasHost: true, Host: named("a")},
		"x://a:65535/":   {Scheme: "x", HasHost: true, Host: text("a"), Port: 65535, Path: []string{""}},
		"x://a:65536":    {Scheme: "x", HasHost: true, Host: text("a"), Port: 65536},
		"x://a:-2":       {Scheme: "x", HasHost: true, Host: text("a"), Port: -2},
		"x://a:-100/":    {Scheme: "x", HasHost: true, Host: text("a"), Port: -100, Path: []string{""}},
		"A b://a:7/\xFF": {Scheme: "A b", HasHost: true, Host: text("a"), Port: 7, Path: []string{"\xFF"}},
	} {
		if s := url.Print(u); s != want {
			t.Errorf("P9.2: Print(%s) = %q, not %q", short(u), s, want)
		}
	}
	for _, port := range []int{math.MaxInt, math.MinInt, 1 << 32, -1 << 32} {
		u := api.URL{Scheme: "x", HasHost: true, Host: text("a"), Port: port}
		if s := url.Print(u); s != wantedPrint(u) {
			t.Errorf("P9.2: Print(%s) = %q", short(u), s)
		}
	}
}

// randomURL is any address, of which most fields no text tells together.
func randomURL(r *rand.Rand) api.URL {
	texts := []string{"", "", "a", "b", "http", "x", "/", "//", ":", "@", " ", ".", "..", "é", "\xFF", "?", "#"}
	one := func() string { return texts[r.Intn(len(texts))] }
	u := api.URL{Scheme: one(), User: one(), Pass: one(), Text: one(), Query: one(), Fragment: one(), HasHost: r.Intn(2) == 0, Dark: r.Intn(3) == 0, HasQuery: r.Intn(2) == 0, HasFragment: r.Intn(2) == 0, Port: r.Intn(4) - 2}
	for range r.Intn(4) {
		u.Path = append(u.Path, one())
	}
	u.Host = api.Host{Kind: r.Intn(6), Name: one(), Four: r.Uint32(), Six: [8]uint16{uint16(r.Intn(2)), 7: uint16(r.Intn(2))}}
	return u
}

func TestPrintOfAny(t *testing.T) {
	r := rand.New(rand.NewSource(92))
	for range 20000 {
		u := randomURL(r)
		before := u
		before.Path = slices.Clone(u.Path)
		if s := url.Print(u); s != wantedPrint(u) {
			t.Fatalf("P9.2: Print(%s) = %q, not %q", short(u), s, wantedPrint(u))
		}
		if !equal(u, before) {
			t.Fatalf("P9.3: Print changed %s to %s", short(before), short(u))
		}
	}
}

// changes are ways to change one field each.
func changes() map[string]func(*api.URL) {
	return map[string]func(*api.URL){
		"Scheme": func(u *api.URL) { u.Scheme += "s" }, "User": func(u *api.URL) { u.User += "v" }, "Pass": func(u *api.URL) { u.Pass += "q" },
		"HasHost": func(u *api.URL) { u.HasHost = !u.HasHost }, "Port": func(u *api.URL) { u.Port++ },
		"Host.Kind": func(u *api.URL) { u.Host.Kind++ }, "Host.Name": func(u *api.URL) { u.Host.Name += "b" }, "Host.Four": func(u *api.URL) { u.Host.Four++ }, "Host.Six": func(u *api.URL) { u.Host.Six[7]++ },
		"Dark": func(u *api.URL) { u.Dark = !u.Dark }, "Text": func(u *api.URL) { u.Text += "t" },
		"Path, longer": func(u *api.URL) { u.Path = append(slices.Clone(u.Path), "") }, "Path, first": func(u *api.URL) { u.Path = append([]string{"c"}, u.Path...) },
		"HasQuery": func(u *api.URL) { u.HasQuery = !u.HasQuery }, "Query": func(u *api.URL) { u.Query += "r" },
		"HasFragment": func(u *api.URL) { u.HasFragment = !u.HasFragment }, "Fragment": func(u *api.URL) { u.Fragment += "g" },
	}
}

// TestSame changes one field after the other, of addresses of each shape.
func TestSame(t *testing.T) {
	for _, base := range someBases(t)[1:] {
		again := url.Copy(*base)
		if !url.Same(*base, again) || !url.Same(again, *base) || !url.Same(*base, *base) {
			t.Errorf("P9.2: %s is not itself", short(*base))
		}
		for name, change := range changes() {
			other := *base
			change(&other)
			if url.Same(*base, other) || url.Same(other, *base) {
				t.Errorf("P9.2: %s is the same with another %s", short(*base), name)
			}
		}
		for i := range base.Path {
			other := url.Copy(*base)
			other.Path[i] += "d"
			if url.Same(*base, other) || url.Same(other, *base) {
				t.Errorf("P9.2: %s is the same with another piece %d", short(*base), i)
			}
		}
	}
	if n := reflect.TypeFor[api.URL]().NumField(); n != 13 {
		t.Errorf("the test itself: an address has %d fields", n)
	}
	none, empty := api.URL{Port: -1}, api.URL{Port: -1, Path: []string{}}
	if !url.Same(none, empty) || !url.Same(empty, none) {
		t.Error("P9.2: no Path is not the empty one")
	}
	if url.Same(api.URL{Path: []string{"a", "b"}}, api.URL{Path: []string{"b", "a"}}) || url.Same(api.URL{Path: []string{"a/b"}}, api.URL{Path: []string{"a", "b"}}) || url.Same(none, api.URL{Port: -1, Path: []string{""}}) {
		t.Error("P9.2: the pieces of a Path are held one by one")
	}
	// Fields count also where they are not told.
	if url.Same(api.URL{Query: "q"}, api.URL{}) || url.Same(api.URL{Dark: true, Path: []string{"a"}}, api.URL{Dark: true}) || url.Same(api.URL{Host: named("a")}, api.URL{}) {
		t.Error("P9.2: two addresses of one Print are the same")
	}
}

func TestSameOfRandom(t *testing.T) {
	r := rand.New(rand.NewSource(93))
	for range 20000 {
		a, b := randomURL(r), randomURL(r)
		if r.Intn(2) == 0 {
			b = a
			b.Path = slices.Clone(a.Path)
		}
		if want := equal(a, b); url.Same(a, b) != want || url.Same(b, a) != want {
			t.Fatalf("P9.2: Same(%s, %s) is not %v", short(a), short(b), want)
		}
	}
}

// TestCopy: a copy is the same, and neither shows what is written into the other.
func TestCopy(t *testing.T) {
	r := rand.New(rand.NewSource(94))
	for range 5000 {
		u := randomURL(r)
		u.Path = append(u.Path, "kept", "kept")[:len(u.Path)]
		spare := u.Path[:len(u.Path)+2]
		want := u
		want.Path = slices.Clone(u.Path)
		c := url.Copy(u)
		if !equal(c, want) || !equal(u, want) || !url.Same(c, u) {
			t.Fatalf("P9.2: Copy(%s) = %s", short(want), short(c))
		}
		whole := c.Path[:cap(c.Path)]
		for i := range whole {
			whole[i] = "spoilt"
		}
		_ = append(c.Path, "spoilt")
		if !equal(u, want) || spare[len(u.Path)] != "kept" || spare[len(u.Path)+1] != "kept" {
			t.Fatalf("P9.3: what is written into Copy(%s) is in %s, %q", short(want), short(u), spare)
		}
		c = url.Copy(u)
		for i := range spare {
			spare[i] = "spoilt"
		}
		if !equal(c, want) {
			t.Fatalf("P9.3: Copy(%s) is %s once that was written over", short(want), short(c))
		}
	}
	for _, change := range changes() {
		u := parsed(t, "http://u:p@a:81/b/c?q#f")
		c := url.Copy(*u)
		change(&c)
		if !equal(*u, *parsed(t, "http://u:p@a:81/b/c?q#f")) || equal(*u, c) {
			t.Errorf("P9.3: %s, its copy %s", short(*u), short(c))
		}
	}
}

// TestParseOfPrint: what Parse tells comes back, whatever its text was; its Print is its own.
func TestParseOfPrint(t *testing.T) {
	r := rand.New(rand.NewSource(95))
	told := 0
	for range 60000 {
		u, e := url.Parse(randomText(r))
		if e != api.OK {
			continue
		}
		told++
		returns(t, u)
		s := url.Print(u)
		if again := url.Print(*parsed(t, s)); again != s {
			t.Fatalf("P9.4: %q is printed as %q", s, again)
		}
	}
	if told < 10000 {
		t.Errorf("the test itself: only %d addresses", told)
	}
	for _, in := range []string{"x:/..//b", "x:/.//", "x:/a/..//", "x:a ?", "x:  a #", "x://:0", "x:////", "http://a//..//", "x:/%2e%2e%2e", "http://a\\b\\..\\", "x:\\..\\", "http://u%40@a", "x://%5B::1%5D", "x:./b", "x:..", "x:%2F"} {
		if u, e := url.Parse(in); e == api.OK {
			returns(t, u)
		}
	}
	// Just at MaxText the Print is read, and one byte above it is too long.
	for n, want := range map[int]api.Errno{0: api.OK, 1: api.ErrLong} {
		u := parsed(t, "x:"+bytesOf('a', 1000)+strings.Repeat("\x01", 332)+strings.Repeat("\x02", 667)+bytesOf('b', n+1))
		s := url.Print(*u)
		if again, e := url.Parse(s); len(s) != api.MaxText+n || e != want || e == api.OK && !equal(again, *u) {
			t.Errorf("P9.4: Parse of a Print of %d bytes: %d", len(s), e)
		}
	}
}

// TestHostsOfAddresses: the Host is what host.Parse tells, a value as others; one may stay as a key when the address goes.
func TestHostsOfAddresses(t *testing.T) {
	keys := map[api.Host]int{}
	for i, row := range [][]string{
		{"http://a.b", "HTTPS://A.B:1/c", "ws:a%2eb"}, {"http://1.2.0.3", "http://0x1.2.3/"}, {"http://[::1]", "x://[0::0001]:1"}, {"x://a.b", "y://u@a.b/c"}, {"x://", "x:///a"}, {"x://A.B"},
	} {
		for _, in := range row {
			u := parsed(t, in)
			h, e := host.Parse(host.Print(u.Host), url.Special(u.Scheme) != 0)
			if h != u.Host || e != api.OK || !host.May(u.Host) {
				t.Errorf("P9.1: the Host of %q is %s", in, short(*u))
			}
			if first, found := keys[u.Host]; found && first != i {
				t.Errorf("Ways: the Host of %q is the one of row %d", in, first)
			}
			keys[u.Host] = i
		}
	}
	if len(keys) != 6 {
		t.Errorf("Ways: %d keys of 6 rows", len(keys))
	}
}
