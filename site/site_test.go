package site_test

import (
	"fmt"
	"math"
	"math/rand"
	"slices"
	"strings"
	"testing"
	"unsafe"

	"springhouse/api"
	"springhouse/site"
	"springhouse/url"
)

// Hosts, one of each Kind and more.

func named(name string) api.Host { return api.Host{Kind: 1, Name: name} }

func hosts() []api.Host {
	return []api.Host{
		{},
		named("a.b.co.uk"),
		named("localhost"),
		named(""),
		{Kind: 2, Four: 0x01020304},
		{Kind: 2},
		{Kind: 3, Six: [8]uint16{7: 1}},
		{Kind: 3},
		{Kind: 4, Name: "a.b.co.uk"},
		{Kind: 5, Name: "a.b.co.uk"},
		{Kind: -1, Name: "a.b.co.uk", Four: 9, Six: [8]uint16{1, 2, 3, 4, 5, 6, 7, 8}},
		{Kind: 1, Name: "a.b.co.uk", Four: 9, Six: [8]uint16{1, 2, 3, 4, 5, 6, 7, 8}},
		{Kind: 2, Name: "a.b.co.uk", Four: 9, Six: [8]uint16{1, 2, 3, 4, 5, 6, 7, 8}},
	}
}

// withHost is a made address of scheme, h and port.
func withHost(scheme string, h api.Host, port int) api.URL {
	return api.URL{Scheme: scheme, HasHost: true, Host: h, Port: port}
}

// own are the special schemes, with their own ports.
func own() map[string]int {
	return map[string]int{"http": 80, "https": 443, "ws": 80, "wss": 443, "ftp": 21}
}

// notSpecial are schemes beside those.
func notSpecial() []string {
	return []string{"", "a", "file", "HTTP", "Http", "httpS", "http ", " http", "http:", "httpx", "httpss", "htt", "h", "w", "wsss", "ftps", "ft", "sftp", "gopher", "data", "blob", "about", "mailto", "http\x00", "\xFF"}
}

func ports() []int {
	return []int{-1, 0, 1, 21, 22, 79, 80, 81, 442, 443, 444, 8080, 65535, 65536, -2, -80, math.MaxInt, math.MinInt}
}

// suffixLists are lists of suffixes, none among them.
func suffixLists() [][]string {
	return [][]string{nil, {}, {""}, {"co.uk"}, {"co.uk", "uk"}, {"uk", "co.uk", "co.uk"}, {"a.b.co.uk"}, {"b.co.uk", "localhost"}, {".", "..", ""}}
}

func parse(t *testing.T, s string) api.URL {
	t.Helper()
	u, e := url.Parse(s)
	if e != api.OK {
		t.Fatalf("the test itself: url.Parse(%q): %d", s, e)
	}
	return u
}

// hasOrigin wants that the origin of u is want.
func hasOrigin(t *testing.T, u api.URL, want api.Origin) {
	t.Helper()
	if o, ok := site.Origin(u); o != want || !ok {
		t.Errorf("P11.1: Origin(%#v) = %#v, %v, not %#v", u, o, ok, want)
	}
}

// hasNone wants that u has neither origin nor site, and that nothing stands beside the false.
func hasNone(t *testing.T, u api.URL) {
	t.Helper()
	if o, ok := site.Origin(u); o != (api.Origin{}) || ok {
		t.Errorf("P11.1: Origin(%#v) = %#v, %v, not a zero one, false", u, o, ok)
	}
	for _, suffixes := range suffixLists() {
		if o, ok := site.Site(u, suffixes); o != (api.Origin{}) || ok {
			t.Errorf("P11.2: Site(%#v, %q) = %#v, %v, not a zero one, false", u, suffixes, o, ok)
		}
	}
}

// hasSuffix wants that Suffix of name is want, in whatever order suffixes stand.
func hasSuffix(t *testing.T, name, want string, suffixes ...string) {
	t.Helper()
	for range 2 {
		if got := site.Suffix(name, suffixes); got != want {
			t.Errorf("P11.2: Suffix(%q, %q) = %q, not %q", name, suffixes, got, want)
		}
		slices.Reverse(suffixes)
	}
}

// hasSite wants that Site of a host of that name is one named want.
func hasSite(t *testing.T, name, want string, suffixes ...string) {
	t.Helper()
	wanted := api.Origin{Scheme: "https", Host: named(want)}
	if o, ok := site.Site(withHost("https", named(name), 8080), suffixes); o != wanted || !ok {
		t.Errorf("P11.2: Site(%q, %q) = %#v, %v, not %#v", name, suffixes, o, ok, wanted)
	}
}

// The chapter once more: by labels, and by the tails that they make.

func wantedSuffixLabels(name string, suffixes []string) int {
	labels := strings.Split(name, ".")
	for i := range labels {
		if slices.Contains(suffixes, strings.Join(labels[i:], ".")) {
			return i
		}
	}
	return len(labels) - 1
}

func wantedSuffix(name string, suffixes []string) string {
	return strings.Join(strings.Split(name, ".")[wantedSuffixLabels(name, suffixes):], ".")
}

func wantedName(name string, suffixes []string) string {
	at := wantedSuffixLabels(name, suffixes)
	return strings.Join(strings.Split(name, ".")[max(at-1, 0):], ".")
}

func wantedOrigin(u api.URL) (api.Origin, bool) {
	port, special := own()[u.Scheme]
	switch {
	case !special || !u.HasHost:
		return api.Origin{}, false
	case u.Port == -1:
		return api.Origin{Scheme: u.Scheme, Host: u.Host, Port: port}, true
	}
	return api.Origin{Scheme: u.Scheme, Host: u.Host, Port: u.Port}, true
}

func wantedSite(u api.URL, suffixes []string) (api.Origin, bool) {
	o, ok := wantedOrigin(u)
	o.Port = 0
	if o.Host.Kind == 1 {
		o.Host.Name = wantedName(o.Host.Name, suffixes)
	}
	return o, ok
}

func TestTheSecondReading(t *testing.T) {
	for _, c := range []struct{ name, suffix, site string }{
		{"a.b.co.uk", "co.uk", "b.co.uk"},
		{"co.uk", "co.uk", "co.uk"},
		{"a.xco.uk", "uk", "xco.uk"},
		{"a.b.", "", "b."},
		{"", "", ""},
	} {
		list := []string{"uk", "co.uk"}
		if s, n := wantedSuffix(c.name, list), wantedName(c.name, list); s != c.suffix || n != c.site {
			t.Errorf("the test itself: %q: %q, %q", c.name, s, n)
		}
	}
}

// everyText makes all texts of the signs, of at most n bytes.
func everyText(signs string, n int) []string {
	all, last := []string{""}, []string{""}
	for range n {
		var next []string
		for _, s := range last {
			for i := range len(signs) {
				next = append(next, s+signs[i:i+1])
			}
		}
		all, last = append(all, next...), next
	}
	return all
}

func TestExamples(t *testing.T) {
	o, ok := site.Site(parse(t, "https://a.b.co.uk:8080/"), []string{"co.uk"})
	if want := (api.Origin{Scheme: "https", Host: named("b.co.uk")}); o != want || !ok {
		t.Errorf("P11.2: Site = %#v, %v, not %#v", o, ok, want)
	}
	hasSuffix(t, "x.y", "y")
}

func TestOriginsOfAddresses(t *testing.T) {
	one := api.Host{Kind: 3, Six: [8]uint16{7: 1}}
	for s, want := range map[string]api.Origin{
		"http://a/":                      {Scheme: "http", Host: named("a"), Port: 80},
		"http://a:80":                    {Scheme: "http", Host: named("a"), Port: 80},
		"http://a:443":                   {Scheme: "http", Host: named("a"), Port: 443},
		"http://a:0/":                    {Scheme: "http", Host: named("a"), Port: 0},
		"HTTPS://u:p@A.Example/b?c#d":    {Scheme: "https", Host: named("a.example"), Port: 443},
		"https://a:80/":                  {Scheme: "https", Host: named("a"), Port: 80},
		"ws://a:":                        {Scheme: "ws", Host: named("a"), Port: 80},
		"wss://a":                        {Scheme: "wss", Host: named("a"), Port: 443},
		"ftp://a:00021/":                 {Scheme: "ftp", Host: named("a"), Port: 21},
		"ftp://a:65535/":                 {Scheme: "ftp", Host: named("a"), Port: 65535},
		"http://0x7f.1:8080":             {Scheme: "http", Host: api.Host{Kind: 2, Four: 0x7F000001}, Port: 8080},
		"wss://[::1]":                    {Scheme: "wss", Host: one, Port: 443},
		"http://M\u00DCNCHEN.example:81": {Scheme: "http", Host: named("xn--mnchen-3ya.example"), Port: 81},
	} {
		hasOrigin(t, parse(t, s), want)
	}
	for _, s := range []string{"a:b", "a:", "a://b", "a://b:80/", "a:/b", "a:///b", "mailto:u@a", "x://1.2.3.4", "x://[::1]:80/", "gopher://a:70", "httpx://a"} {
		hasNone(t, parse(t, s))
	}
}

func TestOriginsOfSpecialSchemes(t *testing.T) {
	for scheme, itsOwn := range own() {
		for _, h := range hosts() {
			for _, port := range ports() {
				want := api.Origin{Scheme: scheme, Host: h, Port: port}
				if port == -1 {
					want.Port = itsOwn
				}
				hasOrigin(t, withHost(scheme, h, port), want)
			}
		}
	}
}

func TestNoOrigin(t *testing.T) {
	hasNone(t, api.URL{})
	hasNone(t, api.URL{Port: -1})
	for _, h := range hosts() {
		for _, port := range ports() {
			for _, scheme := range notSpecial() {
				hasNone(t, withHost(scheme, h, port))
				hasNone(t, api.URL{Scheme: scheme, Host: h, Port: port})
			}
			for scheme := range own() {
				hasNone(t, api.URL{Scheme: scheme, Host: h, Port: port})
			}
		}
	}
}

// dressed are addresses like u but for what is no part of an origin.
func dressed(u api.URL) []api.URL {
	var all []api.URL
	for range 7 {
		all = append(all, u)
	}
	all[1].User, all[1].Pass = "u", "p"
	all[2].Path = []string{"a", "b"}
	all[3].HasQuery, all[3].Query = true, "q"
	all[4].HasFragment, all[4].Fragment = true, "f"
	all[5].Dark, all[5].Text = true, "t"
	all[6].Query, all[6].Fragment, all[6].Text = "q", "f", "t"
	return all
}

func TestWhatIsNoPart(t *testing.T) {
	for _, h := range hosts() {
		for _, u := range dressed(withHost("https", h, -1)) {
			hasOrigin(t, u, api.Origin{Scheme: "https", Host: h, Port: 443})
		}
		for _, u := range dressed(api.URL{Scheme: "https", Host: h, Port: -1}) {
			hasNone(t, u)
		}
		for _, u := range dressed(withHost("x", h, -1)) {
			hasNone(t, u)
		}
	}
}

// TestOriginsAsKeys counts origins by a map, as what is kept by them is found.
func TestOriginsAsKeys(t *testing.T) {
	counts := map[api.Origin]int{}
	for _, s := range []string{
		"http://[::1]", "http://[0:0::1]:80/a", "http://u@[::0.0.0.1]",
		"http://[::2]", "http://[::1]:81", "https://[::1]",
		"http://1.2.3.4", "http://0x1020304:80", "http://16909060?q",
		"http://A", "http://a:80",
	} {
		o, ok := site.Origin(parse(t, s))
		if !ok {
			t.Errorf("P11.1: %s has no origin", s)
		}
		counts[o]++
	}
	for s, want := range map[string]int{"http://[::1]": 3, "http://[::2]": 1, "http://[::1]:81": 1, "https://[::1]": 1, "http://1.2.3.4": 3, "http://a": 2} {
		if o, _ := site.Origin(parse(t, s)); counts[o] != want {
			t.Errorf("P11.1: %s: %d, not %d", s, counts[o], want)
		}
	}
	if len(counts) != 6 {
		t.Errorf("P11.1: %d keys, not 6: %v", len(counts), counts)
	}
}

func TestSuffixFound(t *testing.T) {
	hasSuffix(t, "co.uk", "co.uk", "co.uk")
	hasSuffix(t, "a.co.uk", "co.uk", "co.uk")
	hasSuffix(t, "a.b.co.uk", "co.uk", "co.uk")
	hasSuffix(t, "a.b.c.d.co.uk", "co.uk", "co.uk")
	hasSuffix(t, "u.github.io", "github.io", "co.uk", "github.io", "com")
	hasSuffix(t, "com", "com", "com")
	hasSuffix(t, "a.com", "com", "com")
	hasSuffix(t, "localhost", "localhost", "localhost")
	hasSuffix(t, "co.uk.co.uk", "co.uk", "co.uk")
	hasSuffix(t, "co.uk.uk", "uk", "co.uk")
}

func TestSuffixNotFound(t *testing.T) {
	hasSuffix(t, "xco.uk", "uk", "co.uk")
	hasSuffix(t, "a.xco.uk", "uk", "co.uk")
	hasSuffix(t, "xcom", "xcom", "com")
	hasSuffix(t, "a.xcom", "xcom", "com")
	hasSuffix(t, "o.uk", "uk", "co.uk")
	hasSuffix(t, "uk", "uk", "co.uk")
	hasSuffix(t, ".uk", "uk", "co.uk")
	hasSuffix(t, "co.uk.a", "a", "co.uk")
	hasSuffix(t, "co.uka", "uka", "co.uk")
	hasSuffix(t, "co.ukco.uk.", "", "co.uk")
	hasSuffix(t, "a.CO.UK", "UK", "co.uk")
	hasSuffix(t, "a.co.uk", "uk", "CO.UK", "Co.uk")
	hasSuffix(t, "a.b.c", "c", "a", "b", "a.b", "bc", "b.", ".b")
	hasSuffix(t, "a-co.uk", "uk", "co.uk")
	hasSuffix(t, "a/co.uk", "uk", "co.uk")
	hasSuffix(t, "a.b", "b", "x.a.b", "aa.b", "a.b.")
}

func TestSeveralSuffixes(t *testing.T) {
	hasSuffix(t, "a.b.c", "b.c", "c", "b.c")
	hasSuffix(t, "a.b.c", "a.b.c", "c", "b.c", "a.b.c")
	hasSuffix(t, "a.b.c", "a.b.c", "b.c", "a.b.c", "c")
	hasSuffix(t, "a.b.c", "a.b.c", "a.b.c", "c")
	hasSuffix(t, "x.a.b.c", "a.b.c", "b.c", "a.b.c", "c")
	hasSuffix(t, "a.b.c", "b.c", "c", "b.c", "xa.b.c", "ab.c", ".b.c.d")
	hasSuffix(t, "a.co.uk", "co.uk", "co.uk", "co.uk")
	hasSuffix(t, "a.co.uk", "co.uk", "co.uk", "uk", "co.uk", "uk")
	hasSuffix(t, "a.uk", "uk", "co.uk", "uk", "uk", "co.uk")
	hasSuffix(t, "a.b.c", "c", "c", "abcdefghij", "a.b", "")
}

func TestNoSuffixes(t *testing.T) {
	for name, want := range map[string]string{
		"x.y": "y", "a.b.c.d": "d", "a": "a", "localhost": "localhost", "": "",
		"a.": "", ".": "", "..": "", "a..": "", ".a": "a", "..a": "a", "a..b": "b", "a.b.": "", "a...b": "b",
	} {
		hasSuffix(t, name, want)
		hasSuffix(t, name, want, "")
		hasSuffix(t, name, want, "", "")
		hasSuffix(t, name, want, "q", "", "q.q")
	}
}

func TestSuffixesWithPoints(t *testing.T) {
	hasSuffix(t, "a.uk", "uk", ".uk")
	hasSuffix(t, ".uk", ".uk", ".uk")
	hasSuffix(t, "..uk", ".uk", ".uk")
	hasSuffix(t, "a..uk", ".uk", ".uk")
	hasSuffix(t, "a.uk.", "uk.", "uk.", "uk")
	hasSuffix(t, "a.uk.", "", "uk")
	hasSuffix(t, "uk.", "uk.", "uk.")
	hasSuffix(t, "xuk.", "", "uk.")
	hasSuffix(t, ".", ".", ".")
	hasSuffix(t, "..", ".", ".")
	hasSuffix(t, "..", "..", ".", "..")
	hasSuffix(t, "a.", "", ".")
	hasSuffix(t, "a..", ".", ".")
	hasSuffix(t, "a..b", "b", "..b")
	hasSuffix(t, "a...b", "..b", "..b")
	hasSuffix(t, "a..b", ".b", ".b", "b")
	hasSuffix(t, "a.co..uk", "co..uk", "co..uk", "uk", "co.uk")
}

func TestSiteNames(t *testing.T) {
	hasSite(t, "co.uk", "co.uk", "co.uk")
	hasSite(t, "x.co.uk", "x.co.uk", "co.uk")
	hasSite(t, "a.b.co.uk", "b.co.uk", "co.uk")
	hasSite(t, "a.b.c.d.co.uk", "d.co.uk", "co.uk")
	hasSite(t, "a.b.co.uk", "co.uk", "uk")
	hasSite(t, "a.b.co.uk", "co.uk")
	hasSite(t, "a.b.co.uk", "a.b.co.uk", "a.b.co.uk")
	hasSite(t, "a.b.co.uk", "a.b.co.uk", "b.co.uk", "uk")
	hasSite(t, "xco.uk", "xco.uk", "co.uk")
	hasSite(t, "a.xco.uk", "xco.uk", "co.uk")
	hasSite(t, "uk", "uk", "co.uk")
	hasSite(t, "localhost", "localhost")
	hasSite(t, "www.example.com", "example.com", "com")
	hasSite(t, "a.u.github.io", "u.github.io", "com", "github.io", "io")
	hasSite(t, "a.b.c", "b.c", "", "c", "c")
}

func TestSiteNamesOddly(t *testing.T) {
	hasSite(t, "", "")
	hasSite(t, "", "", "")
	hasSite(t, "a.", "a.")
	hasSite(t, "a.b.", "b.")
	hasSite(t, "a.b.c.", "c.", "b.c", "c")
	hasSite(t, "a.b.c.", "b.c.", "c.")
	hasSite(t, ".", ".")
	hasSite(t, "..", ".")
	hasSite(t, "...", ".")
	hasSite(t, "...", "..", ".")
	hasSite(t, ".a", ".a")
	hasSite(t, "..a", ".a")
	hasSite(t, "a..b", ".b")
	hasSite(t, "a..b", "a..b", ".b")
	hasSite(t, "x.a..b", "a..b", ".b")
	hasSite(t, "a.b..co.uk", ".co.uk", "co.uk")
	hasSite(t, ".co.uk", ".co.uk", "co.uk")
	hasSite(t, "\xFF.\x00.\x80", "\x00.\x80")
	hasSite(t, "a.A.B", "A.B", "b", "a.b")
}

func TestSitesOfAddresses(t *testing.T) {
	list := []string{"co.uk", "uk", "com", "example"}
	for s, want := range map[string]string{
		"HTTPS://u:p@A.B.co.uk:8080/c?d#e":    "https://b.co.uk",
		"http://www.a.com":                    "http://a.com",
		"http://a.com:443/":                   "http://a.com",
		"ws://com/":                           "ws://com",
		"wss://x.y.z:1":                       "wss://y.z",
		"ftp://a.b.com./":                     "ftp://com.",
		"http://x.M\u00DCNCHEN.example":       "http://xn--mnchen-3ya.example",
		"http://1.2.3.4:9/":                   "http://1.2.3.4",
		"http://0x7f.1/":                      "http://127.0.0.1",
		"ws://[::1]:9/":                       "ws://[::1]",
		"https://[2001:db8:0:0:1::ffff]:443/": "https://[2001:db8::1:0:0:ffff]",
	} {
		o, ok := site.Site(parse(t, s), list)
		if text := site.Text(o); text != want || o.Port != 0 || !ok {
			t.Errorf("P11.2: Site(%s) = %s, %d, %v, not %s", s, text, o.Port, ok, want)
		}
	}
}

// TestSitesOfOtherHosts takes hosts that are no names: nothing is cut from them, be it like a suffix or not.
func TestSitesOfOtherHosts(t *testing.T) {
	for _, h := range hosts() {
		if h.Kind == 1 {
			continue
		}
		for scheme := range own() {
			for _, port := range ports() {
				for _, suffixes := range append(suffixLists(), []string{"4", "3.4", "1"}) {
					want := api.Origin{Scheme: scheme, Host: h}
					if o, ok := site.Site(withHost(scheme, h, port), suffixes); o != want || !ok {
						t.Errorf("P11.2: Site(%s, %#v, %d, %q) = %#v, %v", scheme, h, port, suffixes, o, ok)
					}
				}
			}
		}
	}
}

// TestSiteChangesTheNameAlone takes a name with fields of other hosts beside it, and every scheme and port.
func TestSiteChangesTheNameAlone(t *testing.T) {
	six := [8]uint16{1, 2, 3, 4, 5, 6, 7, 8}
	h := api.Host{Kind: 1, Name: "a.b.co.uk", Four: 9, Six: six}
	for scheme := range own() {
		for _, port := range ports() {
			want := api.Origin{Scheme: scheme, Host: api.Host{Kind: 1, Name: "b.co.uk", Four: 9, Six: six}}
			for _, u := range dressed(withHost(scheme, h, port)) {
				if o, ok := site.Site(u, []string{"co.uk"}); o != want || !ok {
					t.Errorf("P11.2: Site(%#v) = %#v, %v, not %#v", u, o, ok, want)
				}
			}
		}
	}
}

func TestEveryShortName(t *testing.T) {
	var lists [][]string
	short := everyText("ab.", 3)
	for i, a := range short {
		lists = append(lists, []string{a})
		for _, b := range short[:i+1] {
			lists = append(lists, []string{a, b}, []string{b, a})
		}
	}
	for _, name := range everyText("ab.", 5) {
		for _, list := range append(lists, nil) {
			if got, want := site.Suffix(name, list), wantedSuffix(name, list); got != want {
				t.Fatalf("P11.2: Suffix(%q, %q) = %q, not %q", name, list, got, want)
			}
			u := withHost("ws", named(name), 7)
			want := api.Origin{Scheme: "ws", Host: named(wantedName(name, list))}
			if o, ok := site.Site(u, list); o != want || !ok {
				t.Fatalf("P11.2: Site(%q, %q) = %#v, %v, not %#v", name, list, o, ok, want)
			}
		}
	}
}

// randomURL makes an address of few schemes, hosts and ports, so that two are often of the same origin.
func randomURL(r *rand.Rand) api.URL {
	schemes := []string{"http", "https", "ws", "wss", "ftp", "x", "", "HTTP"}
	names := everyText("a.", 4)
	u := withHost(schemes[r.Intn(len(schemes))], named(names[r.Intn(len(names))]), ports()[r.Intn(8)])
	if r.Intn(3) == 0 {
		u.Host = hosts()[r.Intn(len(hosts()))]
	}
	u.HasHost = r.Intn(8) > 0
	return dressed(u)[r.Intn(7)]
}

func randomList(r *rand.Rand) []string {
	texts := everyText("ab.", 4)
	var list []string
	for range r.Intn(6) {
		list = append(list, texts[r.Intn(len(texts))])
	}
	return list
}

func TestRandomAddresses(t *testing.T) {
	r := rand.New(rand.NewSource(11))
	for range 30000 {
		u, v, list := randomURL(r), randomURL(r), randomList(r)
		o, ok := site.Origin(u)
		want, wantOK := wantedOrigin(u)
		if o != want || ok != wantOK {
			t.Fatalf("P11.1: Origin(%#v) = %#v, %v, not %#v, %v", u, o, ok, want, wantOK)
		}
		other, otherOK := wantedOrigin(v)
		if same := site.SameOrigin(u, v); same != (wantOK && otherOK && want == other) {
			t.Fatalf("P11.3: SameOrigin(%#v, %#v) = %v", u, v, same)
		}
		o, ok = site.Site(u, list)
		if want, wantOK = wantedSite(u, list); o != want || ok != wantOK {
			t.Fatalf("P11.2: Site(%#v, %q) = %#v, %v, not %#v, %v", u, list, o, ok, want, wantOK)
		}
	}
}

func TestLongNames(t *testing.T) {
	points := strings.Repeat(".", 1<<16)
	hasSuffix(t, points, "")
	hasSuffix(t, points, points[1:], points[1:], points[2:], points+".")
	hasSite(t, points, ".")
	hasSite(t, points, points, points[1:])
	letters := strings.Repeat("a", 1<<16)
	hasSuffix(t, letters, letters, "a", letters[1:])
	hasSuffix(t, letters+"."+letters, letters, "a", letters[1:])
	hasSite(t, "x."+letters+"."+letters, letters+"."+letters, "a", letters[1:])
	many := slices.Repeat([]string{"q", "a.b", "b"}, 1<<14)
	hasSuffix(t, "x.a.b", "a.b", many...)
	hasSite(t, "y.x.a.b", "x.a.b", many...)
}

// sameOrigin wants that answer of a and b, either way round.
func sameOrigin(t *testing.T, a, b api.URL, want bool) {
	t.Helper()
	if site.SameOrigin(a, b) != want || site.SameOrigin(b, a) != want {
		t.Errorf("P11.3: SameOrigin(%#v, %#v) is not %v, either way round", a, b, want)
	}
}

func TestSameOrigin(t *testing.T) {
	for _, c := range []struct {
		a, b string
		want bool
	}{
		{"http://a", "http://a", true},
		{"http://a", "HTTP://A:80/x?y#z", true},
		{"http://u:p@a", "http://a/b/c", true},
		{"https://a:443", "https://a", true},
		{"wss://a:443", "wss://a", true},
		{"ftp://a:21", "ftp://a", true},
		{"http://1.2.3.4", "http://0x1020304", true},
		{"http://[::1]", "http://[0:0::1]:80", true},
		{"http://a:0", "http://a:0/b", true},
		{"http://a", "https://a", false},
		{"http://a", "ws://a", false},
		{"https://a", "wss://a", false},
		{"http://a:443", "https://a:443", false},
		{"http://a", "http://b", false},
		{"http://a", "http://a.", false},
		{"http://a.b", "http://b", false},
		{"http://x.a.b", "http://y.a.b", false},
		{"http://a:1", "http://a:2", false},
		{"http://a:0", "http://a", false},
		{"http://a:443", "http://a", false},
		{"https://a:80", "https://a", false},
		{"http://1.2.3.4", "http://1.2.3.5", false},
		{"http://[::1]", "http://[1::]", false},
		{"http://0.0.0.1", "http://[::1]", false},
		{"x://a", "x://a", false},
		{"x:a", "x:a", false},
		{"x:/a", "x:/a", false},
		{"x://a", "http://a", false},
		{"x:a", "http://a", false},
	} {
		sameOrigin(t, parse(t, c.a), parse(t, c.b), c.want)
	}
}

// TestSameOriginByParts takes addresses that differ in one part alone.
func TestSameOriginByParts(t *testing.T) {
	whole := withHost("http", api.Host{Kind: 1, Name: "a", Four: 1, Six: [8]uint16{1, 2, 3, 4, 5, 6, 7, 8}}, -1)
	var others []api.URL
	for range 7 {
		others = append(others, whole)
	}
	others[0].Scheme = "ws"
	others[1].Host.Kind = 4
	others[2].Host.Name = "b"
	others[3].Host.Four = 2
	others[4].Port = 81
	others[5].HasHost = false
	others[6].Scheme = "x"
	for i := range whole.Host.Six {
		u := whole
		u.Host.Six[i]++
		others = append(others, u)
	}
	for _, u := range others {
		sameOrigin(t, whole, u, false)
	}
	for _, u := range dressed(whole) {
		sameOrigin(t, whole, u, true)
		u.Port = 80
		sameOrigin(t, whole, u, true)
	}
}

func TestSameOriginOfNone(t *testing.T) {
	for _, h := range hosts() {
		for _, port := range ports() {
			whole := withHost("http", h, port)
			sameOrigin(t, whole, whole, true)
			for _, none := range []api.URL{{}, withHost("x", h, port), withHost("", h, port), {Scheme: "http", Host: h, Port: port}} {
				sameOrigin(t, none, none, false)
				sameOrigin(t, none, api.URL{}, false)
				sameOrigin(t, none, whole, false)
			}
		}
	}
}

func TestTexts(t *testing.T) {
	six := api.Host{Kind: 3, Six: [8]uint16{0x2001, 0xDB8, 0, 0, 1, 0, 0, 0xFFFF}}
	for _, c := range []struct {
		o    api.Origin
		want string
	}{
		{api.Origin{}, "://"},
		{api.Origin{Port: 1}, "://:1"},
		{api.Origin{Scheme: "http"}, "http://"},
		{api.Origin{Scheme: "http", Port: 80}, "http://:80"},
		{api.Origin{Scheme: "http", Host: named("a")}, "http://a"},
		{api.Origin{Scheme: "http", Host: named("a"), Port: 80}, "http://a:80"},
		{api.Origin{Scheme: "https", Host: named("a.b"), Port: 443}, "https://a.b:443"},
		{api.Origin{Scheme: "ws", Host: named(""), Port: 7}, "ws://:7"},
		{api.Origin{Scheme: "ftp", Host: api.Host{Kind: 2, Four: 0x01020304}}, "ftp://1.2.3.4"},
		{api.Origin{Scheme: "ftp", Host: api.Host{Kind: 2, Four: 0xFFFFFFFF}, Port: 65535}, "ftp://255.255.255.255:65535"},
		{api.Origin{Scheme: "wss", Host: six}, "wss://[2001:db8::1:0:0:ffff]"},
		{api.Origin{Scheme: "wss", Host: six, Port: 8080}, "wss://[2001:db8::1:0:0:ffff]:8080"},
		{api.Origin{Scheme: "wss", Host: api.Host{Kind: 3}, Port: 1}, "wss://[::]:1"},
		{api.Origin{Scheme: "x", Host: api.Host{Kind: 4, Name: "%20"}, Port: 9}, "x://%20:9"},
		{api.Origin{Scheme: "x", Host: api.Host{Kind: 0, Name: "a", Four: 1}, Port: 9}, "x://:9"},
		{api.Origin{Scheme: "x", Host: api.Host{Kind: 5, Name: "a"}, Port: 9}, "x://:9"},
		{api.Origin{Scheme: "x", Host: api.Host{Kind: -1, Name: "a"}}, "x://"},
		{api.Origin{Scheme: "http", Host: api.Host{Kind: 1, Name: "a", Four: 1, Six: six.Six}}, "http://a"},
		{api.Origin{Scheme: "http", Host: named("a"), Port: -1}, "http://a:-1"},
		{api.Origin{Scheme: "http", Host: named("a"), Port: 65536}, "http://a:65536"},
		{api.Origin{Scheme: "http", Host: named("a"), Port: math.MaxInt64}, "http://a:9223372036854775807"},
		{api.Origin{Scheme: "http", Host: named("a"), Port: math.MinInt64}, "http://a:-9223372036854775808"},
		{api.Origin{Scheme: "HT:/", Host: named("\xFF\x00"), Port: 5}, "HT:/://\xFF\x00:5"},
	} {
		if text := site.Text(c.o); text != c.want {
			t.Errorf("P11.3: Text(%#v) = %q, not %q", c.o, text, c.want)
		}
	}
}

func TestTextsOfOrigins(t *testing.T) {
	for s, want := range map[string]string{
		"http://a": "http://a:80", "https://a:80/": "https://a:80", "ws://u@a/b": "ws://a:80", "wss://[::1]": "wss://[::1]:443",
		"ftp://0x7f.1": "ftp://127.0.0.1:21", "http://a:0/": "http://a", "x://a": "://",
	} {
		o, _ := site.Origin(parse(t, s))
		if text := site.Text(o); text != want {
			t.Errorf("P11.3: Text of the origin of %s = %q, not %q", s, text, want)
		}
	}
}

// writable is a text that stands in b: what is written into b shows in it.
func writable(b []byte) string { return unsafe.String(unsafe.SliceData(b), len(b)) }

// TestNothingIsKept writes over all that was handed in: no answer may show it.
func TestNothingIsKept(t *testing.T) {
	scheme, name := []byte("https"), []byte("a.b.co.uk")
	suffix := []byte("co.uk")
	u := withHost(writable(scheme), named(writable(name)), -1)
	list := []string{writable(suffix)}
	o, _ := site.Origin(u)
	s, _ := site.Site(u, list)
	found, whole, last := site.Suffix(writable(name), list), site.Suffix(writable(suffix), list), site.Suffix(writable(name), nil)
	text := site.Text(api.Origin{Scheme: writable(scheme), Host: named(writable(name))})
	bare := site.Text(api.Origin{Scheme: writable(scheme)})
	for _, b := range [][]byte{scheme, name, suffix} {
		copy(b, "##########")
	}
	list[0] = "!"
	if want := (api.Origin{Scheme: "https", Host: named("a.b.co.uk"), Port: 443}); o != want {
		t.Errorf("P11.4: Origin keeps what it is handed: %#v", o)
	}
	if want := (api.Origin{Scheme: "https", Host: named("b.co.uk")}); s != want {
		t.Errorf("P11.4: Site keeps what it is handed: %#v", s)
	}
	if found != "co.uk" || whole != "co.uk" || last != "uk" {
		t.Errorf("P11.4: Suffix keeps what it is handed: %q, %q, %q", found, whole, last)
	}
	if text != "https://a.b.co.uk" || bare != "https://" {
		t.Errorf("P11.4: Text keeps what it is handed: %q, %q", text, bare)
	}
}

// TestNothingIsKeptOfWholeNames is TestNothingIsKept for sites whose name is all of the host's, of every Kind.
func TestNothingIsKeptOfWholeNames(t *testing.T) {
	for kind := range 6 {
		name := []byte("b.co.uk")
		u := withHost("http", api.Host{Kind: kind, Name: writable(name)}, 80)
		o, _ := site.Origin(u)
		s, _ := site.Site(u, []string{"co.uk"})
		copy(name, "##########")
		if o.Host.Name != "b.co.uk" || s.Host.Name != "b.co.uk" {
			t.Errorf("P11.4: Kind %d keeps what it is handed: %#v, %#v", kind, o, s)
		}
	}
}

func TestNothingIsChanged(t *testing.T) {
	// Behind the length of each list stands what would change the answer.
	suffixes := []string{"uk", "x", "co.uk", "b.co.uk"}
	path := []string{"c", "d", "e"}
	u := api.URL{Scheme: "https", User: "u", Pass: "p", HasHost: true, Host: named("a.b.co.uk"), Port: 8080, Text: "t",
		Path: path[:2], HasQuery: true, Query: "q", HasFragment: true, Fragment: "f"}
	before := url.Copy(u)
	for range 2 {
		if s := site.Suffix("a.b.co.uk", suffixes[:2]); s != "uk" {
			t.Errorf("P11.4: Suffix reads behind the list: %q", s)
		}
		if o, _ := site.Site(u, suffixes[:2]); o.Host.Name != "co.uk" {
			t.Errorf("P11.4: Site reads behind the list: %#v", o)
		}
		site.Origin(u)
		site.SameOrigin(u, u)
	}
	if !slices.Equal(suffixes, []string{"uk", "x", "co.uk", "b.co.uk"}) {
		t.Errorf("P11.4: the suffixes are %q", suffixes)
	}
	if !url.Same(u, before) || !slices.Equal(path, []string{"c", "d", "e"}) {
		t.Errorf("P11.4: the address is %#v, not %#v", u, before)
	}
}

// TestNilAndEmpty holds nil against the empty list, in suffixes and in an address.
func TestNilAndEmpty(t *testing.T) {
	u := withHost("http", named("a.b.c"), -1)
	v := u
	v.Path = []string{}
	sameOrigin(t, u, v, true)
	for _, w := range []api.URL{u, v} {
		for _, list := range [][]string{nil, {}, suffixLists()[3][:0]} {
			if o, ok := site.Site(w, list); o != (api.Origin{Scheme: "http", Host: named("b.c")}) || !ok {
				t.Errorf("P11.2: Site(%#v, %#v) = %#v, %v", w, list, o, ok)
			}
		}
	}
}

// TestOneSiteOfOneOrigin keeps sites by origins: no address of an origin tells another site than the first.
func TestOneSiteOfOneOrigin(t *testing.T) {
	r := rand.New(rand.NewSource(5))
	for range 20 {
		list, sites, often := randomList(r), map[api.Origin]api.Origin{}, 0
		for range 4000 {
			u := randomURL(r)
			o, ok := site.Origin(u)
			s, has := site.Site(u, list)
			if has != ok {
				t.Fatalf("P11.5: %#v: an origin %v, a site %v", u, ok, has)
			}
			if !ok {
				continue
			}
			first, known := sites[o]
			if known && first != s {
				t.Fatalf("P11.5: %#v: the site %#v, and %#v of another of the same origin", u, s, first)
			}
			if known {
				often++
			}
			sites[o] = s
		}
		if often < 300 {
			t.Fatalf("the test itself: but %d addresses of one origin", often)
		}
	}
}

func TestOneSiteOfOneOriginAsRead(t *testing.T) {
	list := []string{"co.uk", "com"}
	for _, group := range [][]string{
		{"https://a.b.co.uk", "HTTPS://A.B.CO.UK:443/x", "https://u:p@a.b.co.uk?q#f"},
		{"http://1.2.3.4", "http://0x1020304:80/", "http://16909060"},
		{"ws://[::1]", "ws://[0::1]:80/a/b"},
		{"ftp://co.uk:21/", "ftp://CO.uk"},
	} {
		var found []string
		for _, s := range group {
			sameOrigin(t, parse(t, group[0]), parse(t, s), true)
			o, ok := site.Site(parse(t, s), list)
			found = append(found, fmt.Sprintf("%#v %v", o, ok))
		}
		if len(slices.Compact(found)) != 1 {
			t.Errorf("P11.5: %q: %q", group, found)
		}
	}
}
