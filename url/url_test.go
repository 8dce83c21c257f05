package url_test

import (
	"fmt"
	"math/rand"
	"strings"
	"testing"

	"springhouse/api"
	"springhouse/host"
	"springhouse/pct"
	"springhouse/url"
)

func TestSpecial(t *testing.T) {
	for scheme, want := range map[string]int{
		"http": 80, "https": 443, "ws": 80, "wss": 443, "ftp": 21,
		"": 0, "file": 0, "x": 0, "HTTP": 0, "Http": 0, "httpS": 0, "http:": 0, " http": 0, "http ": 0, "htt": 0, "httpss": 0, "w": 0, "wsss": 0, "ftps": 0, "sftp": 0, "gopher": 0, "http\x00": 0, "\xFF": 0, "ｈttp": 0,
	} {
		if got := url.Special(scheme); got != want {
			t.Errorf("P9.1: Special(%q) = %d, not %d", scheme, got, want)
		}
	}
}

func TestExamples(t *testing.T) {
	prints(t, "HTTP://u@EXAMPLE.com:80/a/../b?q#f", nil, "http://u@example.com/b?q#f")
	prints(t, "../d", parsed(t, "http://a/b/c"), "http://a/d")
	fails(t, "http://", nil, api.ErrNone)
	tells(t, "a:b", nil, api.URL{Scheme: "a", Port: -1, Dark: true, Text: "b"})
}

// TestWhole holds whole addresses, each field of them.
func TestWhole(t *testing.T) {
	a := named("a")
	for in, want := range map[string]api.URL{
		"http://u:p@a:8080/b/c?q#f": {Scheme: "http", User: "u", Pass: "p", HasHost: true, Host: a, Port: 8080, Path: []string{"b", "c"}, HasQuery: true, Query: "q", HasFragment: true, Fragment: "f"},
		"https://1.2.3":             {Scheme: "https", HasHost: true, Host: api.Host{Kind: 2, Four: 0x01020003}, Port: -1, Path: []string{""}},
		"ws:[::1]:81?#":             {Scheme: "ws", HasHost: true, Host: api.Host{Kind: 3, Six: [8]uint16{7: 1}}, Port: 81, Path: []string{""}, HasQuery: true, HasFragment: true},
		"wss:/\\:@a\\b\\":           {Scheme: "wss", HasHost: true, Host: a, Port: -1, Path: []string{"b", ""}},
		"x://A%20:1/a\\b":           {Scheme: "x", HasHost: true, Host: text("A%20"), Port: 1, Path: []string{"a\\b"}},
		"x://1.2.3":                 {Scheme: "x", HasHost: true, Host: text("1.2.3"), Port: -1},
		"x://[::1]":                 {Scheme: "x", HasHost: true, Host: api.Host{Kind: 3, Six: [8]uint16{7: 1}}, Port: -1},
		"x://":                      {Scheme: "x", HasHost: true, Port: -1},
		"x://?":                     {Scheme: "x", HasHost: true, Port: -1, HasQuery: true},
		"x:///":                     {Scheme: "x", HasHost: true, Port: -1, Path: []string{""}},
		"x:///a":                    {Scheme: "x", HasHost: true, Port: -1, Path: []string{"a"}},
		"x:/":                       {Scheme: "x", Port: -1, Path: []string{""}},
		"x:/a/":                     {Scheme: "x", Port: -1, Path: []string{"a", ""}},
		"x:":                        {Scheme: "x", Port: -1, Dark: true},
		"x:\\a":                     {Scheme: "x", Port: -1, Dark: true, Text: "\\a"},
		"x:?#":                      {Scheme: "x", Port: -1, Dark: true, HasQuery: true, HasFragment: true},
		"x:#?":                      {Scheme: "x", Port: -1, Dark: true, HasFragment: true, Fragment: "?"},
		"mailto:a@b?c#d#e":          {Scheme: "mailto", Port: -1, Dark: true, Text: "a@b", HasQuery: true, Query: "c", HasFragment: true, Fragment: "d#e"},
		"x://u@h":                   {Scheme: "x", User: "u", HasHost: true, Host: text("h"), Port: -1},
		"x://:p@h/..":               {Scheme: "x", Pass: "p", HasHost: true, Host: text("h"), Port: -1, Path: []string{""}},
	} {
		tells(t, in, nil, want)
	}
}

func TestEndsOfTheText(t *testing.T) {
	want := *parsed(t, "http://a/b?c#d")
	for c := range 0x21 {
		s := bytesOf(byte(c), 3)
		tells(t, s+"http://a/b?c#d", nil, want)
		tells(t, "http://a/b?c#d"+s, nil, want)
		tells(t, s+"http://a/b?c#d\x1F"+s, nil, want)
		// Alone there is nothing left.
		fails(t, s, nil, api.ErrForm)
		tells(t, s, &want, *parsed(t, "http://a/b?c"))
		// Within it only three signs go.
		in := "http://a/b" + s + "?c#d"
		switch c {
		case 9, 0xA, 0xD:
			tells(t, in, nil, want)
		default:
			prints(t, in, nil, "http://a/b"+strings.Repeat(fmt.Sprintf("%%%02X", c), 3)+"?c#d")
		}
	}
	for _, s := range []string{"\x21", "\x7F", "\u0085", "\u00A0", "\u2028", "\u3000", "\uFEFF", "\xFF"} {
		fails(t, s+"http://a/b?c#d", nil, api.ErrForm)
		prints(t, "http://a/b?c#"+s, nil, "http://a/b?c#"+pct.Encode(pct.Fragment, []byte(strings.ReplaceAll(s, "\xFF", "\uFFFD"))))
	}
	fails(t, "", nil, api.ErrForm)
	tells(t, " x: ", nil, api.URL{Scheme: "x", Port: -1, Dark: true})
	tells(t, "x: a", nil, api.URL{Scheme: "x", Port: -1, Dark: true, Text: " a"})
	tells(t, "x:a ?", nil, api.URL{Scheme: "x", Port: -1, Dark: true, Text: "a ", HasQuery: true})
}

// TestTakenAway puts 9, A and D at each place of addresses.
func TestTakenAway(t *testing.T) {
	for _, in := range []string{"http://u:p@a.b:8080/c/%2e%2e/d?e#f", "x://u:p@[::1]:1/a//b", "x:/.//p", "x:a b?c", "http:\\\\a"} {
		want := *parsed(t, in)
		for i := range len(in) + 1 {
			for _, s := range []string{"\t", "\n", "\r", "\r\n", "\t\t\n\r"} {
				tells(t, in[:i]+s+in[i:], nil, want)
			}
		}
		all := ""
		for _, c := range in {
			all += "\n\t" + string(c) + "\r"
		}
		tells(t, all, nil, want)
	}
}

func TestNoUTF8(t *testing.T) {
	// The repair is one sign, which is small in no scheme, and three bytes elsewhere.
	const r = "%EF%BF%BD"
	prints(t, "http://\xFF:\xC3@a/\x80/\xE2\x82?\xF0\x80#\xED\xA0\x80", nil, "http://"+r+":"+r+"@a/"+r+"/"+r+"?"+r+r+"#"+r+r+r)
	prints(t, "x:\xFF\xE2\x82?", nil, "x:"+r+r+"?")
	prints(t, "x://\xC3", nil, "x://"+r)
	// A sign that is cut by one that goes stays cut: its bytes are read first.
	prints(t, "x:\xC3\n\xBC", nil, "x:"+r+r)
	prints(t, "x:\xC3\xBC", nil, "x:%C3%BC")
	fails(t, "\xFFx:", nil, api.ErrForm)
	fails(t, "x\xFF:", nil, api.ErrForm)
	h, e := host.Parse("\uFFFD", true)
	if e != api.OK {
		t.Fatalf("the test itself: %d", e)
	}
	tells(t, "http://\xFF", nil, api.URL{Scheme: "http", HasHost: true, Host: h, Port: -1, Path: []string{""}})
}

func TestSchemes(t *testing.T) {
	for in, want := range map[string]string{
		"a:": "a", "Z:": "z", "aZ09+-.:": "az09+-.", "A+:": "a+", "a-:b:c": "a-", "http:": "", "hTtPs:": "", "files:": "files", "fil:": "fil", "filefile:": "filefile", "file+:": "file+", "javascript:": "javascript", "x:file:": "x",
	} {
		if want == "" {
			fails(t, in, nil, api.ErrNone)
			continue
		}
		if u := parsed(t, in); u.Scheme != want {
			t.Errorf("P9.1: Parse(%q) has Scheme %q, not %q", in, u.Scheme, want)
		}
		holds(t, in, nil)
	}
	for _, in := range []string{
		"a", "http", ":", ":a", "//a", "/a:b", "?a:b", "#a:b", "\\a:b", "1:", "+a:b", "-a:b", ".a:b", "0http://a", "_a:b", "a_b:", "a b:c", "a/b:c", "a?b:c", "a#b:c", "a@b:c", "a%62:c", "a[:c", "é:", "aé:", "\u212A:", "\u0131:", "a\x00b:", "@:", "[:", "`:", "{:", "/:", "aa,:",
		"file:", "FILE:", "fIlE:///a", "file:a", "file://a b:x", "fi\nle:", " file: ", "file:#", "file:?",
	} {
		fails(t, in, nil, api.ErrForm)
	}
}

func TestSlashes(t *testing.T) {
	for _, scheme := range []string{"http", "https", "ws", "wss", "ftp"} {
		for _, s := range []string{"", "/", "\\", "//", "\\\\", "/\\", "\\/", "///", "\\\\\\", "/\\/\\/\\", "////////", "//\\"} {
			prints(t, scheme+":"+s+"a", nil, scheme+"://a/")
			// Behind the host each of them ends a piece.
			prints(t, scheme+":"+s+"a/"+s+"b", nil, scheme+"://a/"+strings.ReplaceAll(s, "\\", "/")+"b")
			fails(t, scheme+":"+s, nil, api.ErrNone)
			fails(t, scheme+":"+s+"?a", nil, api.ErrNone)
			fails(t, scheme+":"+s+"#a", nil, api.ErrNone)
		}
	}
	// Of others just two slashes open a host, and the other slash is a sign as others.
	prints(t, "x:a/b", nil, "x:a/b")
	prints(t, "x:\\\\a", nil, "x:\\\\a")
	tells(t, "x:/\\a", nil, api.URL{Scheme: "x", Port: -1, Path: []string{"\\a"}})
	tells(t, "x:////a", nil, api.URL{Scheme: "x", HasHost: true, Port: -1, Path: []string{"", "a"}})
	fails(t, "x://\\a", nil, api.ErrForm)
	fails(t, "x://a\\", nil, api.ErrForm)
}

func TestUserAndPass(t *testing.T) {
	for in, want := range map[string][2]string{
		"": {}, "@": {}, ":@": {}, "u@": {"u", ""}, "u:@": {"u", ""}, ":p@": {"", "p"}, "u:p@": {"u", "p"}, "::@": {"", "%3A"}, ":::@": {"", "%3A%3A"}, "u:p:q@": {"u", "p%3Aq"}, "u::@": {"u", "%3A"},
		"@@": {"%40", ""}, "@@@": {"%40%40", ""}, "u@v@": {"u%40v", ""}, "u:p@q@": {"u", "p%40q"}, "u@v:p@": {"u%40v", "p"}, "@:@": {"%40", ""}, ":@@": {"", "%40"}, "@:p@": {"%40", "p"}, "a@b@c:d@e@f:g@": {"a%40b%40c", "d%40e%40f%3Ag"}, "a:@:@": {"a", "%40%3A"},
		"%40@": {"%40", ""}, "%3A:%3a@": {"%3A", "%3a"}, "[@": {"%5B", ""}, "[a:b]@": {"%5Ba", "b%5D"}, "é:ü@": {"%C3%A9", "%C3%BC"}, "U:P@": {"U", "P"}, "a;=b@": {"a%3B%3Db", ""}, "%@": {"%", ""},
	} {
		for _, scheme := range []string{"http", "x"} {
			for _, behind := range []string{"h", "h:80", "h/", "h?@", "h#@", "h/@:"} {
				u := parsed(t, scheme+"://"+in+behind)
				if u.User != want[0] || u.Pass != want[1] || u.Host.Name != "h" {
					t.Errorf("P9.1: Parse(%q): %s", scheme+"://"+in+behind, short(*u))
				}
				holds(t, scheme+"://"+in+behind, nil)
			}
			if in == "" {
				continue
			}
			for _, behind := range []string{"", "/", "/a", "?a", "#a"} {
				fails(t, scheme+"://"+in+behind, nil, api.ErrNone)
			}
			fails(t, scheme+"://"+in+":80", nil, api.ErrNone)
		}
		if in != "" {
			fails(t, "http://"+in+"\\a", nil, api.ErrNone)
		}
	}
	// An authority ends ahead of a sign `@` that stands behind one of its ends.
	prints(t, "http://a\\@b", nil, "http://a/@b")
	prints(t, "http://a/@b", nil, "http://a/@b")
	prints(t, "http://a?@b", nil, "http://a/?@b")
	prints(t, "x://a#@b", nil, "x://a#@b")
	prints(t, "x://u\\v@a", nil, "x://u%5Cv@a")
	prints(t, "http://"+bytesOf('@', 1000)+"h", nil, "http://"+strings.Repeat("%40", 999)+"@h/")
}

func TestHosts(t *testing.T) {
	for in, want := range map[string]string{
		"http://EXAMPLE.com.": "http://example.com./", "http://b%C3%BCcher": "http://xn--bcher-kva/", "http://bücher/": "http://xn--bcher-kva/", "http://[::1]": "http://[::1]/", "http://[::1]:80": "http://[::1]/", "http://[1::]:81?": "http://[1::]:81/?", "http://u@[::1]#": "http://u@[::1]/#", "http://0x7f.1": "http://127.0.0.1/",
		"x://H%41:1": "x://H%41:1", "x://é": "x://%C3%A9", "x://[::0.0.0.1]:80/": "x://[::1]:80/", "x://": "x://", "x://#": "x://#", "x://?": "x://?", "x:///": "x:///", "x://'`{}\"": "x://'`{}\"",
	} {
		prints(t, in, nil, want)
	}
	for in, want := range map[string]api.Errno{
		"http://:": api.ErrNone, "http://:80": api.ErrNone, "http://:a": api.ErrNone, "http:/:/a": api.ErrNone, "x://:": api.ErrNone, "x://:80": api.ErrNone, "x://:/": api.ErrNone, "x://:a": api.ErrNone, "http://%C2%AD": api.ErrNone,
		"http://a b": api.ErrForm, "http://a<b": api.ErrForm, "http://a%2Fb": api.ErrForm, "http://a|b": api.ErrForm, "x://a b": api.ErrForm, "x://a^b": api.ErrForm, "x://a\x00b": api.ErrForm, "http://xn--a": api.ErrForm, "http://1.2.3.4.5": api.ErrForm,
		"http://256.1": api.ErrRange, "http://" + bytesOf('a', 254): api.ErrLong, "http://" + bytesOf('a', 257): api.ErrLimit,
		"http://[": api.ErrForm, "http://]": api.ErrForm, "http://[]": api.ErrForm, "http://[::1": api.ErrForm, "http://[::1]a": api.ErrForm, "http://[::1]a:80": api.ErrForm, "http://[a:80": api.ErrForm, "http://[a/": api.ErrForm, "http://a[:]b": api.ErrForm, "x://[:80": api.ErrForm, "x://[]:80": api.ErrForm, "x://[[::1]]": api.ErrForm, "x://]:80": api.ErrForm, "x://a[b:c]d": api.ErrForm,
		// Brackets close once for all: what is behind the first one that closes is a port.
		"x://[[::1]:80": api.ErrForm, "x://[::1]]:80": api.ErrForm, "http://[::1]:[": api.ErrForm,
	} {
		fails(t, in, nil, want)
	}
	// A host may be longer than its text: a repair has three bytes.
	holds(t, "x://"+bytesOf(0x80, 1333), nil)
	fails(t, "x://"+bytesOf(0x80, 1334), nil, api.ErrLong)
	fails(t, "x://"+bytesOf(0x80, 1334)+":x", nil, api.ErrLong)
	fails(t, "http://"+bytesOf(0x80, 1334), nil, api.ErrLong)
	fails(t, "http://"+bytesOf(0x80, 1333), nil, api.ErrLimit)
}

func TestPorts(t *testing.T) {
	own := map[string]int{"http": 80, "https": 443, "ws": 80, "wss": 443, "ftp": 21, "x": -1}
	for scheme, its := range own {
		for port, want := range map[string]int{
			"": -1, "0": 0, "00": 0, "1": 1, "9": 9, "21": 21, "80": 80, "443": 443, "080": 80, "0000443": 443, "0021": 21, "8080": 8080, "65535": 65535, "0065535": 65535, "65534": 65534, bytesOf('0', 3000): 0, bytesOf('0', 3000) + "80": 80, bytesOf('0', 3000) + "65535": 65535,
		} {
			if want == its {
				want = -1
			}
			for _, behind := range []string{"", "/", "?", "#", "/a:b", "?:1", "#:x"} {
				u := parsed(t, scheme+"://a:"+port+behind)
				if u.Port != want || u.Host.Name != "a" {
					t.Errorf("P9.1: Parse(%q): Port %d, not %d", scheme+"://a:"+port+behind, u.Port, want)
				}
				holds(t, scheme+"://a:"+port+behind, nil)
			}
		}
		for _, port := range []string{"65536", "65537", "065536", "99999", "100000", "655350", "65616", "131072", "4294967296", "4294967376", "18446744073709551616", "18446744073709551696", "9223372036854775888", bytesOf('9', 3000), bytesOf('0', 3000) + "65536"} {
			for _, behind := range []string{"", "/", "?", "#", "/:"} {
				fails(t, scheme+"://a:"+port+behind, nil, api.ErrRange)
			}
			// The sign that is no digit is seen ahead of the end of the number.
			for _, behind := range []string{"a", ":", " 1", "-", ".", "[", "]", ":80/", "٣", "\x00/"} {
				fails(t, scheme+"://a:"+port+behind, nil, api.ErrForm)
			}
		}
		for _, port := range []string{"a", "-1", "+1", "1a", "a1", "0x50", " 80", "80 ", "8 0", ":", ":80", "80:80", "8.0", "８", "80%30", "[", "]", "\x01", "1e1", "1_0", "\xFF"} {
			fails(t, scheme+"://a:"+port+"/", nil, api.ErrForm)
			fails(t, scheme+"://[::1]:"+port+"?", nil, api.ErrForm)
		}
	}
	prints(t, "http://a:80\\b", nil, "http://a/b")
	fails(t, "x://a:80\\b", nil, api.ErrForm)
	fails(t, "http://a:65536\\", nil, api.ErrRange)
}

// TestPaths holds the Path of texts, special and not; blanks stand between the pieces, which have none themselves.
func TestPaths(t *testing.T) {
	for in, want := range map[string]string{
		"/": "", "//": " ", "/a": "a", "/a/": "a ", "//a": " a", "/a//b": "a  b", "///": "  ",
		"/.": "", "/./": "", "/./a": "a", "/a/.": "a ", "/a/./": "a ", "/a/./b": "a b", "/././.": "",
		"/..": "", "/../": "", "/../..": "", "/../a": "a", "/a/..": "", "/a/../": "", "/a/../b": "b", "/a/b/..": "a ", "/a/b/../": "a ", "/a/b/../c": "a c", "/a/../..": "", "/a/../../b": "b", "//..": "", "//../a": "a", "//a/..": " ", "/a//../b": "a b", "/..//a": " a", "/.//a": " a",
		"/...": "...", "/....": "....", "/.a": ".a", "/a.": "a.", "/..a": "..a", "/a..": "a..", "/. a": ".%20a", "/.%20": ".%20", "/.;": ".;",
		"/%2e": "", "/%2E": "", "/%2e/": "", "/a/%2e/b": "a b", "/%2e.": "", "/.%2e": "", "/%2E%2e": "", "/a/.%2E": "", "/a/%2E./b": "b", "/a/b/%2e%2E": "a ", "/a/b/%2e%2e/": "a ",
		"/%2e%2e%2e": "%2e%2e%2e", "/%2e.%2E": "%2e.%2E", "/%2f": "%2f", "/%2": "%2", "/%2e2e": "%2e2e", "/%252e": "%252e", "/%%2e": "%%2e", "/%2ea": "%2ea", "/a%2e": "a%2e", "/%2d": "%2d", "/%2e%2": "%2e%2", "/．": "%EF%BC%8E", "/%２e": "%%EF%BC%92e",
		"/a b": "a%20b", "/é": "%C3%A9", "/a:b@c": "a:b@c", "/[]": "[]", "/'": "'", "/|": "|", "/{^}`\"<>": "%7B%5E%7D%60%22%3C%3E", "/%": "%", "/%zz": "%zz", "/%41": "%41", "/A": "A",
	} {
		path := strings.Split(want, " ")
		for _, behind := range []string{"", "?", "#", "?/..", "#/.."} {
			for _, ahead := range []string{"http://a", "x://a", "x://"} {
				u := parsed(t, ahead+in+behind)
				if !equal(api.URL{Path: u.Path}, api.URL{Path: path}) {
					t.Errorf("P9.1: Path of %q is %q, not %q", ahead+in+behind, u.Path, path)
				}
				holds(t, ahead+in+behind, nil)
			}
		}
		if !strings.HasPrefix(in, "//") {
			tells(t, "x:"+in, nil, api.URL{Scheme: "x", Port: -1, Path: path})
		}
		tells(t, "ftp://a"+strings.ReplaceAll(in, "/", "\\"), nil, api.URL{Scheme: "ftp", HasHost: true, Host: named("a"), Port: -1, Path: path})
	}
	// Without any slash.
	tells(t, "x://a", nil, api.URL{Scheme: "x", HasHost: true, Host: text("a"), Port: -1})
	tells(t, "x://a:1?", nil, api.URL{Scheme: "x", HasHost: true, Host: text("a"), Port: 1, HasQuery: true})
	tells(t, "http://a?", nil, api.URL{Scheme: "http", HasHost: true, Host: named("a"), Port: -1, Path: []string{""}, HasQuery: true})
	tells(t, "http://a:1#", nil, api.URL{Scheme: "http", HasHost: true, Host: named("a"), Port: 1, Path: []string{""}, HasFragment: true})
	// Either slash of a special one, mixed, and neither of a Dark one.
	tells(t, "http://a\\b/..\\./c\\%2e%2e/", nil, api.URL{Scheme: "http", HasHost: true, Host: named("a"), Port: -1, Path: []string{""}})
	tells(t, "x://a/b\\..\\c", nil, api.URL{Scheme: "x", HasHost: true, Host: text("a"), Port: -1, Path: []string{"b\\..\\c"}})
	tells(t, "x:a/../b/%2e", nil, api.URL{Scheme: "x", Port: -1, Dark: true, Text: "a/../b/%2e"})
}

func TestQueriesAndFragments(t *testing.T) {
	for _, ahead := range []string{"http://a/", "x://a", "x:/a", "x:a", "x:"} {
		for in, want := range map[string][2]string{
			"": {"-", "-"}, "?": {"", "-"}, "#": {"-", ""}, "?#": {"", ""}, "#?": {"-", "?"}, "?a": {"a", "-"}, "#a": {"-", "a"}, "?a#b": {"a", "b"}, "??": {"?", "-"}, "##": {"-", "#"}, "?a?b": {"a?b", "-"}, "?/a/../b": {"/a/../b", "-"}, "#/a/../b": {"-", "/a/../b"}, "?a\\b": {"a\\b", "-"}, "?a#b?c#d": {"a", "b?c#d"}, "?:@[]": {":@[]", "-"},
			"?%": {"%", "-"}, "?%2e": {"%2e", "-"}, "?a b": {"a%20b", "-"}, "#a b": {"-", "a%20b"}, "?é#é": {"%C3%A9", "%C3%A9"}, "?`{}|^": {"`{}|^", "-"}, "#`'{}|^": {"-", "%60'{}|^"}, "?\"<>#\"<>": {"%22%3C%3E", "%22%3C%3E"},
		} {
			u := parsed(t, ahead+in)
			got := [2]string{"-", "-"}
			if u.HasQuery {
				got[0] = u.Query
			}
			if u.HasFragment {
				got[1] = u.Fragment
			}
			if got != want || !u.HasQuery && u.Query != "" || !u.HasFragment && u.Fragment != "" {
				t.Errorf("P9.1: Query and Fragment of %q are %q, not %q", ahead+in, got, want)
			}
			holds(t, ahead+in, nil)
		}
	}
	for _, scheme := range []string{"http", "https", "ws", "wss", "ftp"} {
		prints(t, scheme+"://a/'?'#'", nil, scheme+"://a/'?%27#'")
	}
	prints(t, "x://a/'?'#'", nil, "x://a/'?'#'")
	prints(t, "x:'?'#'", nil, "x:'?'#'")
	prints(t, "https:a?'", nil, "https://a/?%27")
}

// TestEachSignByItsSet puts each sign below 100 (in digits of 16) into each part, which has its own set.
func TestEachSignByItsSet(t *testing.T) {
	parts := []struct {
		ahead, behind, ends string
		set                 int
		part                func(api.URL) string
	}{
		{"http://u", "v@a", "/\\?#@:", pct.User, func(u api.URL) string { return u.User }},
		{"x://u", "v@a", "/?#@:", pct.User, func(u api.URL) string { return u.User }},
		{"http://:u", "v@a", "/\\?#@", pct.User, func(u api.URL) string { return u.Pass }},
		{"x://:u", "v@a", "/?#@", pct.User, func(u api.URL) string { return u.Pass }},
		{"http://a/u", "v", "/\\?#", pct.Path, func(u api.URL) string { return u.Path[0] }},
		{"x:/u", "v", "/?#", pct.Path, func(u api.URL) string { return u.Path[0] }},
		{"x:u", "v", "?#", pct.C0, func(u api.URL) string { return u.Text }},
		{"http://a?u", "v", "#", pct.Special, func(u api.URL) string { return u.Query }},
		{"x://a?u", "v", "#", pct.Query, func(u api.URL) string { return u.Query }},
		{"x:?u", "v", "#", pct.Query, func(u api.URL) string { return u.Query }},
		{"http://a#u", "v", "", pct.Fragment, func(u api.URL) string { return u.Fragment }},
		{"x:#u", "v", "", pct.Fragment, func(u api.URL) string { return u.Fragment }},
	}
	for _, p := range parts {
		for c := rune(0); c < 0x100; c++ {
			in := p.ahead + string(c) + p.behind
			holds(t, in, nil)
			if strings.ContainsRune(p.ends, c) {
				continue
			}
			want := "u" + pct.Encode(p.set, []byte(string(c))) + "v"
			if c == '\t' || c == '\n' || c == '\r' {
				want = "uv"
			}
			if got := p.part(*parsed(t, in)); got != want {
				t.Errorf("P9.1: the part of %q is %q, not %q", in, got, want)
			}
		}
	}
}

func TestAtMaxText(t *testing.T) {
	most := api.MaxText
	for ahead, c := range map[string]byte{"http://a/": 'a', "x:": 'a', "x://a#": '#', "http://a?": '?', "x:/": '%', "http://u:": '@', "http://": '/', "": 'a', " ": ' ', "http://a:": '0', "x://": 0x80, "x:/b": 0x80, "\x00": 0, "\t": '\t', "x://a/b": '.', "http://a b/": 'a', "file:": 'a', "http://a:1x": '9', "http://a:99999": '9', "http://256.1/": 'a'} {
		whole := ahead + bytesOf(c, most-len(ahead))
		for _, s := range []string{whole, whole[1:], whole[:most-1]} {
			holds(t, s, nil)
		}
		for _, s := range []string{whole + "a", whole + " ", " " + whole, whole + "\n", whole + "\xFF", whole + "#", whole + whole, bytesOf(c, most+1)} {
			fails(t, s, nil, api.ErrLong)
		}
	}
	tells(t, "x:"+bytesOf('a', most-2), nil, api.URL{Scheme: "x", Port: -1, Dark: true, Text: bytesOf('a', most-2)})
	tells(t, "x:"+bytesOf(' ', most-2), nil, api.URL{Scheme: "x", Port: -1, Dark: true})
	// What is told may be longer than what is read; its Print is then too long itself.
	u := parsed(t, "x:"+bytesOf(0x80, most-2))
	if want := strings.Repeat("%EF%BF%BD", most-2); u.Text != want {
		t.Errorf("P9.1: a Text of %d bytes, not %d", len(u.Text), len(want))
	}
	fails(t, url.Print(*u), nil, api.ErrLong)
	// By bytes, not by signs.
	fails(t, "x:"+strings.Repeat("é", most/2), nil, api.ErrLong)
	holds(t, "x:"+strings.Repeat("é", most/2-1), nil)
	fails(t, bytesOf('a', 1<<20), nil, api.ErrLong)
}

func TestMaxItems(t *testing.T) {
	most := api.MaxItems
	for _, ahead := range []string{"http://a", "x://a", "x://", "x:/b", "https:u@[::1]:1"} {
		first := strings.Count(ahead, "/b")
		for n, in := range map[int]string{most - 1: "", most: "", most + 1: "", most + 2: ""} {
			in = ahead + strings.Repeat("/a", n-first)
			if n > most {
				fails(t, in, nil, api.ErrLimit)
				fails(t, in+"?q#f", nil, api.ErrLimit)
				fails(t, in+"/.", nil, api.ErrLimit)
				// It is the Path at the end that counts.
				if u := parsed(t, in+strings.Repeat("/..", n-most+1)); len(u.Path) != most {
					t.Errorf("P9.1: %d pieces of %.20q, %d of them and dots", len(u.Path), in, n)
				}
				continue
			}
			if u := parsed(t, in+"?q"); len(u.Path) != n {
				t.Errorf("P9.1: %d pieces of %.20q, not %d", len(u.Path), in, n)
			}
			holds(t, in, nil)
		}
		if ahead != "x:/b" {
			parsed(t, ahead+strings.Repeat("/", most))
			fails(t, ahead+strings.Repeat("/", most+1), nil, api.ErrLimit)
		}
	}
	parsed(t, "http://a"+strings.Repeat("/a/..", 600))
	parsed(t, "http://a"+strings.Repeat("/.", 1900))
	parsed(t, "http://a"+strings.Repeat("/a", most)+"/..")
	fails(t, "http://a"+strings.Repeat("\\", most+1), nil, api.ErrLimit)
	// Slashes of a Dark one, of a Query and of a Fragment are no pieces.
	for _, ahead := range []string{"x:a", "x://a?", "http://a#", "http://a/?"} {
		parsed(t, ahead+strings.Repeat("/", 3000))
	}
}

// TestWhichErrorIsFirst: where two errors fit, the first in the order of the states; too many pieces last.
func TestWhichErrorIsFirst(t *testing.T) {
	many := strings.Repeat("/", 300)
	for in, want := range map[string]api.Errno{
		"file://a:65536" + many: api.ErrForm, "a_b://256.1" + many: api.ErrForm,
		"http://u@:99999" + many: api.ErrNone, "http://u@" + many: api.ErrNone, "http://:99999": api.ErrNone, "http://:x": api.ErrNone, "x://:99999" + many: api.ErrNone,
		"http://a b:99999": api.ErrForm, "http://256.1:x": api.ErrRange, "http://256.1:99999": api.ErrRange, "http://" + bytesOf('a', 300) + ":x": api.ErrLimit, "http://" + bytesOf('a', 254) + ":x" + many: api.ErrLong, "http://[:x": api.ErrForm, "http://%C2%AD:99999": api.ErrNone,
		"http://a:99999x": api.ErrForm, "http://a:x99999": api.ErrForm, "http://a:99999/x" + many: api.ErrRange, "http://a:1x" + many: api.ErrForm, "http://a b" + many: api.ErrForm, "http://256.1" + many: api.ErrRange,
		"http://a" + many: api.ErrLimit, "http://a" + many + "?#": api.ErrLimit,
	} {
		fails(t, in, nil, want)
		fails(t, in+bytesOf(' ', api.MaxText), nil, api.ErrLong)
		fails(t, bytesOf('\n', api.MaxText)+in, nil, api.ErrLong)
	}
}

// eachState are texts behind which each of the states looks at the next sign, first and later on.
var eachState = []string{
	"", "h", "http", "x+", "http:", "http:/", "http://", "http:\\", "http:///", "http://u", "http://u:", "http://u:p@", "http://u:p@a", "http://u@v", "http://[", "http://[:", "http://[::1]", "http://a:", "http://a:8", "http://a:80", "http://a:65535", "http://a/", "http://a/b", "http://a/.", "http://a/..", "http://a/%2", "http://a/%2e", "http://a//", "http://a?", "http://a/b?c", "http://a#", "http://a/b#c",
	"x:", "x:/", "x://", "x:///", "x://u", "x://u:p@", "x://a", "x://a:", "x://a:8", "x://a:65536", "x://[::1]", "x://[", "x://a/", "x://a/b", "x://a/..", "x:/b", "x:/.", "x:/..", "x:/.//", "x:b", "x: ", "x:b?", "x:b?c", "x:b#", "x:b#c", "x://a?", "x://a#",
	"/", "//", "///", "\\", "\\\\", "/\\", "?", "#", ".", "..", "./", "../", "b", "b/", "b/..", ":", "@", "[", "wss:", "wss:/", "file", "file:", "file:/",
}

// someBases are those of each shape, none among them.
func someBases(t *testing.T) []*api.URL {
	l := []*api.URL{nil}
	for _, s := range []string{"http://a", "http://u:p@a:81/b/c/d;p?q#f", "https://[::1]/b/?", "wss://1.2:1/", "x://a", "x://u@a/b/c?q", "x://:p@a:0/b/", "x://", "x:///b", "x:/", "x:/b/c", "x:/.//b", "x:b", "x:?q#f", "http+x:/b/c#f"} {
		l = append(l, parsed(t, s))
	}
	return append(l, shapedBases()...)
}

// shapedBases are some that no text tells.
func shapedBases() []*api.URL {
	return []*api.URL{
		{},
		{Scheme: "http", Port: -1},
		{Scheme: "http", Port: 80, HasHost: true, Host: named("a"), Query: "hidden", Fragment: "hidden"},
		{Scheme: "ws", Port: 5, Dark: true, Text: "t", Path: []string{"b", "c"}, HasQuery: true, Query: "q", User: "u"},
		{Scheme: "x", Port: 7, Dark: true, Text: "t", Path: []string{"b"}, HasHost: true, Host: text("a"), Pass: "p", HasFragment: true, Fragment: "f"},
		{Scheme: "file", Port: -1, HasHost: true, Path: []string{"b", "c"}},
		{Scheme: "HTTP", Port: -9, User: " ", Pass: "@", Host: named("not there"), Text: "t", Path: []string{"..", "a/b", "%2e"}},
	}
}

// TestEachStateWithEachByte holds each byte, and the end, behind each state, with each base and without one.
func TestEachStateWithEachByte(t *testing.T) {
	bases := someBases(t)
	for _, ahead := range eachState {
		for _, base := range bases {
			holds(t, ahead, base)
		}
		for c := range 256 {
			it := string([]byte{byte(c)})
			holds(t, ahead+it, nil)
			holds(t, ahead+it+"a/../b:1@c?d", nil)
			for _, base := range bases[1:] {
				if c < 0x80 && c > ' ' || c%16 == 0 {
					holds(t, ahead+it, base)
				}
			}
		}
		if t.Failed() {
			return
		}
	}
}

// TestAllShortTexts holds all texts of few signs that change what others mean.
func TestAllShortTexts(t *testing.T) {
	signs := []string{"a", ":", "/", "\\", "?", "#", "@", ".", "[", "]", "%2e", "1"}
	var goOn func(in string, left int, bases []*api.URL)
	goOn = func(in string, left int, bases []*api.URL) {
		for _, base := range bases {
			holds(t, in, base)
		}
		if left == 0 || t.Failed() {
			return
		}
		for _, s := range signs {
			goOn(in+s, left-1, bases)
		}
	}
	alone := []*api.URL{nil}
	for _, ahead := range []string{"http:", "http://", "http://a/b", "x:", "x://", "x:/"} {
		goOn(ahead, 4, alone)
	}
	goOn("", 3, someBases(t))
}

// randomText is one of pieces that change what others mean.
func randomText(r *rand.Rand) string {
	pieces := []string{"http:", "https:", "ws:", "x:", "file:", "HTTP", "a", "b.c", "B", ":", "/", "//", "\\", "..", ".", "%2e", "%2E", "?", "#", "@", "[::1]", "[", "]", "1.2", ":80", ":443", ":0", "65536", " ", "\t", "\n", "\x00", "\x1F", "\x7F", "é", "\u00AD", "\xFF", "\xE2\x82", "'", "`", "|", "^", "%", "%41", "\U0001F600", "u:p@"}
	ahead := []string{"", "", "http://", "http:", "x:", "x:/", "x://", "http://a/", "x://a/", "https://u:p@a:1/b/c"}
	s := ahead[r.Intn(len(ahead))]
	for range r.Intn(9) {
		s += pieces[r.Intn(len(pieces))]
	}
	return s
}

// TestRandomTexts holds random texts, alone and on what others tell.
func TestRandomTexts(t *testing.T) {
	r := rand.New(rand.NewSource(91))
	bases := someBases(t)
	for range 40000 {
		in := randomText(r)
		holds(t, in, nil)
		holds(t, in, bases[r.Intn(len(bases))])
		if u, e := url.Parse(randomText(r)); e == api.OK {
			holds(t, in, &u)
		}
		if t.Failed() {
			return
		}
	}
}
