package url_test

import (
	"fmt"
	"math/big"
	"reflect"
	"regexp"
	"strings"
	"testing"

	"springhouse/api"
	"springhouse/host"
	"springhouse/pct"
	"springhouse/url"
	"springhouse/utf"
)

// This is the chapter once more, but by cutting texts at their signs, not by states: no sign is looked at twice, and
// no place is kept.

var ports = map[string]int{"http": 80, "https": 443, "ws": 80, "wss": 443, "ftp": 21}

var schemes = regexp.MustCompile(`^[A-Za-z][A-Za-z0-9+.-]*:`)

// slashesOf are the slashes of an address with that scheme.
func slashesOf(scheme string) string {
	if ports[scheme] != 0 {
		return `/\`
	}
	return "/"
}

// wanted is Parse of in, and Join of *base and in, if there is a base.
func wanted(in string, base *api.URL) (api.URL, api.Errno) {
	if len(in) > 4000 {
		return api.URL{}, api.ErrLong
	}
	text := utf.Text(utf.Lossy([]byte(in)))
	text = strings.TrimFunc(text, func(c rune) bool { return c <= 0x20 })
	text = strings.NewReplacer("\x09", "", "\x0A", "", "\x0D", "").Replace(text)
	u, e := wantedParts(text, base)
	if e == api.OK && len(u.Path) > 256 {
		e = api.ErrLimit
	}
	if e != api.OK {
		return api.URL{}, e
	}
	return u, api.OK
}

func wantedParts(text string, base *api.URL) (api.URL, api.Errno) {
	rest, fragment, hasFragment := strings.Cut(text, "#")
	rest, query, hasQuery := strings.Cut(rest, "?")
	u, e := wantedHead(rest, hasQuery, hasFragment, base)
	if e != api.OK {
		return u, e
	}
	if hasQuery {
		set := pct.Query
		if ports[u.Scheme] != 0 {
			set = pct.Special
		}
		u.HasQuery, u.Query = true, pct.Encode(set, []byte(query))
	}
	if hasFragment {
		u.HasFragment, u.Fragment = true, pct.Encode(pct.Fragment, []byte(fragment))
	}
	return u, api.OK
}

// wantedHead reads what stands ahead of a Query and a Fragment.
func wantedHead(rest string, hasQuery, hasFragment bool, base *api.URL) (api.URL, api.Errno) {
	found := schemes.FindString(rest)
	if found == "" {
		switch {
		case base == nil:
			return api.URL{}, api.ErrForm
		case base.Dark && (rest != "" || hasQuery || !hasFragment):
			return api.URL{}, api.ErrForm
		case base.Dark:
			return *base, api.OK
		}
		return wantedRelative(rest, hasQuery, *base)
	}
	u := api.URL{Scheme: strings.ToLower(strings.TrimSuffix(found, ":")), Port: -1}
	rest = rest[len(found):]
	twoSlashes := strings.HasPrefix(rest, "//")
	switch {
	case u.Scheme == "file":
		return u, api.ErrForm
	case ports[u.Scheme] != 0 && base != nil && base.Scheme == u.Scheme && !twoSlashes:
		return wantedRelative(rest, hasQuery, *base)
	case ports[u.Scheme] != 0:
		return wantedAuthority(u, strings.TrimLeft(rest, `/\`))
	case twoSlashes:
		return wantedAuthority(u, rest[2:])
	case strings.HasPrefix(rest, "/"):
		u.Path = wantedPath(u, rest[1:])
		return u, api.OK
	}
	u.Dark, u.Text = true, pct.Encode(pct.C0, []byte(rest))
	return u, api.OK
}

func wantedRelative(rest string, hasQuery bool, base api.URL) (api.URL, api.Errno) {
	slashes := slashesOf(base.Scheme)
	behind := strings.TrimLeft(rest, slashes)
	count := len(rest) - len(behind)
	if count >= 2 {
		if ports[base.Scheme] == 0 {
			behind = rest[2:]
		}
		return wantedAuthority(api.URL{Scheme: base.Scheme, Port: -1}, behind)
	}
	u := api.URL{Scheme: base.Scheme, User: base.User, Pass: base.Pass, HasHost: base.HasHost, Host: base.Host, Port: base.Port}
	switch {
	case count == 1:
		u.Path = wantedPath(u, behind)
	case rest != "":
		if n := len(base.Path); n > 0 {
			u.Path = append(u.Path, base.Path[:n-1]...)
		}
		u.Path = wantedPath(u, rest)
	default:
		u.Path = append(u.Path, base.Path...)
		if !hasQuery {
			u.HasQuery, u.Query = base.HasQuery, base.Query
		}
	}
	return u, api.OK
}

// wantedAuthority reads what stands behind the slashes.
func wantedAuthority(u api.URL, rest string) (api.URL, api.Errno) {
	who := rest
	if at := strings.IndexAny(rest, slashesOf(u.Scheme)); at >= 0 {
		who = rest[:at]
	}
	path := rest[len(who):]
	if at := strings.LastIndex(who, "@"); at >= 0 {
		user, pass, _ := strings.Cut(who[:at], ":")
		u.User, u.Pass = pct.Encode(pct.User, []byte(user)), pct.Encode(pct.User, []byte(pass))
		who = who[at+1:]
		if who == "" {
			return u, api.ErrNone
		}
	}
	name, port, hasPort := cutPort(who)
	if name == "" && (hasPort || ports[u.Scheme] != 0) {
		return u, api.ErrNone
	}
	h, e := host.Parse(name, ports[u.Scheme] != 0)
	if e != api.OK {
		return u, e
	}
	u.HasHost, u.Host = true, h
	if u.Port, e = wantedPort(u.Scheme, port); e != api.OK {
		return u, e
	}
	if path != "" || ports[u.Scheme] != 0 {
		u.Path = wantedPath(u, path[min(1, len(path)):])
	}
	return u, api.OK
}

// cutPort cuts at the first colon that no bracket is open ahead of.
func cutPort(who string) (string, string, bool) {
	for i := range len(who) {
		ahead := who[:i]
		if who[i] == ':' && strings.LastIndex(ahead, "[") <= strings.LastIndex(ahead, "]") {
			return ahead, who[i+1:], true
		}
	}
	return who, "", false
}

func wantedPort(scheme, port string) (int, api.Errno) {
	if port == "" {
		return -1, api.OK
	}
	for _, c := range port {
		if c < '0' || '9' < c {
			return 0, api.ErrForm
		}
	}
	n, _ := new(big.Int).SetString(port, 10)
	if n.Cmp(big.NewInt(65535)) > 0 {
		return 0, api.ErrRange
	}
	if own, special := ports[scheme]; special && n.Int64() == int64(own) {
		return -1, api.OK
	}
	return int(n.Int64()), api.OK
}

// wantedPath is u's Path, with the pieces of rest behind it.
func wantedPath(u api.URL, rest string) []string {
	path := u.Path
	if ports[u.Scheme] != 0 {
		rest = strings.ReplaceAll(rest, `\`, "/")
	}
	pieces := strings.Split(rest, "/")
	for i, piece := range pieces {
		last := i == len(pieces)-1
		dots := strings.ReplaceAll(strings.ToLower(piece), "%2e", ".")
		if dots == ".." && len(path) > 0 {
			path = path[:len(path)-1]
		}
		switch {
		case dots != "." && dots != "..":
			path = append(path, pct.Encode(pct.Path, []byte(piece)))
		case last:
			path = append(path, "")
		}
	}
	return path
}

// wantedPrint is Print of u, by the chapter once more.
func wantedPrint(u api.URL) string {
	when := func(b bool, s string) string {
		if b {
			return s
		}
		return ""
	}
	who := "//" + u.User + when(u.Pass != "", ":"+u.Pass) + when(u.User+u.Pass != "", "@") + host.Print(u.Host) + when(u.Port != -1, fmt.Sprintf(":%d", u.Port))
	path := u.Text
	if !u.Dark {
		path = strings.Join(append([]string{""}, u.Path...), "/")
	}
	doubled := !u.HasHost && !u.Dark && len(u.Path) > 1 && u.Path[0] == ""
	return u.Scheme + ":" + when(u.HasHost, who) + when(doubled, "/.") + path + when(u.HasQuery, "?"+u.Query) + when(u.HasFragment, "#"+u.Fragment)
}

// equal tells whether each field is the same; an empty Path is as none.
func equal(a, b api.URL) bool {
	if len(a.Path) == 0 && len(b.Path) == 0 {
		a.Path, b.Path = nil, nil
	}
	return reflect.DeepEqual(a, b)
}

func short(u api.URL) string {
	if equal(u, api.URL{}) {
		return "nothing"
	}
	return fmt.Sprintf("%.300s", fmt.Sprintf("%+v", u))
}

// read is Parse of in, and Join of *base and in, if there is a base.
func read(in string, base *api.URL) (api.URL, api.Errno) {
	if base == nil {
		return url.Parse(in)
	}
	return url.Join(*base, in)
}

func of(in string, base *api.URL) string {
	if base == nil {
		return fmt.Sprintf("Parse(%.80q) (%d bytes)", in, len(in))
	}
	return fmt.Sprintf("Join(%s, %.80q) (%d bytes)", short(*base), in, len(in))
}

// holds wants that in, with the base or without one, is read as the second reading says, and that what is told
// is printed so, and is read back.
func holds(t *testing.T, in string, base *api.URL) {
	t.Helper()
	got, e := read(in, base)
	want, wantE := wanted(in, base)
	if e != wantE || !equal(got, want) {
		t.Errorf("P9.1: %s = %s, %d, not %s, %d", of(in, base), short(got), e, short(want), wantE)
		return
	}
	if e != api.OK {
		return
	}
	if s := url.Print(got); s != wantedPrint(got) {
		t.Errorf("P9.2: Print of %s = %.200q, not %.200q", of(in, base), s, wantedPrint(got))
	}
	if base == nil {
		returns(t, got)
	}
}

// returns wants of u, which Parse told, that Parse of Print is u.
func returns(t *testing.T, u api.URL) {
	t.Helper()
	s := url.Print(u)
	if len(s) > 4000 {
		return
	}
	if again, e := url.Parse(s); !equal(again, u) || e != api.OK {
		t.Errorf("P9.4: Parse(%.200q) = %s, %d, not %s", s, short(again), e, short(u))
	}
}

// tells wants that in is read as want.
func tells(t *testing.T, in string, base *api.URL, want api.URL) {
	t.Helper()
	if got, e := read(in, base); !equal(got, want) || e != api.OK {
		t.Errorf("P9.1: %s = %s, %d, not %s", of(in, base), short(got), e, short(want))
	}
	holds(t, in, base)
}

// prints wants that in is read as what is printed as want.
func prints(t *testing.T, in string, base *api.URL, want string) {
	t.Helper()
	got, e := read(in, base)
	if s := url.Print(got); s != want || e != api.OK {
		t.Errorf("P9.1: Print of %s = %.200q, %d, not %.200q", of(in, base), s, e, want)
	}
	holds(t, in, base)
}

// fails wants that in is the error want, and nothing beside it.
func fails(t *testing.T, in string, base *api.URL, want api.Errno) {
	t.Helper()
	if got, e := read(in, base); !equal(got, api.URL{}) || e != want {
		t.Errorf("P9.1: %s = %s, %d, not %d", of(in, base), short(got), e, want)
	}
	holds(t, in, base)
}

// parsed is Parse of s, which has to be an address.
func parsed(t *testing.T, s string) *api.URL {
	t.Helper()
	u, e := url.Parse(s)
	if e != api.OK {
		t.Fatalf("P9.1: Parse(%.80q): %d", s, e)
	}
	return &u
}

func named(s string) api.Host { return api.Host{Kind: 1, Name: s} }
func text(s string) api.Host  { return api.Host{Kind: 4, Name: s} }
func bytesOf(c byte, n int) string {
	return strings.Repeat(string([]byte{c}), n)
}
