package url

import (
	"slices"
	"strings"

	"springhouse/api"
	"springhouse/host"
	"springhouse/pct"
	"springhouse/utf"
)

// state is what the reader is about to read.
type state int

const (
	stateBegin state = iota
	stateScheme
	stateNoScheme
	stateSlashOrRelative
	stateSlash
	stateRelative
	stateRelativeSlash
	stateSlashes
	stateSkipSlashes
	stateAuthority
	stateHost
	statePort
	stateStart
	statePath
	stateDark
	stateQuery
	stateFragment
	stateDone
)

const (
	// end stands behind the last sign.
	end   = -1
	blank = ' '
	// leftOut is the one scheme that browsers read by rules of its own.
	leftOut  = "file"
	mostPort = 65535
)

// reader is the machine: it goes through the text, one state after the other, and puts together an address.
type reader struct {
	text    []int
	at      int
	base    api.URL
	hasBase bool
	u       api.URL
	// buf has the signs that are read, but not yet told apart.
	buf []int
	// user and pass are filled from one sign `@` to the next, as only the last of them ends the user.
	user, pass                    []int
	seenAt, seenColon, inBrackets bool
}

// move is what a state answers: the next state, and by how many signs the reader goes on; or an error.
type move struct {
	to state
	by int
	e  api.Errno
}

func on(to state) move         { return move{to: to, by: 1} }
func onOverNext(to state) move { return move{to: to, by: 2} }
func again(to state) move      { return move{to: to} }
func fail(e api.Errno) move    { return move{e: e} }

// read tells the address that in is, by a reader with a base or without one.
func read(in string, r reader) (api.URL, api.Errno) {
	if len(in) > api.MaxText {
		return api.URL{}, api.ErrLong
	}
	r.text = signs(in)
	r.u.Port = noPort
	if e := r.run(); e != api.OK {
		return api.URL{}, e
	}
	if len(r.u.Path) > api.MaxItems {
		return api.URL{}, api.ErrLimit
	}
	return r.u, api.OK
}

// signs tells those of in that count. Only blanks at its ends go, but ends of lines and tabs go everywhere.
func signs(in string) []int {
	l := utf.Lossy([]byte(in))
	for len(l) > 0 && l[0] <= blank {
		l = l[1:]
	}
	for len(l) > 0 && l[len(l)-1] <= blank {
		l = l[:len(l)-1]
	}
	return slices.DeleteFunc(l, func(c int) bool { return c == '\t' || c == '\n' || c == '\r' })
}

func (r *reader) run() api.Errno {
	for s := stateBegin; s != stateDone; {
		m := r.step(s, r.sign(r.at))
		if m.e != api.OK {
			return m.e
		}
		s = m.to
		r.at += m.by
	}
	return api.OK
}

func (r *reader) step(s state, c int) move {
	switch s {
	case stateBegin:
		return r.begin(c)
	case stateScheme:
		return r.scheme(c)
	case stateNoScheme:
		return r.noScheme(c)
	case stateSlashOrRelative:
		return r.slashOrRelative(c)
	case stateSlash:
		return r.slash(c)
	case stateRelative:
		return r.relative(c)
	case stateRelativeSlash:
		return r.relativeSlash(c)
	case stateSlashes:
		return r.slashes(c)
	case stateSkipSlashes:
		return r.skipSlashes(c)
	case stateAuthority:
		return r.authority(c)
	case stateHost:
		return r.host(c)
	case statePort:
		return r.port(c)
	case stateStart:
		return r.start(c)
	case statePath:
		return r.path(c)
	case stateDark:
		return r.dark(c)
	case stateQuery:
		return r.query(c)
	}
	return r.fragment(c)
}

func (r *reader) begin(c int) move {
	if !letter(c) {
		return again(stateNoScheme)
	}
	r.buf = append(r.buf, small(c))
	return on(stateScheme)
}

func (r *reader) scheme(c int) move {
	switch {
	case letter(c) || digit(c) || c == '+' || c == '-' || c == '.':
		r.buf = append(r.buf, small(c))
		return on(stateScheme)
	case c == ':':
		r.u.Scheme = utf.Text(r.take())
		return r.behindScheme()
	}
	r.take()
	r.at = 0
	return again(stateNoScheme)
}

// behindScheme chooses how to read on, from the sign that ends the scheme.
func (r *reader) behindScheme() move {
	switch {
	case r.u.Scheme == leftOut:
		return fail(api.ErrForm)
	case r.special() && r.hasBase && r.base.Scheme == r.u.Scheme:
		return on(stateSlashOrRelative)
	case r.special():
		return on(stateSlashes)
	case r.next() == '/':
		return onOverNext(stateSlash)
	}
	r.u.Dark = true
	return on(stateDark)
}

func (r *reader) noScheme(c int) move {
	switch {
	case !r.hasBase || r.base.Dark && c != '#':
		return fail(api.ErrForm)
	case r.base.Dark:
		r.u = r.base
		return r.leavePath(c)
	}
	return again(stateRelative)
}

func (r *reader) slashOrRelative(c int) move {
	if c == '/' && r.next() == '/' {
		return onOverNext(stateSkipSlashes)
	}
	return again(stateRelative)
}

func (r *reader) slash(c int) move {
	if c == '/' {
		return on(stateAuthority)
	}
	return again(statePath)
}

func (r *reader) relative(c int) move {
	r.u.Scheme = r.base.Scheme
	if r.isSlash(c) {
		return on(stateRelativeSlash)
	}
	r.takeAuthority()
	r.u.Path = r.base.Path
	r.u.HasQuery, r.u.Query = r.base.HasQuery, r.base.Query
	if endsPath(c) {
		return r.leavePath(c)
	}
	r.u.HasQuery, r.u.Query = false, ""
	r.shorten()
	return again(statePath)
}

func (r *reader) relativeSlash(c int) move {
	switch {
	case r.special() && r.isSlash(c):
		return on(stateSkipSlashes)
	case c == '/':
		return on(stateAuthority)
	}
	r.takeAuthority()
	return again(statePath)
}

func (r *reader) slashes(c int) move {
	if c == '/' && r.next() == '/' {
		return onOverNext(stateSkipSlashes)
	}
	return again(stateSkipSlashes)
}

func (r *reader) skipSlashes(c int) move {
	if c == '/' || c == '\\' {
		return on(stateSkipSlashes)
	}
	return again(stateAuthority)
}

func (r *reader) authority(c int) move {
	switch {
	case c == '@':
		r.takeCredentials()
		return on(stateAuthority)
	case !r.endsAuthority(c):
		r.buf = append(r.buf, c)
		return on(stateAuthority)
	case r.seenAt && len(r.buf) == 0:
		return fail(api.ErrNone)
	}
	r.u.User, r.u.Pass = encode(pct.User, r.user), encode(pct.User, r.pass)
	// Behind the last sign `@` no user stands: it is the host, which is read once more.
	r.at -= len(r.take())
	return again(stateHost)
}

// takeCredentials adds what is read to User and Pass; of several signs `@` all but the last are their own.
func (r *reader) takeCredentials() {
	if r.seenAt {
		r.addCredential('@')
	}
	r.seenAt = true
	for _, c := range r.take() {
		if c == ':' && !r.seenColon {
			r.seenColon = true
			continue
		}
		r.addCredential(c)
	}
}

func (r *reader) addCredential(c int) {
	if r.seenColon {
		r.pass = append(r.pass, c)
		return
	}
	r.user = append(r.user, c)
}

func (r *reader) host(c int) move {
	switch {
	case c == ':' && !r.inBrackets:
		return r.leaveHost(on(statePort), false)
	case r.endsAuthority(c):
		return r.leaveHost(again(stateStart), !r.special())
	case c == '[':
		r.inBrackets = true
	case c == ']':
		r.inBrackets = false
	}
	r.buf = append(r.buf, c)
	return on(stateHost)
}

// leaveHost reads the Host, which may be empty or not, and then does m.
func (r *reader) leaveHost(m move, mayBeEmpty bool) move {
	if len(r.buf) == 0 && !mayBeEmpty {
		return fail(api.ErrNone)
	}
	h, e := host.Parse(utf.Text(r.take()), r.special())
	if e != api.OK {
		return fail(e)
	}
	r.u.HasHost, r.u.Host = true, h
	return m
}

func (r *reader) port(c int) move {
	switch {
	case digit(c):
		r.buf = append(r.buf, c)
		return on(statePort)
	case !r.endsAuthority(c):
		return fail(api.ErrForm)
	case len(r.buf) == 0:
		return again(stateStart)
	}
	n := portNumber(r.take())
	if n > mostPort {
		return fail(api.ErrRange)
	}
	// A scheme that is not special has no port of its own, so that its port 0 stays.
	if !r.special() || n != Special(r.u.Scheme) {
		r.u.Port = n
	}
	return again(stateStart)
}

func (r *reader) start(c int) move {
	switch {
	case r.isSlash(c):
		return on(statePath)
	case !r.special() && endsPath(c):
		return r.leavePath(c)
	}
	return again(statePath)
}

func (r *reader) path(c int) move {
	if !r.isSlash(c) && !endsPath(c) {
		r.buf = append(r.buf, c)
		return on(statePath)
	}
	r.addPiece(encode(pct.Path, r.take()), r.isSlash(c))
	if endsPath(c) {
		return r.leavePath(c)
	}
	return on(statePath)
}

// addPiece adds a piece to Path, or goes the way that its dots tell; without a slash behind them they leave an empty one.
func (r *reader) addPiece(piece string, slashBehind bool) {
	switch plainDots(piece) {
	case "..":
		r.shorten()
	case ".":
	default:
		r.u.Path = append(r.u.Path, piece)
		return
	}
	if !slashBehind {
		r.u.Path = append(r.u.Path, "")
	}
}

func (r *reader) dark(c int) move {
	if !endsPath(c) {
		r.buf = append(r.buf, c)
		return on(stateDark)
	}
	r.u.Text = encode(pct.C0, r.take())
	return r.leavePath(c)
}

func (r *reader) query(c int) move {
	if c != '#' && c != end {
		r.buf = append(r.buf, c)
		return on(stateQuery)
	}
	set := pct.Query
	if r.special() {
		set = pct.Special
	}
	r.u.Query = encode(set, r.take())
	return r.leavePath(c)
}

func (r *reader) fragment(c int) move {
	if c != end {
		r.buf = append(r.buf, c)
		return on(stateFragment)
	}
	r.u.Fragment = encode(pct.Fragment, r.take())
	return on(stateDone)
}

// leavePath goes on to what the sign c opens, one of those that end a path; a Query that is there ends the same way.
func (r *reader) leavePath(c int) move {
	switch c {
	case '?':
		r.u.HasQuery, r.u.Query = true, ""
		return on(stateQuery)
	case '#':
		r.u.HasFragment, r.u.Fragment = true, ""
		return on(stateFragment)
	}
	return on(stateDone)
}

func (r *reader) takeAuthority() {
	r.u.User, r.u.Pass = r.base.User, r.base.Pass
	r.u.HasHost, r.u.Host, r.u.Port = r.base.HasHost, r.base.Host, r.base.Port
}

// shorten takes the last piece of Path away, if there is one.
func (r *reader) shorten() {
	r.u.Path = r.u.Path[:max(len(r.u.Path)-1, 0)]
}

// take tells buf, and empties it.
func (r *reader) take() []int {
	l := r.buf
	r.buf = nil
	return l
}

func (r *reader) sign(at int) int {
	if at >= len(r.text) {
		return end
	}
	return r.text[at]
}

func (r *reader) next() int { return r.sign(r.at + 1) }

func (r *reader) special() bool { return Special(r.u.Scheme) != 0 }

func (r *reader) isSlash(c int) bool { return c == '/' || c == '\\' && r.special() }

func (r *reader) endsAuthority(c int) bool { return endsPath(c) || r.isSlash(c) }

func endsPath(c int) bool { return c == end || c == '?' || c == '#' }

func encode(set int, l []int) string { return pct.Encode(set, []byte(utf.Text(l))) }

// plainDots tells piece with each dot that percent signs tell in its place.
func plainDots(piece string) string {
	return strings.ReplaceAll(strings.ReplaceAll(piece, "%2e", "."), "%2E", ".")
}

// portNumber tells the number of digits, or one above mostPort of all that are: so nothing wraps.
func portNumber(digits []int) int {
	n := 0
	for _, c := range digits {
		n = min(n*10+c-'0', mostPort+1)
	}
	return n
}

func letter(c int) bool { return 'a' <= small(c) && small(c) <= 'z' }

func digit(c int) bool { return '0' <= c && c <= '9' }

func small(c int) int {
	if 'A' <= c && c <= 'Z' {
		return c - 'A' + 'a'
	}
	return c
}
