package sf

import (
	"strconv"
	"strings"

	"springhouse/api"
)

const (
	// blanks may stand at both ends, behind `;` and in inner lists; spaces around `,`.
	blanks = " "
	spaces = " \t"
	// mostAhead and mostBehind are how many digits a decimal may have on either side of its point.
	mostAhead  = 12
	mostBehind = 3
)

// reader goes on through a text, each of its methods from where the one before stopped. Where one says ErrForm, at stands where that was seen.
type reader struct {
	text string
	at   int
}

// parse reads all of s by read, with blanks at both ends.
func parse[T any](s string, read func(*reader) (T, api.Errno)) (T, int, api.Errno) {
	var nothing T
	if len(s) > api.MaxText {
		return nothing, 0, api.ErrLong
	}
	r := &reader{text: s}
	r.skip(blanks)
	answer, e := read(r)
	if e == api.OK {
		e = r.end()
	}
	switch e {
	case api.OK:
		return answer, 0, api.OK
	case api.ErrForm:
		return nothing, r.at, api.ErrForm
	}
	return nothing, 0, e
}

// end reads blanks up to the end of the text.
func (r *reader) end() api.Errno {
	r.skip(blanks)
	if !r.ended() {
		return api.ErrForm
	}
	return api.OK
}

// list reads the members of a list.
func (r *reader) list() ([]Item, api.Errno) {
	var l []Item
	e := r.members(func() api.Errno {
		x, e := r.member()
		if e == api.OK {
			l, e = add(l, x)
		}
		return e
	})
	return l, e
}

// dict reads the members of a dictionary.
func (r *reader) dict() ([]Entry, api.Errno) {
	var l []Entry
	e := r.members(func() api.Errno {
		x, e := r.entry()
		if e == api.OK {
			l, e = put(l, x, nameOfEntry)
		}
		return e
	})
	return l, e
}

// members reads up to the end of the text what stands between commas, a member by each call of one. No member is empty, so that one finds none behind a `,` at the end.
func (r *reader) members(one func() api.Errno) api.Errno {
	if r.ended() {
		return api.OK
	}
	for {
		if e := one(); e != api.OK {
			return e
		}
		r.skip(spaces)
		if r.ended() {
			return api.OK
		}
		if !r.takes(',') {
			return api.ErrForm
		}
		r.skip(spaces)
	}
}

// entry reads a member of a dictionary. Without `=` it is a true Bool, by its Params alone.
func (r *reader) entry() (Entry, api.Errno) {
	name, e := r.key()
	if e != api.OK {
		return Entry{}, e
	}
	if r.takes('=') {
		x, e := r.member()
		return Entry{name, x}, e
	}
	params, e := r.params()
	return Entry{name, Item{Value: yes(), Params: params}}, e
}

// member reads an inner list or an item.
func (r *reader) member() (Item, api.Errno) {
	if r.takes('(') {
		return r.inner()
	}
	return r.item()
}

// inner reads an inner list behind its `(`.
func (r *reader) inner() (Item, api.Errno) {
	x := Item{Inner: true}
	for {
		r.skip(blanks)
		if r.takes(')') {
			params, e := r.params()
			x.Params = params
			return x, e
		}
		y, e := r.item()
		if e == api.OK {
			x.Items, e = add(x.Items, y)
		}
		if e != api.OK {
			return Item{}, e
		}
		if !r.sees(' ') && !r.sees(')') {
			return Item{}, api.ErrForm
		}
	}
}

// item reads a bare value and its Params.
func (r *reader) item() (Item, api.Errno) {
	b, e := r.bare()
	if e != api.OK {
		return Item{}, e
	}
	params, e := r.params()
	return Item{Value: b, Params: params}, e
}

// params reads what begins with `;`, as long as it comes.
func (r *reader) params() ([]Param, api.Errno) {
	var l []Param
	for r.takes(';') {
		r.skip(blanks)
		p, e := r.param()
		if e == api.OK {
			l, e = put(l, p, nameOfParam)
		}
		if e != api.OK {
			return nil, e
		}
	}
	return l, api.OK
}

// param reads a key, and its value behind `=`. Without one it is a true Bool.
func (r *reader) param() (Param, api.Errno) {
	name, e := r.key()
	if e != api.OK || !r.takes('=') {
		return Param{name, yes()}, e
	}
	b, e := r.bare()
	return Param{name, b}, e
}

func (r *reader) key() (string, api.Errno) {
	if r.ended() || !beginsKey(r.text[r.at]) {
		return "", api.ErrForm
	}
	return r.while(inKey), api.OK
}

// bare reads a bare value, whose first byte tells its Kind.
func (r *reader) bare() (Bare, api.Errno) {
	switch {
	case r.takes('"'):
		return r.quoted()
	case r.takes(':'):
		return r.base64()
	case r.takes('?'):
		return r.truth()
	case r.takes('@'):
		return r.date()
	case !r.ended() && beginsToken(r.text[r.at]):
		return Bare{Kind: Token, Text: r.while(inToken)}, api.OK
	}
	return r.number()
}

// number reads an Integer or a Decimal. Digits count, whatever they are: zeros ahead too.
func (r *reader) number() (Bare, api.Errno) {
	minus := r.takes('-')
	ahead := r.while(isDigit)
	if ahead == "" || len(ahead) > mostDigits {
		return Bare{}, api.ErrForm
	}
	if !r.takes('.') {
		return Bare{Kind: Integer, N: signed(ahead, minus)}, api.OK
	}
	behind := r.while(isDigit)
	if len(ahead) > mostAhead || behind == "" || len(behind) > mostBehind {
		return Bare{}, api.ErrForm
	}
	thousandths := ahead + behind + strings.Repeat("0", mostBehind-len(behind))
	return Bare{Kind: Decimal, N: signed(thousandths, minus)}, api.OK
}

// signed tells the number of digits, of which there are not too many for an int.
func signed(digits string, minus bool) int {
	n, _ := strconv.Atoi(digits)
	if minus {
		return -n
	}
	return n
}

// date reads a Date behind its `@`.
func (r *reader) date() (Bare, api.Errno) {
	b, e := r.number()
	if e != api.OK || b.Kind != Integer {
		return Bare{}, api.ErrForm
	}
	return Bare{Kind: Date, N: b.N}, api.OK
}

// truth reads a Bool behind its `?`.
func (r *reader) truth() (Bare, api.Errno) {
	switch {
	case r.takes('1'):
		return yes(), api.OK
	case r.takes('0'):
		return Bare{Kind: Bool}, api.OK
	}
	return Bare{}, api.ErrForm
}

// quoted reads a Text behind its first `"`.
func (r *reader) quoted() (Bare, api.Errno) {
	var text []byte
	for !r.takes('"') {
		escaped := r.takes('\\')
		if r.ended() || !inText(r.text[r.at]) {
			return Bare{}, api.ErrForm
		}
		if escaped && !r.sees('"') && !r.sees('\\') {
			return Bare{}, api.ErrForm
		}
		text = append(text, r.text[r.at])
		r.at++
	}
	return Bare{Kind: Text, Text: string(text)}, api.OK
}

// base64 reads Bytes behind their first `:`.
func (r *reader) base64() (Bare, api.Errno) {
	b, good := decode64(r.while(in64))
	if !good || !r.takes(':') {
		return Bare{}, api.ErrForm
	}
	return Bare{Kind: Bytes, Bytes: b}, api.OK
}

func (r *reader) ended() bool { return r.at == len(r.text) }

// sees tells whether b comes next.
func (r *reader) sees(b byte) bool { return !r.ended() && r.text[r.at] == b }

// takes goes on by one byte, if it is b.
func (r *reader) takes(b byte) bool {
	sees := r.sees(b)
	if sees {
		r.at++
	}
	return sees
}

// skip goes on as long as bytes of set come.
func (r *reader) skip(set string) {
	r.at = len(r.text) - len(strings.TrimLeft(r.text[r.at:], set))
}

// while goes on as long as good bytes come, and tells them as a text of its own.
func (r *reader) while(good func(byte) bool) string {
	from := r.at
	for !r.ended() && good(r.text[r.at]) {
		r.at++
	}
	return strings.Clone(r.text[from:r.at])
}

func yes() Bare { return Bare{Kind: Bool, Yes: true} }

// put lays x where one of its name stands in l, and else adds it.
func put[T any](l []T, x T, name func(T) string) ([]T, api.Errno) {
	for i := range l {
		if name(l[i]) == name(x) {
			l[i] = x
			return l, api.OK
		}
	}
	return add(l, x)
}

// add tells l with x behind it, unless l is full.
func add[T any](l []T, x T) ([]T, api.Errno) {
	if len(l) == api.MaxItems {
		return nil, api.ErrLimit
	}
	return append(l, x), api.OK
}
