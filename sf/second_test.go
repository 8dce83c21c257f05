package sf_test

import (
	"encoding/base64"
	"math/big"
	"regexp"
	"strings"

	"springhouse/api"
	"springhouse/sf"
)

// A second reading of the chapter: what may be read is one regular expression for each of the three, as the grammar of RFC 9651 has it, and only of what fits are values cut out, by smaller ones.

const (
	numberForm = `-?(?:[0-9]{1,12}\.[0-9]{1,3}|[0-9]{1,15})`
	textForm   = `"(?:[\x20\x21\x23-\x5B\x5D-\x7E]|\\\\|\\")*"`
	tokenForm  = "[A-Za-z*][-A-Za-z0-9!#$%&'*+.^_`|~:/]*"
	bytesForm  = `:(?:[A-Za-z0-9+/]{4})*(?:[A-Za-z0-9+/]{2}(?:==)?|[A-Za-z0-9+/]{3}=?)?:`
	boolForm   = `\?[01]`
	dateForm   = `@-?[0-9]{1,15}`
	bareForm   = `(?:` + numberForm + `|` + textForm + `|` + tokenForm + `|` + bytesForm + `|` + boolForm + `|` + dateForm + `)`
	keyForm    = `[a-z*][-a-z0-9_.*]*`
	paramsForm = `(?:; *` + keyForm + `(?:=` + bareForm + `)?)*`
	itemForm   = bareForm + paramsForm
	innerForm  = `\( *(?:` + itemForm + `(?: +` + itemForm + `)* *)?\)` + paramsForm
	memberForm = `(?:` + itemForm + `|` + innerForm + `)`
	entryForm  = keyForm + `(?:=` + memberForm + `|` + paramsForm + `)`
	commaForm  = `[ \t]*,[ \t]*`
)

// forms are the expressions, made once for a test.
type forms struct {
	item, list, dict                     *regexp.Regexp
	decimal, integer, text, token        *regexp.Regexp
	bytes, yes, no, date                 *regexp.Regexp
	key, semicolon, comma, blank, equals *regexp.Regexp
	open, shut                           *regexp.Regexp
}

func newForms() *forms {
	whole := func(form string) *regexp.Regexp { return regexp.MustCompile(`\A(?:` + form + `)\z`) }
	ahead := func(form string) *regexp.Regexp { return regexp.MustCompile(`\A(?:` + form + `)`) }
	return &forms{
		item:      whole(` *` + itemForm + ` *`),
		list:      whole(` *| *` + memberForm + `(?:` + commaForm + memberForm + `)*[ \t]*`),
		dict:      whole(` *| *` + entryForm + `(?:` + commaForm + entryForm + `)*[ \t]*`),
		decimal:   ahead(`-?[0-9]+\.[0-9]+`),
		integer:   ahead(`-?[0-9]+`),
		text:      ahead(textForm),
		token:     ahead(tokenForm),
		bytes:     ahead(`:[^:]*:`),
		yes:       ahead(`\?1`),
		no:        ahead(`\?0`),
		date:      ahead(`@-?[0-9]+`),
		key:       ahead(keyForm),
		semicolon: ahead(`; *`),
		comma:     ahead(commaForm),
		blank:     ahead(` *`),
		equals:    ahead(`=`),
		open:      ahead(`\(`),
		shut:      ahead(`\)`),
	}
}

// cutter cuts values off a text that is known to fit.
type cutter struct {
	*forms
	rest string
	full bool
}

// cut takes off what fits ahead, if it does.
func (c *cutter) cut(form *regexp.Regexp) (string, bool) {
	at := form.FindStringIndex(c.rest)
	if at == nil {
		return "", false
	}
	piece := c.rest[:at[1]]
	c.rest = c.rest[at[1]:]
	return piece, true
}

func (c *cutter) takes(form *regexp.Regexp) bool {
	_, ok := c.cut(form)
	return ok
}

func (c *cutter) bare() sf.Bare {
	if x, ok := c.cut(c.decimal); ok {
		n, _ := new(big.Rat).SetString(x)
		return sf.Bare{Kind: sf.Decimal, N: int(n.Mul(n, big.NewRat(1000, 1)).Num().Int64())}
	}
	if x, ok := c.cut(c.integer); ok {
		return sf.Bare{Kind: sf.Integer, N: wide(x)}
	}
	if x, ok := c.cut(c.text); ok {
		return sf.Bare{Kind: sf.Text, Text: strings.NewReplacer(`\\`, `\`, `\"`, `"`).Replace(x[1 : len(x)-1])}
	}
	if x, ok := c.cut(c.token); ok {
		return sf.Bare{Kind: sf.Token, Text: x}
	}
	if x, ok := c.cut(c.bytes); ok {
		b, e := base64.RawStdEncoding.DecodeString(strings.Trim(x, ":="))
		if e != nil {
			panic("the test itself: " + x)
		}
		return sf.Bare{Kind: sf.Bytes, Bytes: b}
	}
	if x, ok := c.cut(c.date); ok {
		return sf.Bare{Kind: sf.Date, N: wide(x[1:])}
	}
	if c.takes(c.yes) {
		return sf.Bare{Kind: sf.Bool, Yes: true}
	}
	if c.takes(c.no) {
		return sf.Bare{Kind: sf.Bool}
	}
	panic("the test itself: no bare value ahead")
}

func wide(digits string) int {
	n, _ := new(big.Int).SetString(digits, 10)
	return int(n.Int64())
}

func (c *cutter) params() []sf.Param {
	places := map[string]int{}
	var l []sf.Param
	for c.takes(c.semicolon) {
		name, _ := c.cut(c.key)
		value := sf.Bare{Kind: sf.Bool, Yes: true}
		if c.takes(c.equals) {
			value = c.bare()
		}
		at, again := places[name]
		if !again {
			at = len(l)
			places[name] = at
			l = append(l, sf.Param{Name: name})
		}
		l[at].Value = value
	}
	c.full = c.full || len(l) > 256
	return l
}

func (c *cutter) member() sf.Item {
	if !c.takes(c.open) {
		b := c.bare()
		return sf.Item{Value: b, Params: c.params()}
	}
	x := sf.Item{Inner: true}
	c.takes(c.blank)
	for !c.takes(c.shut) {
		b := c.bare()
		x.Items = append(x.Items, sf.Item{Value: b, Params: c.params()})
		c.takes(c.blank)
	}
	c.full = c.full || len(x.Items) > 256
	x.Params = c.params()
	return x
}

func (c *cutter) entry() sf.Entry {
	name, _ := c.cut(c.key)
	if c.takes(c.equals) {
		return sf.Entry{Name: name, Value: c.member()}
	}
	return sf.Entry{Name: name, Value: sf.Item{Value: sf.Bare{Kind: sf.Bool, Yes: true}, Params: c.params()}}
}

// secondItem, secondList and secondDict are the second reading. Where a text is none they say so, however many parts it has.

func secondItem(f *forms, s string) (sf.Item, api.Errno) {
	if len(s) > 4000 {
		return sf.Item{}, api.ErrLong
	}
	if !f.item.MatchString(s) {
		return sf.Item{}, api.ErrForm
	}
	c := &cutter{forms: f, rest: strings.Trim(s, " ")}
	x := c.member()
	if c.full {
		return sf.Item{}, api.ErrLimit
	}
	return x, api.OK
}

func secondList(f *forms, s string) ([]sf.Item, api.Errno) {
	if len(s) > 4000 {
		return nil, api.ErrLong
	}
	if !f.list.MatchString(s) {
		return nil, api.ErrForm
	}
	var l []sf.Item
	c := &cutter{forms: f, rest: strings.Trim(s, " \t")}
	for c.rest != "" {
		l = append(l, c.member())
		c.takes(c.comma)
	}
	if c.full || len(l) > 256 {
		return nil, api.ErrLimit
	}
	return l, api.OK
}

func secondDict(f *forms, s string) ([]sf.Entry, api.Errno) {
	if len(s) > 4000 {
		return nil, api.ErrLong
	}
	if !f.dict.MatchString(s) {
		return nil, api.ErrForm
	}
	places := map[string]int{}
	var l []sf.Entry
	c := &cutter{forms: f, rest: strings.Trim(s, " \t")}
	for c.rest != "" {
		x := c.entry()
		at, again := places[x.Name]
		if !again {
			at = len(l)
			places[x.Name] = at
			l = append(l, x)
		}
		l[at].Value = x.Value
		c.takes(c.comma)
	}
	if c.full || len(l) > 256 {
		return nil, api.ErrLimit
	}
	return l, api.OK
}

// A second telling, of what may be.

func secondBareText(b sf.Bare) string {
	switch b.Kind {
	case sf.Integer:
		return big.NewInt(int64(b.N)).String()
	case sf.Decimal:
		s := strings.TrimRight(big.NewRat(int64(b.N), 1000).FloatString(3), "0")
		if strings.HasSuffix(s, ".") {
			s += "0"
		}
		return s
	case sf.Text:
		return `"` + strings.ReplaceAll(strings.ReplaceAll(b.Text, `\`, `\\`), `"`, `\"`) + `"`
	case sf.Token:
		return b.Text
	case sf.Bytes:
		return ":" + base64.StdEncoding.EncodeToString(b.Bytes) + ":"
	case sf.Bool:
		return map[bool]string{true: "?1", false: "?0"}[b.Yes]
	}
	return "@" + big.NewInt(int64(b.N)).String()
}

func secondParamsText(l []sf.Param) string {
	s := ""
	for _, p := range l {
		s += strings.TrimSuffix(";"+p.Name+"="+secondBareText(p.Value), "=?1")
	}
	return s
}

func secondItemText(x sf.Item) string {
	if !x.Inner {
		return secondBareText(x.Value) + secondParamsText(x.Params)
	}
	var pieces []string
	for _, y := range x.Items {
		pieces = append(pieces, secondItemText(y))
	}
	return "(" + strings.Join(pieces, " ") + ")" + secondParamsText(x.Params)
}

func secondListText(l []sf.Item) string {
	var pieces []string
	for _, x := range l {
		pieces = append(pieces, secondItemText(x))
	}
	return strings.Join(pieces, ", ")
}

func secondDictText(l []sf.Entry) string {
	var pieces []string
	for _, x := range l {
		piece := x.Name + "=" + secondItemText(x.Value)
		if rest, yes := strings.CutPrefix(piece, x.Name+"=?1"); yes {
			piece = x.Name + rest
		}
		pieces = append(pieces, piece)
	}
	return strings.Join(pieces, ", ")
}
