package sf

import (
	"strings"

	"springhouse/api"
)

const (
	// mostDigits is of whole numbers; those of a decimal count ahead of its point and behind it together.
	mostDigits = 15
	// mostNumber is the greatest number of so many digits.
	mostNumber = 999_999_999_999_999
	// firstByte and lastByte are the bounds of what a Text may have.
	firstByte, lastByte = 0x20, 0x7E
	// tokenSigns and keySigns stand beside letters and digits.
	tokenSigns = "!#$%&'*+-.^_`|~:/"
	keySigns   = "_-.*"
)

// mayItems tells whether each of l, members of a list or of an inner one, may be.
func mayItems(l []Item) bool {
	return len(l) <= api.MaxItems && all(l, mayItem)
}

// mayEntries tells whether l may be a dictionary.
func mayEntries(l []Entry) bool {
	return mayNames(l, nameOfEntry) && all(l, func(e Entry) bool { return mayItem(e.Value) })
}

// mayItem tells whether x may be, inner list or not.
func mayItem(x Item) bool {
	params := mayNames(x.Params, nameOfParam) && all(x.Params, func(p Param) bool { return mayBare(p.Value) })
	if x.Inner {
		return params && sameBare(x.Value, Bare{}) && mayItems(x.Items) && all(x.Items, notInner)
	}
	return params && mayBare(x.Value) && len(x.Items) == 0
}

func notInner(x Item) bool { return !x.Inner }

// mayNames tells whether l is short enough, and its names are keys that differ.
func mayNames[T any](l []T, name func(T) string) bool {
	if len(l) > api.MaxItems {
		return false
	}
	times := map[string]int{}
	for _, x := range l {
		if !mayKey(name(x)) {
			return false
		}
		times[name(x)]++
	}
	return len(times) == len(l)
}

// mayBare tells whether b may be: what its Kind asks for, and nothing in the fields of other kinds.
func mayBare(b Bare) bool {
	rest := b
	good := false
	switch b.Kind {
	case Integer, Decimal, Date:
		rest.N, good = 0, -mostNumber <= b.N && b.N <= mostNumber
	case Text:
		rest.Text, good = "", allBytes(b.Text, inText)
	case Token:
		rest.Text, good = "", b.Text != "" && beginsToken(b.Text[0]) && allBytes(b.Text, inToken)
	case Bytes:
		rest.Bytes, good = nil, true
	case Bool:
		rest.Yes, good = false, true
	}
	return good && sameBare(rest, Bare{Kind: b.Kind})
}

func mayKey(name string) bool {
	return name != "" && beginsKey(name[0]) && allBytes(name, inKey)
}

func inText(b byte) bool { return firstByte <= b && b <= lastByte }

func beginsToken(b byte) bool { return isSmall(b) || isGreat(b) || b == '*' }

func inToken(b byte) bool {
	return isSmall(b) || isGreat(b) || isDigit(b) || strings.IndexByte(tokenSigns, b) >= 0
}

func beginsKey(b byte) bool { return isSmall(b) || b == '*' }

func inKey(b byte) bool {
	return isSmall(b) || isDigit(b) || strings.IndexByte(keySigns, b) >= 0
}

func isSmall(b byte) bool { return 'a' <= b && b <= 'z' }

func isGreat(b byte) bool { return 'A' <= b && b <= 'Z' }

func isDigit(b byte) bool { return '0' <= b && b <= '9' }

func allBytes(text string, good func(byte) bool) bool {
	for i := range len(text) {
		if !good(text[i]) {
			return false
		}
	}
	return true
}

func all[T any](l []T, good func(T) bool) bool {
	for _, x := range l {
		if !good(x) {
			return false
		}
	}
	return true
}
