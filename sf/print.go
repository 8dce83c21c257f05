package sf

import (
	"strconv"
	"strings"
)

// writeAll writes each of l by one, with between in between.
func writeAll[T any](w *strings.Builder, l []T, between string, one func(*strings.Builder, T)) {
	for i, x := range l {
		if i > 0 {
			w.WriteString(between)
		}
		one(w, x)
	}
}

// writeEntry writes a member of a dictionary. A true Bool is told by its key and its Params alone.
func writeEntry(w *strings.Builder, x Entry) {
	w.WriteString(x.Name)
	if isYes(x.Value.Value) {
		writeParams(w, x.Value.Params)
		return
	}
	w.WriteByte('=')
	writeItem(w, x.Value)
}

func writeItem(w *strings.Builder, x Item) {
	if x.Inner {
		w.WriteByte('(')
		writeAll(w, x.Items, " ", writeItem)
		w.WriteByte(')')
	} else {
		writeBare(w, x.Value)
	}
	writeParams(w, x.Params)
}

func writeParams(w *strings.Builder, l []Param) {
	for _, p := range l {
		w.WriteByte(';')
		w.WriteString(p.Name)
		if !isYes(p.Value) {
			w.WriteByte('=')
			writeBare(w, p.Value)
		}
	}
}

func writeBare(w *strings.Builder, b Bare) {
	switch b.Kind {
	case Integer:
		w.WriteString(strconv.Itoa(b.N))
	case Decimal:
		writeDecimal(w, b.N)
	case Text:
		writeQuoted(w, b.Text)
	case Token:
		w.WriteString(b.Text)
	case Bytes:
		w.WriteString(":" + encode64(b.Bytes) + ":")
	case Bool:
		writeBool(w, b.Yes)
	case Date:
		w.WriteString("@" + strconv.Itoa(b.N))
	}
}

// writeDecimal writes thousandths. Their sign is told apart, as it would be lost of those between -1000 and 0.
func writeDecimal(w *strings.Builder, thousandths int) {
	if thousandths < 0 {
		w.WriteByte('-')
		thousandths = -thousandths
	}
	const one = 1000
	w.WriteString(strconv.Itoa(thousandths / one))
	// With one ahead of them the digits behind the point keep their zeros.
	behind := strconv.Itoa(one + thousandths%one)[1:]
	w.WriteString("." + behind[:1] + strings.TrimRight(behind[1:], "0"))
}

func writeQuoted(w *strings.Builder, text string) {
	w.WriteByte('"')
	for i := range len(text) {
		if text[i] == '"' || text[i] == '\\' {
			w.WriteByte('\\')
		}
		w.WriteByte(text[i])
	}
	w.WriteByte('"')
}

func writeBool(w *strings.Builder, isTrue bool) {
	if isTrue {
		w.WriteString("?1")
	} else {
		w.WriteString("?0")
	}
}

func isYes(b Bare) bool { return b.Kind == Bool && b.Yes }
