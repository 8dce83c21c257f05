package sf_test

import (
	"math/rand"
	"strings"

	"springhouse/sf"
)

// maker makes random things that may be.
type maker struct{ *rand.Rand }

// pick tells up to most signs of set.
func (m maker) pick(set string, most int) string {
	s := ""
	for range m.Intn(most + 1) {
		i := m.Intn(len(set))
		s += set[i : i+1]
	}
	return s
}

// number tells numbers of all lengths, up to the bounds.
func (m maker) number() int {
	n := 1
	for range m.Intn(16) {
		n *= 10
	}
	n = m.Intn(n)
	switch m.Intn(8) {
	case 0:
		n = 999999999999999
	case 1:
		n = n / 1000 * 1000
	}
	if m.Intn(2) == 0 {
		return -n
	}
	return n
}

func (m maker) bare() sf.Bare {
	switch m.Intn(7) {
	case 0:
		return integer(m.number())
	case 1:
		return decimal(m.number())
	case 2:
		b := make([]byte, m.Intn(8))
		for i := range b {
			b[i] = byte(0x20 + m.Intn(0x5F))
		}
		return text(string(b) + m.pick(`"\`, 3))
	case 3:
		return token(string("azAZ*"[m.Intn(5)]) + m.pick("azAZ09!#$%&'*+-.^_`|~:/", 6))
	case 4:
		b := make([]byte, m.Intn(9))
		m.Read(b)
		return binary(b...)
	case 5:
		return truth(m.Intn(2) == 0)
	}
	return date(m.number())
}

func (m maker) key() string { return string("abz*"[m.Intn(4)]) + m.pick("abz019_-.*", 2) }

func (m maker) params() []sf.Param {
	var l []sf.Param
	times := map[string]int{}
	for range max(0, m.Intn(6)-2) {
		name := m.key()
		if times[name]++; times[name] == 1 {
			l = append(l, param(name, m.bare()))
		}
	}
	return l
}

func (m maker) item(mayInner bool) sf.Item {
	if mayInner && m.Intn(3) == 0 {
		var l []sf.Item
		for range m.Intn(4) {
			l = append(l, m.item(false))
		}
		return inner(l, m.params()...)
	}
	return item(m.bare(), m.params()...)
}

func (m maker) list() []sf.Item {
	var l []sf.Item
	for range m.Intn(5) {
		l = append(l, m.item(true))
	}
	return l
}

func (m maker) dict() []sf.Entry {
	var l []sf.Entry
	times := map[string]int{}
	for range m.Intn(5) {
		name := m.key()
		if times[name]++; times[name] == 1 {
			l = append(l, entry(name, m.item(true)))
		}
	}
	return l
}

// loose puts blanks and tabs into s where they may stand, if that is not within a Text, which does no harm.
func (m maker) loose(s string) string {
	return m.pick(" ", 1) + strings.NewReplacer(", ", m.pick(" \t", 2)+","+m.pick(" \t", 2), ";", ";"+m.pick(" ", 1), "(", "("+m.pick(" ", 1), ")", m.pick(" ", 1)+")").Replace(s) + m.pick(" ", 1)
}
