package mirror

import (
	"slices"

	"stillwater/api"
)

// letter: a message under way.
type letter struct {
	toOther bool // to the backup, not from it
	bytes   []byte
	garbled bool
}

// line: what is under way, either way, in the order in which it was sent.
type line struct{ underWay []letter }

// send a message; it is lost if too many are under way.
func (l *line) send(m letter) {
	if len(l.underWay) < api.MaxQueue {
		l.underWay = append(l.underWay, m)
	}
}

// take a message from the line; false: there is none.
func (l *line) take(at int) (letter, bool) {
	if len(l.underWay) == 0 {
		return letter{}, false
	}
	at = wrap(at, len(l.underWay))
	m := l.underWay[at]
	l.underWay = slices.Delete(l.underWay, at, at+1)
	return m, true
}

// double a message: the other one comes last, and has its bytes in common, which are never written into.
func (l *line) double(at int) {
	if len(l.underWay) > 0 {
		l.send(l.underWay[wrap(at, len(l.underWay))])
	}
}

// garble a byte of a message, once: a second one might make it whole again, or have a sum that fits.
func (l *line) garble(at, from int) {
	if len(l.underWay) == 0 {
		return
	}
	m := &l.underWay[wrap(at, len(l.underWay))]
	if m.garbled {
		return
	}
	m.bytes, m.garbled = slices.Clone(m.bytes), true
	m.bytes[wrap(from, len(m.bytes))]++
}

// wrap makes of any number one below many.
func wrap(x, many int) int {
	if x < 0 {
		x = -(x + 1)
	}
	return x % many
}
