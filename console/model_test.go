package console_test

import (
	"fmt"
	"regexp"
	"slices"
	"strings"
	"testing"

	"stillwater/api"
	"stillwater/console"
)

// die: numbers that look drawn, the same each time.
type die uint64

func (d *die) n(most int) int {
	*d = *d*6364136223846793005 + 1442695040888963407
	return int(uint64(*d>>33) % uint64(most))
}

func pick(d *die, words ...string) string { return words[d.n(len(words))] }

// digest of bytes, and of the tree over blocks, by the words of the document alone.
func digest(b []byte) uint64 {
	d := uint64(14695981039346656037)
	for _, c := range b {
		d = (d ^ uint64(c)) * 1099511628211
	}
	return d
}

func topOf(blocks []api.Block) uint64 {
	var level []uint64
	for _, b := range blocks {
		level = append(level, digest(append([]byte{0}, b[:]...)))
	}
	for len(level) > 1 {
		var next []uint64
		for few := range slices.Chunk(level, 4) {
			bytes := []byte{1}
			for _, x := range few {
				for i := range 8 {
					bytes = append(bytes, byte(x>>(56-8*i)))
				}
			}
			next = append(next, digest(bytes))
		}
		level = next
	}
	return level[0]
}

// model: a session by what clients see alone. The line and the backup show nowhere: in the end the backup is the last snapshot.
type model struct {
	now, last   []api.Block
	have, deeds int
}

var (
	numberForm = regexp.MustCompile(`^(0|[1-9][0-9]{0,5})$`)
	blockForm  = regexp.MustCompile(`^[0-9a-f]{16}$`)
	placeForm  = regexp.MustCompile(`^(new|write|trim|read|deliver|lose|double)$`)
	blocksForm = regexp.MustCompile(`^(write|trim|read)$`)
	behind     = map[string]int{"new": 1, "write": 2, "trim": 1, "read": 1, "barrier": 0, "tick": 0, "deliver": 1, "lose": 1, "double": 1, "crash": 1, "settle": 0, "plan": 0}
)

func wanted(text string) string {
	if len(text) > 4000 {
		return "too long\n"
	}
	lines := strings.Split(text, "\n")
	if lines[len(lines)-1] == "" {
		lines = lines[:len(lines)-1]
	}
	all, m := "", model{}
	for _, l := range lines {
		all += m.answer(l) + "\n"
	}
	return all
}

func (m *model) answer(line string) string {
	words := strings.Split(line, " ")
	many, ok := behind[words[0]]
	if !ok || len(words) != 1+many {
		return "bad"
	}
	at, data := 0, api.Block{}
	if placeForm.MatchString(words[0]) {
		if !numberForm.MatchString(words[1]) {
			return "error 3"
		}
		fmt.Sscan(words[1], &at)
	}
	if words[0] == "write" {
		if !blockForm.MatchString(words[2]) {
			return "error 3"
		}
		for i := range data {
			fmt.Sscanf(words[2][2*i:], "%2x", &data[i])
		}
	}
	switch words[0] {
	case "crash":
		if words[1] != "first" && words[1] != "other" {
			return "error 3"
		}
	case "new":
		if at < 1 || at > 32 {
			return "error 1"
		}
		*m = model{now: make([]api.Block, at), last: make([]api.Block, at)}
		return "ok"
	}
	if m.now == nil {
		return "error 5"
	}
	switch words[0] {
	case "settle":
		return fmt.Sprint(m.have, topOf(m.last))
	case "plan":
		return m.plan()
	}
	return m.deed(words, at, data)
}

func (m *model) deed(words []string, at int, data api.Block) string {
	if m.deeds == 300 {
		return "error 2"
	}
	if blocksForm.MatchString(words[0]) && at >= len(m.now) {
		return "error 1"
	}
	m.deeds++
	switch words[0] {
	case "write", "trim":
		m.now[at] = data
	case "read":
		return fmt.Sprintf("%x", m.now[at])
	case "barrier":
		m.have, m.last = m.have+1, slices.Clone(m.now)
	case "crash":
		if words[1] == "first" {
			m.now = slices.Clone(m.last)
		}
	}
	return fmt.Sprint(m.have)
}

func (m *model) plan() string {
	if m.deeds == 300 {
		return "error 2"
	}
	var packets []string
	for at, b := range m.now {
		from := slices.Index(m.last, b)
		switch {
		case b == m.last[at]:
		case b == api.Block{}:
			packets = append(packets, fmt.Sprint(at, 0, 0))
		case from >= 0:
			packets = append(packets, fmt.Sprint(at, 1, from))
		default:
			packets = append(packets, fmt.Sprintf("%d 3 0 %x", at, b))
		}
	}
	return strings.Join(packets, "|")
}

// asTheModel says is what Session must say of a text.
func asTheModel(t *testing.T, text string) {
	t.Helper()
	got, want := console.Session(text), wanted(text)
	if got == want {
		return
	}
	lines, gots, wants := strings.Split(text, "\n"), strings.Split(got, "\n"), strings.Split(want, "\n")
	for i := range min(len(gots), len(wants), len(lines)) {
		if gots[i] != wants[i] {
			t.Fatalf("Q1: %q: line %d, %q: %q; wanted is %q", text, i, lines[i], gots[i], wants[i])
		}
	}
	t.Fatalf("Q1: %q: %q; wanted is %q", text, got, want)
}

func hexBlock(d *die) string {
	switch d.n(4) {
	case 0:
		return fmt.Sprintf("%08x%08x", d.n(1<<31), d.n(1<<31))
	case 1:
		return "0000000000000000"
	}
	return pick(d, "0000000000000001", "0100000000000000", "abcdef0123456789")
}

// someLine: a line of the table, for a device of n blocks; of `odd` lines about one has a word that is wrong.
func someLine(d *die, n, odd int) string {
	at, data := fmt.Sprint(d.n(n)), hexBlock(d)
	whom := pick(d, "first", "other", "other")
	if d.n(odd) == 0 {
		at = pick(d, "", "00", "01", "x", "-1", "1000000", "999999", "32", fmt.Sprint(n), "1\t", "0x1")
	}
	if d.n(odd) == 0 {
		data = pick(d, "", "0", data[1:], data+"0", "ABCDEF0123456789", data[1:]+"g", data[1:]+"\x00", "0x"+data[2:])
	}
	if d.n(odd) == 0 {
		whom = pick(d, "", "both", "First", "1", "firs", "others")
	}
	write := "write " + at + " " + data
	l := pick(d, write, write, write, write, "trim "+at, "trim "+at, "read "+at, "read "+at, "barrier", "tick", "tick", "deliver "+at, "deliver "+at, "lose "+at, "double "+at, "crash "+whom, "settle", "plan", "plan")
	if d.n(odd) == 0 {
		l = pick(d, l+" ", " "+l, l+" 0", strings.ToUpper(l), "", " ", "new", "what", "garble 0", strings.Replace(l, " ", "  ", 1), "new "+at, l+"\r")
	}
	return l
}

func TestMixedSessions(t *testing.T) {
	d := die(201)
	for i := range 400 {
		n := 1 + d.n(32)
		odd := []int{3, 12, 1000}[i%3]
		text := ""
		if d.n(8) > 0 {
			text = fmt.Sprintf("new %d\n", n)
		}
		for range d.n(50) {
			text += someLine(&d, min(n, 6), odd) + "\n"
		}
		if d.n(3) == 0 {
			text = strings.TrimSuffix(text, "\n")
		}
		asTheModel(t, text)
	}
}

// TestLongSessions: as many bytes as a text may have, or a few more or less.
func TestLongSessions(t *testing.T) {
	d := die(202)
	for i := range 12 {
		n := []int{1, 3, 32}[i%3]
		text := fmt.Sprintf("new %d\n", n)
		for len(text) < api.MaxText {
			text += someLine(&d, n, 40) + "\n"
		}
		for _, end := range []int{api.MaxText - 1, api.MaxText, api.MaxText + 1} {
			asTheModel(t, text[:min(end, len(text))])
		}
	}
}

func FuzzSession(f *testing.F) {
	f.Add("new 4\nwrite 1 0100000000000000\nbarrier\nplan\nsettle\nread 1\ncrash first\n")
	f.Add("new 2\ntick\ndouble 0\ndeliver 1\nlose 0\ncrash other\ntrim 0\nplan\n")
	f.Add("\n \n  \nnew 0\nnew 33\nnew 01\nread  1\n\xff\x00\r\t")
	f.Add("")
	f.Fuzz(func(t *testing.T, text string) { asTheModel(t, text) })
}
