package mirror

import (
	"bytes"
	"math"
	"reflect"
	"slices"
	"testing"

	"stillwater/api"
	"stillwater/frame"
	"stillwater/link"
)

// must: an error of the program's own parts, where there is to be none.
func must(t *testing.T, err error) {
	t.Helper()
	if err != nil {
		t.Fatal(err)
	}
}

func freshPair(t *testing.T, n int) *pair {
	t.Helper()
	p, err := newPair(n, nil)
	must(t, err)
	return p
}

// snapshot: these blocks are written, and a barrier.
func (p *pair) snapshot(t *testing.T, blocks ...api.Block) {
	t.Helper()
	for at, b := range blocks {
		must(t, p.first.write(at, b))
	}
	must(t, p.first.barrier())
}

// tickAll: a tick, and all that is under way comes.
func (p *pair) tickAll(t *testing.T) {
	t.Helper()
	must(t, p.tick())
	must(t, p.deliverAll())
}

func TestWrap(t *testing.T) {
	for many := 1; many < 70; many++ {
		for x := range 200 {
			if wrap(x, many) != x%many || wrap(-x-1, many) != x%many {
				t.Fatalf("I2: %d and %d, of %d: %d, %d", x, -x-1, many, wrap(x, many), wrap(-x-1, many))
			}
		}
		if wrap(math.MinInt, many) != math.MaxInt%many || wrap(math.MaxInt, many) != math.MaxInt%many {
			t.Fatalf("I2: the least and the greatest, of %d", many)
		}
	}
}

func TestLineLosesWhatIsTooMuch(t *testing.T) {
	var l line
	for i := range api.MaxQueue + 3 {
		l.send(letter{bytes: []byte{byte(i)}})
		l.double(0)
		if len(l.underWay) > api.MaxQueue {
			t.Fatalf("I1: %d under way", len(l.underWay))
		}
	}
	if len(l.underWay) != api.MaxQueue || l.underWay[2].bytes[0] != 1 {
		t.Errorf("I1: %d under way: %v", len(l.underWay), l.underWay)
	}
}

func TestLineHasNothing(t *testing.T) {
	var l line
	for _, x := range []int{0, 1, -1, math.MinInt, math.MaxInt} {
		l.double(x)
		l.garble(x, x)
		if m, ok := l.take(x); ok || !reflect.ValueOf(m).IsZero() || len(l.underWay) > 0 {
			t.Errorf("I2: of nothing: %v, %v", m, ok)
		}
	}
}

func TestLineGarblesOnce(t *testing.T) {
	whole := []byte{1, 2, 255, 0}
	for from := -9; from < 9; from++ {
		var l line
		l.send(letter{toOther: true, bytes: slices.Clone(whole)})
		l.double(0)
		l.garble(0, from)
		hurt := slices.Clone(l.underWay[0].bytes)
		for i, b := range hurt {
			if (b != whole[i]) != (i == wrap(from, len(whole))) {
				t.Errorf("I2: Garble, From %d: %v of %v", from, hurt, whole)
			}
		}
		if !bytes.Equal(l.underWay[1].bytes, whole) {
			t.Errorf("I2: Garble, From %d: the double became %v", from, l.underWay[1].bytes)
		}
		l.double(0)
		for _, at := range []int{0, 2, 0, 2} {
			l.garble(at, from+1)
		}
		if !bytes.Equal(l.underWay[0].bytes, hurt) || !bytes.Equal(l.underWay[2].bytes, hurt) || !l.underWay[2].toOther {
			t.Errorf("I2: garbled again: %v, of %v", l.underWay, hurt)
		}
		l.garble(1, from)
		if bytes.Equal(l.underWay[1].bytes, whole) {
			t.Error("I2: a double of a message ahead of its garbling can be garbled")
		}
	}
}

func TestGarbleAtFrom(t *testing.T) {
	for from := range 12 {
		p := freshPair(t, 1)
		must(t, p.tick())
		must(t, p.tick())
		whole := slices.Clone(p.line.underWay[1].bytes)
		_, err := p.do(api.Deed{Kind: api.Garble, At: 1, From: from})
		must(t, err)
		for i, b := range p.line.underWay[1].bytes {
			if (b != whole[i]) != (i == from%len(whole)) {
				t.Errorf("I2: Garble, From %d: byte %d: %d of %d", from, i, b, whole[i])
			}
		}
		if !bytes.Equal(p.line.underWay[0].bytes, whole) {
			t.Error("I2: Garble, At 1: message 0 is another one")
		}
	}
}

func TestUpdatesAreToldWhole(t *testing.T) {
	for many := range api.MaxBlocks + 1 {
		u := update{from: many * 9, to: api.MaxNumber - many}
		for at := range many {
			p := api.Packet{At: at + api.MaxBlocks - many, Kind: (at + many) % packetKinds}
			switch p.Kind {
			case api.Literal:
				p.Data = api.Block{byte(at), 9}
			case api.Same, api.Cached:
				p.From = (at * 7) % api.MaxBlocks
			}
			u.packets = append(u.packets, p)
		}
		var nums []int
		l := u.messages()
		if len(l) > api.MaxWindow {
			t.Errorf("I4: %d packets take %d messages, a tick sends %d", many, len(l), api.MaxWindow)
		}
		for i, m := range l {
			if _, err := link.Offer(link.Sender{}, m); err != nil || (m.Kind == kindLast) != (i == len(l)-1) {
				t.Errorf("I1: message %d of %d packets: %v, %v", i, many, m, err)
			}
			nums = append(nums, m.Nums...)
		}
		got, err := updateOf(nums, l[len(l)-1].Blocks)
		if err != nil || got.from != u.from || got.to != u.to || !slices.Equal(got.packets, u.packets) {
			t.Errorf("I1: %d packets: %v, %v; wanted is %v", many, got, err, u)
		}
	}
}

func TestNumbersThatTellNoUpdate(t *testing.T) {
	literal := lastOf(update{packets: []api.Packet{{Kind: api.Literal}, {At: 1, Kind: api.Literal}}})
	for _, nums := range [][]int{nil, {1}, literal.Nums} {
		u, err := updateOf(nums, literal.Blocks[:1])
		if err != api.ErrForm || !reflect.ValueOf(u).IsZero() {
			t.Errorf("Z3: %v: %v, %v", nums, u, err)
		}
	}
}

// literal: how many blocks go over the line in full, until the backup has the last snapshot.
func literal(t *testing.T, p *pair) int {
	t.Helper()
	many := 0
	for range 3 {
		must(t, p.tick())
		for _, m := range p.line.underWay {
			f, err := frame.Unpack(m.bytes)
			must(t, err)
			many += len(f.Blocks)
		}
		must(t, p.deliverAll())
	}
	if p.first.safe != p.first.have() {
		t.Fatalf("I4: behind 3 ticks Safe is %d", p.first.safe)
	}
	return many
}

func TestAsFewBlocksInFullAsCanBe(t *testing.T) {
	x, y, z := api.Block{1}, api.Block{2}, api.Block{3}
	p := freshPair(t, 4)
	for i, c := range []struct {
		what   string
		blocks []api.Block
		want   int
	}{
		{"noughts", []api.Block{{}, {}}, 0},
		{"new ones", []api.Block{x, y}, 2},
		{"nothing new", []api.Block{x, y}, 0},
		{"what it has elsewhere", []api.Block{y, x, x, y}, 0},
		{"one new one", []api.Block{y, z, x, y}, 1},
		{"noughts again", []api.Block{{}, {}, {}, {}}, 0},
		{"what it had lately", []api.Block{z, x, y, z}, 0},
	} {
		p.snapshot(t, c.blocks...)
		if got := literal(t, p); got != c.want {
			t.Errorf("%d, %s: %d blocks in full; wanted are %d", i, c.what, got, c.want)
		}
	}
	must(t, p.other.begin())
	p.snapshot(t, x)
	if got := literal(t, p); got != 0 {
		t.Errorf("behind a crash of the backup: %d blocks in full", got)
	}
}

func TestSafeIsKnownOnlyFromTheBackup(t *testing.T) {
	p := freshPair(t, 3)
	p.snapshot(t, api.Block{1})
	p.tickAll(t)
	must(t, p.tick())
	must(t, p.deliver(0))
	if back, _, _ := p.other.Numbers(); back != 1 || p.first.safe != 0 {
		t.Errorf("I1: ahead of the answer Back is %d, Safe %d", back, p.first.safe)
	}
	must(t, p.deliver(0))
	if p.first.safe != 1 {
		t.Errorf("I1: behind the answer Safe is %d", p.first.safe)
	}
	must(t, p.first.begin())
	if p.first.safe > 1 {
		t.Errorf("I3: behind a crash Safe is %d", p.first.safe)
	}
	p.tickAll(t)
	if p.first.safe != 1 {
		t.Errorf("I1: the backup told what it has, and Safe is %d", p.first.safe)
	}
}

func TestSessionsAreNeverUsedAgain(t *testing.T) {
	p := freshPair(t, 2)
	last := 0
	for i := range 40 {
		session := p.first.sender.Session
		if session <= last {
			t.Fatalf("H1: session %d behind %d", session, last)
		}
		last = session
		p.snapshot(t, api.Block{byte(i)})
		if i%3 == 0 {
			must(t, p.first.begin())
			continue
		}
		p.tickAll(t)
		if p.other.receiver.Session != session || p.first.sender.Session != session {
			t.Fatalf("the backup is in session %d, the primary in %d", p.other.receiver.Session, p.first.sender.Session)
		}
		must(t, p.other.begin())
		p.tickAll(t)
	}
}

// TestAnOldSessionIsNotHeard: what was under way ahead of a crash changes nothing behind it.
func TestAnOldSessionIsNotHeard(t *testing.T) {
	for _, crash := range []func(*pair) error{
		func(p *pair) error { return p.first.begin() },
		func(p *pair) error { return p.other.begin() },
	} {
		p := freshPair(t, 2)
		must(t, p.tick())
		opened := p.line.underWay[0]
		must(t, p.deliverAll())
		p.snapshot(t, api.Block{1})
		must(t, p.tick())
		told, _ := p.line.take(0)
		must(t, crash(p))
		p.tickAll(t)
		p.tickAll(t)
		before, _ := p.state()
		for _, old := range []letter{opened, told} {
			answer, err := p.other.hear(old.bytes)
			if after, _ := p.state(); err != nil || answer != nil || !reflect.DeepEqual(before, after) {
				t.Errorf("I3: a message of an old session: %v, answer %x, %v; it was %v", after, answer, err, before)
			}
			must(t, p.first.hear(old.bytes))
			if after, _ := p.state(); !reflect.DeepEqual(before, after) {
				t.Errorf("I3: it came to the primary: %v; it was %v", after, before)
			}
		}
	}
}

// noise: bytes that are no message of a pair.
func noise(t *testing.T) [][]byte {
	l := [][]byte{nil, {}, {0}, make([]byte, 1000)}
	for kind := range 16 {
		for _, nums := range [][]int{nil, {0}, {1}, {api.MaxNumber, 0, 0}, {0, 0, 0}, {1, 5}, {0, 1, 2, 3}} {
			if kind == kindOpen && len(nums) == 1 {
				continue // that is one
			}
			b, err := pack(kind, nums...)
			must(t, err)
			l = append(l, b, b[:len(b)-1], append(slices.Clone(b), 0))
		}
	}
	return l
}

func TestNoiseIsNotHeard(t *testing.T) {
	p := freshPair(t, 2)
	p.snapshot(t, api.Block{1})
	p.tickAll(t)
	p.tickAll(t)
	p.snapshot(t, api.Block{2})
	before, _ := p.state()
	session := p.first.sender.Session
	for _, b := range noise(t) {
		if f, err := frame.Unpack(b); err == nil && f.Kind == kindGone && len(f.Nums) == 1 && f.Nums[0] == session {
			continue // the primary believes it
		}
		must(t, p.first.hear(b))
		if _, err := p.other.hear(b); err != nil {
			t.Errorf("Z1: %x: %v", b, err)
		}
		if after, _ := p.state(); !reflect.DeepEqual(before, after) || p.first.sender.Session != session {
			t.Fatalf("I3: behind %x: %v; it was %v", b, after, before)
		}
	}
	if literal(t, p) != 1 {
		t.Error("I4: behind noise")
	}
}

// TestUpdatesThatDoNotFit change nothing, and are not answered.
func TestUpdatesThatDoNotFit(t *testing.T) {
	p := freshPair(t, 2)
	p.snapshot(t, api.Block{1})
	p.tickAll(t)
	p.snapshot(t, api.Block{2})
	p.tickAll(t)
	before, _ := p.state()
	if before.Back != 2 {
		t.Fatalf("I2: Back is %d", before.Back)
	}
	r := p.other.receiver
	put := api.Packet{At: 1, Kind: api.Literal, Data: api.Block{9}}
	for i, m := range []frame.Frame{
		{Kind: kindLast},
		{Kind: kindLast, Nums: []int{2}},
		lastOf(update{from: 1, to: 3}),
		lastOf(update{from: 3, to: 4}),
		lastOf(update{from: 2, to: 2}),
		lastOf(update{from: 2, to: 1}),
		lastOf(update{from: 0, to: 2}),
		lastOf(update{from: 0, to: 1}),
		lastOf(update{from: 2, to: 3, packets: []api.Packet{{At: 2}}}),
		lastOf(update{from: 2, to: 3, packets: []api.Packet{{At: 1}, {At: 0}}}),
		lastOf(update{from: 2, to: 3, packets: []api.Packet{{Kind: api.Same, From: 2}}}),
		lastOf(update{from: 2, to: 3, packets: []api.Packet{{Kind: api.Cached, From: api.MaxCache}}}),
		{Kind: kindLast, Nums: lastOf(update{from: 2, to: 3, packets: []api.Packet{put}}).Nums},
	} {
		sent, err := link.Send(link.Sender{Session: r.Session, Base: r.Want, Queue: []frame.Frame{m}})
		must(t, err)
		answer, err := p.other.hear(sent[0])
		if after, _ := p.state(); err == nil || answer != nil || !reflect.DeepEqual(before, after) || p.other.receiver != r {
			t.Errorf("I3: update %d: %v, answer %x, %v; it was %v", i, after, answer, err, before)
		}
	}
	p.snapshot(t, api.Block{3})
	p.tickAll(t)
	if p.first.safe != 3 {
		t.Errorf("I4: behind updates that do not fit Safe is %d", p.first.safe)
	}
}

// lastOf is the one message of a small update.
func lastOf(u update) frame.Frame { return u.messages()[0] }

func TestSnapshotsThatAreKept(t *testing.T) {
	p := freshPair(t, 1)
	for i := range 3 * api.MaxBacklog {
		p.snapshot(t, api.Block{byte(i)})
		first := p.first.have() - len(p.first.written.Sealed)
		if len(p.first.snapshots) != p.first.have()-first+1 || len(p.first.snapshots) > api.MaxBacklog+1 {
			t.Errorf("behind %d barriers %d snapshots are kept", i+1, len(p.first.snapshots))
		}
	}
	p.tickAll(t)
	p.tickAll(t)
	if len(p.first.snapshots) != 1 {
		t.Errorf("when all is safe %d snapshots are kept", len(p.first.snapshots))
	}
}

func TestTold(t *testing.T) {
	if told(nil) != api.OK {
		t.Error("I1: no error is OK")
	}
	for e := api.ErrRange; e <= api.ErrUnlike; e++ {
		if told(e) != e {
			t.Errorf("I1: %v is told as %v", e, told(e))
		}
	}
}
