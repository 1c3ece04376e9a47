package link_test

import (
	"bytes"
	"slices"
	"testing"

	"stillwater/api"
	"stillwater/frame"
	"stillwater/link"
)

// line: a sender and a receiver, and what is under way between them, both ways.
type line struct {
	t        *testing.T
	s        link.Sender
	r        link.Receiver
	underWay [][]byte
	came     []frame.Frame
}

func (l *line) send() {
	b, err := link.Send(l.s)
	if err != nil {
		l.t.Fatalf("H2: Send: %v", err)
	}
	l.underWay = append(l.underWay, b...)
}

// arrive: bytes come to both ends, each of which takes what is its.
func (l *line) arrive(b []byte) {
	next, m, came, back, err := link.Receive(l.r, b)
	if err != nil {
		l.t.Fatalf("H3: Receive: %v", err)
	}
	if l.r = next; came {
		l.came = append(l.came, m)
	}
	if back != nil {
		l.underWay = append(l.underWay, back)
	}
	if l.s, err = link.Heard(l.s, b); err != nil {
		l.t.Fatalf("H2: Heard: %v", err)
	}
}

// roll: something happens to what is under way: it comes, is lost, doubled or hurt.
func (l *line) roll(d *die) {
	if len(l.underWay) == 0 || d.n(5) == 0 {
		l.send()
	}
	if len(l.underWay) == 0 {
		return
	}
	at := d.n(len(l.underWay))
	b := l.underWay[at]
	switch d.n(8) {
	case 0:
		l.underWay = append(l.underWay, slices.Clone(b))
	case 1:
		hurt := slices.Clone(b)
		hurt[d.n(len(hurt))] ^= byte(1 + d.n(255))
		l.underWay[at] = hurt
	case 2, 3:
		l.underWay = slices.Delete(l.underWay, at, at+1)
	default:
		l.underWay = slices.Delete(l.underWay, at, at+1)
		l.arrive(b)
	}
}

// inOrder: what came is the first of what was offered, each once.
func (l *line) inOrder(offered []frame.Frame) {
	l.t.Helper()
	if len(l.came) > len(offered) || !slices.EqualFunc(l.came, offered[:len(l.came)], sameFrame) {
		l.t.Fatalf("H1 to H3: %v came of %v", l.came, offered)
	}
}

func TestMessagesComeInOrderEachOnce(t *testing.T) {
	d := die(8)
	for range 150 {
		begin := []int{0, 3, 126, api.MaxNumber - 90}[d.n(4)]
		l := &line{t: t, s: link.Sender{Session: 4, Base: begin}, r: link.Receiver{Session: 4, Want: begin}}
		var offered []frame.Frame
		for range 300 {
			if d.n(12) == 0 && len(l.s.Queue) < 20 {
				m := frame.Frame{Kind: d.n(16), Nums: append(nums(d.n(mostNums)), len(offered)), Blocks: blocks(d.n(3))}
				s, err := link.Offer(l.s, m)
				if err != nil {
					t.Fatalf("H1: Offer: %v", err)
				}
				l.s, offered = s, append(offered, m)
			}
			l.roll(&d)
			l.inOrder(offered)
			if gone := l.s.Base - begin; gone > len(l.came) {
				t.Fatalf("H2: %d messages went, %d came", gone, len(l.came))
			}
		}
		for range len(offered) + 1 {
			for l.send(); len(l.underWay) > 0; l.underWay = l.underWay[1:] {
				l.arrive(l.underWay[0])
			}
		}
		if l.inOrder(offered); len(l.came) != len(offered) || len(l.s.Queue) > 0 {
			t.Fatalf("H1 to H3: %d offered, %d came, %d wait", len(offered), len(l.came), len(l.s.Queue))
		}
	}
}

func TestSessionsAreApart(t *testing.T) {
	s := link.Sender{Session: 1, Base: 2, Queue: queue(4)}
	sent, _ := link.Send(s)
	r := link.Receiver{Session: 2, Want: 2}
	for _, b := range sent {
		wantReceived(t, "H3: of another session", r, b, r, frame.Frame{}, false, nil)
	}
}

// roomy: the same messages, lists and all, with something behind each list's end.
func roomy(s link.Sender) link.Sender {
	c := link.Sender{Session: s.Session, Base: s.Base}
	l := make([]frame.Frame, 0, len(s.Queue)+3)
	for _, f := range s.Queue {
		l = append(l, roomyFrame(f))
	}
	behind := append(l, frame.Frame{Kind: 99}, frame.Frame{Kind: 98})
	c.Queue = behind[:len(l)]
	return c
}

func roomyFrame(f frame.Frame) frame.Frame {
	n := append(slices.Clone(f.Nums), 55, 56, 57)
	b := append(slices.Clone(f.Blocks), api.Block{55}, api.Block{56})
	return frame.Frame{Kind: f.Kind, Nums: n[:len(f.Nums)], Blocks: b[:len(f.Blocks)]}
}

// whole: all that lists of a sender have, also behind their ends.
func whole(s link.Sender) link.Sender {
	c := link.Sender{Session: s.Session, Base: s.Base}
	for _, f := range s.Queue[:cap(s.Queue)] {
		c.Queue = append(c.Queue, frame.Frame{Kind: f.Kind, Nums: slices.Clone(f.Nums[:cap(f.Nums)]), Blocks: slices.Clone(f.Blocks[:cap(f.Blocks)])})
	}
	return c
}

// spoil: whatever lists a sender has, other things stand in them.
func spoil(s link.Sender) {
	for _, f := range s.Queue {
		for i := range f.Nums {
			f.Nums[i] = 12345
		}
		for i := range f.Blocks {
			f.Blocks[i] = api.Block{99, 99}
		}
	}
	for i := range s.Queue {
		s.Queue[i] = frame.Frame{Kind: 13}
	}
}

func TestNothingIsWrittenInto(t *testing.T) {
	s := roomy(link.Sender{Session: 1, Base: 2, Queue: queue(9)})
	m := link.Sender{Queue: []frame.Frame{roomyFrame(frame.Frame{Kind: 2, Nums: nums(3), Blocks: blocks(2)})}}
	heard := pack(t, 0, nil, 1, 4)
	message := pack(t, 1, blocks(2), 1, 2, 3, 4, 5)
	beforeS, beforeM, beforeHeard, beforeMessage := whole(s), whole(m), slices.Clone(heard), slices.Clone(message)
	link.Check(s)
	link.Offer(s, m.Queue[0])
	link.Send(s)
	link.Heard(s, heard)
	link.Heard(s, message)
	link.Receive(link.Receiver{Session: 1, Want: 2}, message)
	if !sameSender(whole(s), beforeS) || !sameSender(whole(m), beforeM) || !bytes.Equal(heard, beforeHeard) || !bytes.Equal(message, beforeMessage) {
		t.Error("Z2: what was handed in was written into")
	}
}

func TestWhatStandsBehindListsIsNotRead(t *testing.T) {
	plain := link.Sender{Session: 1, Base: 2, Queue: queue(3)}
	s := roomy(plain)
	m := frame.Frame{Kind: 2, Nums: nums(3), Blocks: blocks(2)}
	got, err := link.Offer(s, roomyFrame(m))
	wantSender(t, "Z2: Offer", got, err, link.Sender{Session: 1, Base: 2, Queue: append(queue(3), m)})
	wantSent(t, "Z2: Send", s, 3)
	got, err = link.Heard(s, pack(t, 0, nil, 1, 6))
	wantSender(t, "Z2: Heard of one more than there are", got, err, plain)
}

func TestNothingIsKept(t *testing.T) {
	m := frame.Frame{Kind: 2, Nums: nums(3), Blocks: blocks(2)}
	own := cloneFrame(m)
	s := link.Sender{Session: 1, Base: 2, Queue: queue(5)}
	offered, _ := link.Offer(s, own)
	heard, _ := link.Heard(s, pack(t, 0, nil, 1, 3))
	unheard, _ := link.Heard(s, nil)
	sent, _ := link.Send(s)
	before := [][]byte{}
	for _, b := range sent {
		before = append(before, slices.Clone(b))
	}
	spoil(s)
	spoil(link.Sender{Queue: []frame.Frame{own}})
	wantSender(t, "Z2: Offer", offered, nil, link.Sender{Session: 1, Base: 2, Queue: append(queue(5), m)})
	wantSender(t, "Z2: Heard", heard, nil, link.Sender{Session: 1, Base: 3, Queue: queue(5)[1:]})
	wantSender(t, "Z2: Heard of nothing", unheard, nil, link.Sender{Session: 1, Base: 2, Queue: queue(5)})
	if !slices.EqualFunc(sent, before, bytes.Equal) {
		t.Error("Z2: what was sent shares memory with the sender")
	}
	b := pack(t, 1, blocks(2), 1, 2, 3, 4, 5)
	_, came, _, back, _ := link.Receive(link.Receiver{Session: 1, Want: 2}, b)
	for i := range b {
		b[i] = 99
	}
	if !sameFrame(came, frame.Frame{Kind: 3, Nums: []int{4, 5}, Blocks: blocks(2)}) || !bytes.Equal(back, pack(t, 0, nil, 1, 3)) {
		t.Error("Z2: what was received shares memory with its bytes")
	}
}

func TestAnswersShareNoMemory(t *testing.T) {
	// One list stands in all messages that are handed in; in what comes out each has its own.
	n, b := nums(3), blocks(2)
	m := frame.Frame{Kind: 2, Nums: n, Blocks: b}
	s := link.Sender{Session: 1, Base: 2, Queue: []frame.Frame{m, m, m}}
	offered, _ := link.Offer(s, m)
	heard, _ := link.Heard(s, pack(t, 0, nil, 1, 3))
	for _, x := range []link.Sender{offered, heard} {
		for i := range x.Queue {
			want := cloneSender(x)
			for k := range x.Queue[i].Nums {
				x.Queue[i].Nums[k], want.Queue[i].Nums[k] = i, i
			}
			for k := range x.Queue[i].Blocks {
				x.Queue[i].Blocks[k], want.Queue[i].Blocks[k] = api.Block{byte(i)}, api.Block{byte(i)}
			}
			_ = append(x.Queue[i].Nums, 77, 78)
			_ = append(x.Queue[i].Blocks, api.Block{77})
			wantSender(t, "Z2: lists of one answer", x, nil, want)
		}
	}
	sent, _ := link.Send(s)
	for i := range sent {
		want := [][]byte{}
		for _, x := range sent {
			want = append(want, slices.Clone(x))
		}
		_ = append(sent[i], 77, 78, 79)
		sent[i][0]++
		want[i][0]++
		if !slices.EqualFunc(sent, want, bytes.Equal) {
			t.Error("Z2: bytes of one answer share memory")
		}
	}
}

func TestAnswersHangOnArgumentsAlone(t *testing.T) {
	s := link.Sender{Session: 1, Base: 2, Queue: queue(6)}
	r := link.Receiver{Session: 1, Want: 2}
	b := packMessage(t, 1, 2, queue(6)[0])
	for range 3 {
		wantSent(t, "Z2: Send again", s, api.MaxWindow)
		got, err := link.Heard(s, pack(t, 0, nil, 1, 4))
		wantSender(t, "Z2: Heard again", got, err, link.Sender{Session: 1, Base: 4, Queue: queue(6)[2:]})
		wantReceived(t, "Z2: Receive again", r, b, link.Receiver{Session: 1, Want: 3}, queue(6)[0], true, pack(t, 0, nil, 1, 3))
	}
}
