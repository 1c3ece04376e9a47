package link_test

import (
	"bytes"
	"math"
	"reflect"
	"slices"
	"strconv"
	"testing"

	"stillwater/api"
	"stillwater/frame"
	"stillwater/link"
)

const mostNums = api.MaxNums - 3 // of a message

// die: numbers that look drawn, the same each time.
type die uint64

func (d *die) n(most int) int {
	*d = *d*6364136223846793005 + 1442695040888963407
	return int(uint64(*d>>33) % uint64(most))
}

// blocks: so many, no two alike.
func blocks(many int) []api.Block {
	var l []api.Block
	for i := range many {
		l = append(l, api.Block{byte(i + 1), 7: 9})
	}
	return l
}

// nums: so many numbers, no two alike.
func nums(many int) []int {
	var l []int
	for i := range many {
		l = append(l, 1000*i+i)
	}
	return l
}

// goodMessages: such as may be, at the edges and between them.
func goodMessages() []frame.Frame {
	return []frame.Frame{
		{},
		{Nums: []int{}, Blocks: []api.Block{}},
		{Kind: 15},
		{Kind: 1, Nums: []int{0}},
		{Kind: 0, Nums: []int{7, api.MaxNumber}},
		{Kind: 3, Blocks: blocks(1)},
		{Kind: 2, Nums: nums(mostNums - 1), Blocks: blocks(3)},
		{Kind: 14, Nums: nums(mostNums)},
		{Kind: 15, Nums: nums(mostNums), Blocks: blocks(api.MaxLoad)},
	}
}

// badMessage: such as may not be, and what is to be told of it.
type badMessage struct {
	what string
	f    frame.Frame
	want api.Errno
}

func badMessages() []badMessage {
	return []badMessage{
		{"one number too many", frame.Frame{Nums: nums(mostNums + 1)}, api.ErrLimit},
		{"two numbers too many", frame.Frame{Nums: nums(mostNums + 2), Blocks: blocks(2)}, api.ErrLimit},
		{"as many numbers as a frame may have", frame.Frame{Nums: nums(api.MaxNums)}, api.ErrLimit},
		{"more numbers than a frame may have", frame.Frame{Nums: nums(api.MaxNums + 1)}, api.ErrLimit},
		{"one block too many", frame.Frame{Blocks: blocks(api.MaxLoad + 1)}, api.ErrLimit},
		{"kind 16", frame.Frame{Kind: 16}, api.ErrRange},
		{"kind -1", frame.Frame{Kind: -1}, api.ErrRange},
		{"kind 16, and one number too many", frame.Frame{Kind: 16, Nums: nums(mostNums + 1)}, api.ErrRange},
		{"a number below 0", frame.Frame{Nums: []int{0, -1}}, api.ErrRange},
		{"a number above MaxNumber", frame.Frame{Nums: []int{api.MaxNumber + 1}}, api.ErrRange},
		{"a number below 0, and one number too many", frame.Frame{Nums: append(nums(mostNums), -1)}, api.ErrRange},
		{"a number below 0, and more than a frame may have", frame.Frame{Nums: append(nums(api.MaxNums), -1)}, api.ErrLimit},
	}
}

// queue: so many messages, no two beside each other alike.
func queue(many int) []frame.Frame {
	var l []frame.Frame
	for i := range many {
		l = append(l, frame.Frame{Kind: i % 16, Nums: nums(i % (mostNums + 1)), Blocks: blocks(i % 3)})
	}
	return l
}

// numberEdges: where numbers of sessions and messages begin and end.
func numberEdges() []int { return []int{0, 1, 1000, api.MaxNumber - 1, api.MaxNumber} }

// beyondEdges: no numbers of sessions and messages.
func beyondEdges() []int {
	return []int{-1, math.MinInt32, math.MinInt, api.MaxNumber + 1, math.MaxUint32, math.MaxUint32 + 2, math.MaxInt}
}

func sameFrame(a, b frame.Frame) bool {
	return a.Kind == b.Kind && slices.Equal(a.Nums, b.Nums) && slices.Equal(a.Blocks, b.Blocks)
}

func sameSender(a, b link.Sender) bool {
	return a.Session == b.Session && a.Base == b.Base && slices.EqualFunc(a.Queue, b.Queue, sameFrame)
}

func cloneFrame(f frame.Frame) frame.Frame {
	return frame.Frame{Kind: f.Kind, Nums: slices.Clone(f.Nums), Blocks: slices.Clone(f.Blocks)}
}

func cloneSender(s link.Sender) link.Sender {
	c := link.Sender{Session: s.Session, Base: s.Base}
	for _, f := range s.Queue {
		c.Queue = append(c.Queue, cloneFrame(f))
	}
	return c
}

func wantSender(t *testing.T, what string, got link.Sender, err error, want link.Sender) {
	t.Helper()
	if err != nil || !sameSender(got, want) {
		t.Errorf("%s: %v, %v; wanted is %v", what, got, err, want)
	}
}

func wantError(t *testing.T, what string, got any, err error, want api.Errno) {
	t.Helper()
	if err != error(want) {
		t.Errorf("%s: %v; wanted is %v", what, err, want)
	}
	if !reflect.ValueOf(got).IsZero() {
		t.Errorf("%s: beside an error it answers %v", what, got)
	}
}

// pack: the bytes of a frame that may be.
func pack(t *testing.T, kind int, blocks []api.Block, nums ...int) []byte {
	t.Helper()
	b, err := frame.Pack(frame.Frame{Kind: kind, Nums: nums, Blocks: blocks})
	if err != nil {
		t.Fatal(err)
	}
	return b
}

// packMessage: the bytes of a message of that session and number.
func packMessage(t *testing.T, session, number int, m frame.Frame) []byte {
	t.Helper()
	return pack(t, 1, m.Blocks, slices.Concat([]int{session, number, m.Kind}, m.Nums)...)
}

// noFrames: bytes that are no frame, but nearly b.
func noFrames(b []byte) [][]byte {
	l := [][]byte{nil, {}, {0}, append(slices.Clone(b), 0), append([]byte{0}, b...)}
	for i := range b {
		l = append(l, b[:i], b[i+1:])
		for bit := range 8 {
			hurt := slices.Clone(b)
			hurt[i] ^= 1 << bit
			l = append(l, hurt)
		}
	}
	return slices.DeleteFunc(l, func(x []byte) bool { _, err := frame.Unpack(x); return err == nil })
}

func TestCheckLetsSendersPass(t *testing.T) {
	for _, session := range numberEdges() {
		for _, base := range numberEdges() {
			for _, q := range [][]frame.Frame{nil, {}, queue(1), goodMessages(), queue(api.MaxQueue - 1), queue(api.MaxQueue)} {
				s := link.Sender{Session: session, Base: base, Queue: q}
				if err := link.Check(s); err != nil {
					t.Errorf("H1: Check of session %d, base %d, %d messages: %v", session, base, len(q), err)
				}
			}
		}
	}
}

// badSender: such as may not be, and what is to be told of it.
type badSender struct {
	what string
	s    link.Sender
	want api.Errno
}

func badSenders() []badSender {
	tooMany := queue(api.MaxQueue + 1)
	tooManyAndBad := queue(api.MaxQueue + 1)
	tooManyAndBad[0].Kind = 16
	l := []badSender{
		{"one message too many", link.Sender{Queue: tooMany}, api.ErrLimit},
		{"many messages too many", link.Sender{Queue: queue(1000)}, api.ErrLimit},
		{"one message too many, and the first is none", link.Sender{Queue: tooManyAndBad}, api.ErrLimit},
		{"no base, and a message with too many numbers", link.Sender{Base: -1, Queue: []frame.Frame{{Nums: nums(12)}}}, api.ErrRange},
	}
	for _, n := range beyondEdges() {
		l = append(l,
			badSender{"session " + strconv.Itoa(n), link.Sender{Session: n}, api.ErrRange},
			badSender{"base " + strconv.Itoa(n), link.Sender{Base: n}, api.ErrRange},
			badSender{"session and base " + strconv.Itoa(n), link.Sender{Session: n, Base: n, Queue: queue(3)}, api.ErrRange},
			badSender{"session " + strconv.Itoa(n) + ", too many messages", link.Sender{Session: n, Queue: tooMany}, api.ErrRange},
			badSender{"base " + strconv.Itoa(n) + ", too many messages", link.Sender{Base: n, Queue: tooMany}, api.ErrRange},
		)
	}
	for _, bad := range badMessages() {
		for _, many := range []int{1, 2, 5, 6, api.MaxQueue} {
			for _, at := range []int{0, many / 2, many - 1} {
				q := queue(many)
				q[at] = bad.f
				l = append(l, badSender{"message " + strconv.Itoa(at) + " of " + strconv.Itoa(many) + ": " + bad.what, link.Sender{Queue: q}, bad.want})
			}
		}
	}
	return append(l, doublyBadSenders()...)
}

// doublyBadSenders: the first of two messages that are none is told of.
func doublyBadSenders() []badSender {
	var l []badSender
	for _, first := range badMessages() {
		for _, second := range badMessages() {
			q := queue(7)
			q[2], q[6] = first.f, second.f
			l = append(l, badSender{first.what + ", then " + second.what, link.Sender{Session: 1, Base: api.MaxNumber, Queue: q}, first.want})
		}
	}
	return l
}

func TestCheckRefusesSenders(t *testing.T) {
	for _, bad := range badSenders() {
		wantError(t, "H1: Check: "+bad.what, 0, link.Check(bad.s), bad.want)
	}
}

func TestAllCallsOfASenderAskCheckFirst(t *testing.T) {
	for _, bad := range badSenders() {
		for _, f := range []frame.Frame{{}, {Kind: 16}, {Nums: nums(12)}} {
			s, err := link.Offer(bad.s, f)
			wantError(t, "H1: Offer: "+bad.what, s, err, bad.want)
		}
		l, err := link.Send(bad.s)
		wantError(t, "H2: Send: "+bad.what, l, err, bad.want)
		for _, b := range [][]byte{nil, {1}, pack(t, 0, nil, 0, 1)} {
			s, err := link.Heard(bad.s, b)
			wantError(t, "H2: Heard: "+bad.what, s, err, bad.want)
		}
	}
}

func TestOfferIsTheLastOne(t *testing.T) {
	for _, many := range []int{0, 1, 3, 4, 5, api.MaxQueue - 1} {
		for _, m := range goodMessages() {
			s := link.Sender{Session: 3, Base: 20, Queue: queue(many)}
			got, err := link.Offer(s, m)
			wantSender(t, "H1: Offer to "+strconv.Itoa(many), got, err, link.Sender{Session: 3, Base: 20, Queue: append(queue(many), m)})
		}
	}
}

func TestOfferOneByOne(t *testing.T) {
	s := link.Sender{Session: api.MaxNumber}
	for i, m := range queue(api.MaxQueue) {
		next, err := link.Offer(s, m)
		s = next
		wantSender(t, "H1: Offer one by one", s, err, link.Sender{Session: api.MaxNumber, Queue: queue(i + 1)})
	}
	next, err := link.Offer(s, frame.Frame{})
	wantError(t, "H1: Offer of one more than MaxQueue", next, err, api.ErrLimit)
}

func TestOfferNearTheLastNumber(t *testing.T) {
	for many := range api.MaxQueue {
		for past := -2; past <= 2; past++ {
			base := api.MaxNumber - many + past
			if base > api.MaxNumber {
				continue
			}
			s := link.Sender{Base: base, Queue: queue(many)}
			what := "H1: Offer: base and " + strconv.Itoa(many) + " come to MaxNumber and " + strconv.Itoa(past)
			got, err := link.Offer(s, frame.Frame{Kind: 2})
			if past < 0 {
				wantSender(t, what, got, err, link.Sender{Base: base, Queue: append(queue(many), frame.Frame{Kind: 2})})
			} else {
				wantError(t, what, got, err, api.ErrLimit)
			}
		}
	}
}

func TestOfferRefusesWhatIsNoMessage(t *testing.T) {
	for _, s := range []link.Sender{
		{}, {Session: 3, Base: 7, Queue: queue(2)},
		{Queue: queue(api.MaxQueue)}, {Base: api.MaxNumber}, {Base: api.MaxNumber - 2, Queue: queue(2)},
	} {
		for _, bad := range badMessages() {
			got, err := link.Offer(s, bad.f)
			wantError(t, "H1: Offer: "+bad.what, got, err, bad.want)
		}
	}
}

func TestSendBytes(t *testing.T) {
	l, err := link.Send(link.Sender{Session: 5, Base: 300, Queue: []frame.Frame{{Kind: 15, Nums: []int{1}, Blocks: []api.Block{{9}}}, {}}})
	want := [][]byte{{0x14, 1, 5, 0xac, 2, 15, 1, 9, 0, 0, 0, 0, 0, 0, 0}, {0x13, 0, 5, 0xad, 2, 0}}
	if err != nil || len(l) != len(want) {
		t.Fatalf("H2: Send: %v, %v", l, err)
	}
	for i, body := range want {
		sum := frame.Sum(body)
		if whole := append(body, byte(sum>>24), byte(sum>>16), byte(sum>>8), byte(sum)); !bytes.Equal(l[i], whole) {
			t.Errorf("H2: Send: message %d is %x; wanted is %x", i, l[i], whole)
		}
	}
}

// wantSent: what a sender sends is these messages of its queue, from the first on.
func wantSent(t *testing.T, what string, s link.Sender, many int) {
	t.Helper()
	l, err := link.Send(s)
	if err != nil || len(l) != many {
		t.Fatalf("%s: %v, %v; wanted are %d", what, l, err, many)
	}
	for i, b := range l {
		if want := packMessage(t, s.Session, s.Base+i, s.Queue[i]); !bytes.Equal(b, want) {
			t.Errorf("%s: message %d is %x; wanted is %x", what, i, b, want)
		}
	}
}

func TestSendAllOfTheWindow(t *testing.T) {
	for _, session := range numberEdges() {
		for _, base := range []int{0, 1, 127, 1000, api.MaxNumber - 100} {
			for many := range api.MaxQueue + 1 {
				s := link.Sender{Session: session, Base: base, Queue: queue(many)}
				wantSent(t, "H2: Send of "+strconv.Itoa(many), s, min(many, api.MaxWindow))
			}
		}
	}
	for _, m := range goodMessages() {
		wantSent(t, "H2: Send of one", link.Sender{Queue: []frame.Frame{m}}, 1)
		wantSent(t, "H2: Send of the last in the window", link.Sender{Queue: append(queue(api.MaxWindow-1), m, m)}, api.MaxWindow)
	}
}

func TestSendNearTheLastNumber(t *testing.T) {
	for _, many := range []int{0, 1, 2, 3, 4, 5, 6, api.MaxQueue} {
		inWindow := min(many, api.MaxWindow)
		for below := range api.MaxWindow + 3 {
			s := link.Sender{Session: 1, Base: api.MaxNumber - below, Queue: queue(many)}
			what := "H2: Send of " + strconv.Itoa(many) + " from MaxNumber - " + strconv.Itoa(below)
			if below+1 >= inWindow {
				wantSent(t, what, s, inWindow)
			} else {
				l, err := link.Send(s)
				wantError(t, what, l, err, api.ErrRange)
			}
		}
	}
}

func TestHeardLetsMessagesGo(t *testing.T) {
	for _, base := range []int{0, 1, 2, 1000, api.MaxNumber - 64, api.MaxNumber - 5, api.MaxNumber - 4, api.MaxNumber - 3, api.MaxNumber - 1, api.MaxNumber} {
		for _, many := range []int{0, 1, 2, 3, 4, 5, 6, 7, api.MaxQueue} {
			for above := -3; above <= 8; above++ {
				number := base + above
				if number < 0 || number > api.MaxNumber {
					continue
				}
				s := link.Sender{Session: 6, Base: base, Queue: queue(many)}
				gone := 0
				if above >= 1 && above <= many && above <= api.MaxWindow {
					gone = above
				}
				got, err := link.Heard(s, pack(t, 0, nil, 6, number))
				want := link.Sender{Session: 6, Base: base + gone, Queue: queue(many)[gone:]}
				wantSender(t, "H2: Heard: above the base by "+strconv.Itoa(above)+", of "+strconv.Itoa(many), got, err, want)
			}
		}
	}
}

func TestHeardOfEachSession(t *testing.T) {
	for _, session := range numberEdges() {
		for _, other := range numberEdges() {
			s := link.Sender{Session: session, Base: 10, Queue: queue(3)}
			want := s
			if other == session {
				want = link.Sender{Session: session, Base: 12, Queue: queue(3)[2:]}
			}
			got, err := link.Heard(s, pack(t, 0, nil, other, 12))
			wantSender(t, "H2: Heard of session "+strconv.Itoa(other), got, err, want)
		}
	}
}

func TestHeardOfNothing(t *testing.T) {
	s := link.Sender{Session: 6, Base: 10, Queue: queue(5)}
	good := pack(t, 0, nil, 6, 11)
	if got, err := link.Heard(s, good); err != nil || got.Base != 11 {
		t.Fatalf("H2: Heard: %v, %v", got, err)
	}
	l := noFrames(good)
	for kind := 1; kind <= 15; kind++ {
		l = append(l, pack(t, kind, nil, 6, 11))
	}
	for _, many := range []int{1, 2, api.MaxLoad} {
		l = append(l, pack(t, 0, blocks(many), 6, 11))
	}
	l = append(l, pack(t, 0, nil), pack(t, 0, nil, 6), pack(t, 0, nil, 11), pack(t, 0, nil, 11, 6), pack(t, 0, nil, 6, 11, 0), pack(t, 0, nil, 6, 11, 11), pack(t, 0, nil, 6, 6, 11))
	l = append(l, pack(t, 0, nil, append([]int{6, 11}, nums(10)...)...), make([]byte, 100000))
	sent, _ := link.Send(s)
	for _, b := range append(l, sent...) {
		got, err := link.Heard(s, b)
		wantSender(t, "H2: Heard nothing", got, err, s)
	}
}

func wantReceived(t *testing.T, what string, r link.Receiver, b []byte, next link.Receiver, m frame.Frame, came bool, back []byte) {
	t.Helper()
	x, y, ok, z, err := link.Receive(r, b)
	if err != nil || x != next || !sameFrame(y, m) || ok != came || !bytes.Equal(z, back) || (z == nil) != (back == nil) {
		t.Errorf("%s: Receive(%v, %x) = %v, %v, %v, %x, %v; wanted is %v, %v, %v, %x", what, r, b, x, y, ok, z, err, next, m, came, back)
	}
}

func TestReceiveTheOneThatIsWanted(t *testing.T) {
	for _, session := range numberEdges() {
		for _, number := range []int{0, 1, 127, 128, 1000, api.MaxNumber - 1} {
			for _, m := range goodMessages() {
				r, next := link.Receiver{Session: session, Want: number}, link.Receiver{Session: session, Want: number + 1}
				wantReceived(t, "H3: the one that is wanted", r, packMessage(t, session, number, m), next, m, true, pack(t, 0, nil, session, number+1))
			}
		}
	}
	for kind := range 16 {
		m := frame.Frame{Kind: kind}
		wantReceived(t, "H3: each kind", link.Receiver{Want: 3}, packMessage(t, 0, 3, m), link.Receiver{Want: 4}, m, true, pack(t, 0, nil, 0, 4))
	}
	for many := range mostNums + 1 {
		m := frame.Frame{Kind: 9, Nums: nums(many), Blocks: blocks(many)}
		wantReceived(t, "H3: each number of numbers", link.Receiver{Want: 3}, packMessage(t, 0, 3, m), link.Receiver{Want: 4}, m, true, pack(t, 0, nil, 0, 4))
	}
}

func TestReceiveAnother(t *testing.T) {
	for _, want := range []int{0, 1, 2, 1000, api.MaxNumber - 1, api.MaxNumber} {
		for _, number := range []int{0, want - 3, want - 2, want - 1, want + 1, want + 2, want + 5, api.MaxNumber - 1, api.MaxNumber} {
			if number < 0 || number > api.MaxNumber || number == want && want < api.MaxNumber {
				continue
			}
			for _, m := range goodMessages() {
				r := link.Receiver{Session: 8, Want: want}
				wantReceived(t, "H3: another than the one that is wanted", r, packMessage(t, 8, number, m), r, frame.Frame{}, false, pack(t, 0, nil, 8, want))
			}
		}
	}
}

func TestReceiveNothing(t *testing.T) {
	r := link.Receiver{Session: 8, Want: 5}
	good := pack(t, 1, blocks(1), 8, 5, 2, 77)
	wantReceived(t, "H3: the one that is wanted", r, good, link.Receiver{Session: 8, Want: 6}, frame.Frame{Kind: 2, Nums: []int{77}, Blocks: blocks(1)}, true, pack(t, 0, nil, 8, 6))
	l := append(noFrames(good), make([]byte, 100000))
	for kind := range 16 {
		if kind != 1 {
			l = append(l, pack(t, kind, nil, 8, 5, 2), pack(t, kind, blocks(2), 8, 5, 2, 1))
		}
	}
	l = append(l, pack(t, 1, nil), pack(t, 1, nil, 8), pack(t, 1, nil, 8, 5), pack(t, 1, blocks(3), 8, 5))
	for _, session := range []int{0, 5, 7, 9, api.MaxNumber} {
		l = append(l, pack(t, 1, nil, session, 5, 2), pack(t, 1, nil, session, 8, 2))
	}
	for _, kind := range []int{16, 17, 31, 32, 256, 1 << 20, api.MaxNumber} {
		// Whatever the number: of what holds no message nothing is said.
		for _, number := range []int{4, 5, 6} {
			l = append(l, pack(t, 1, nil, 8, number, kind), pack(t, 1, blocks(2), 8, number, kind, 1))
		}
	}
	for _, b := range l {
		wantReceived(t, "H3: nothing", r, b, r, frame.Frame{}, false, nil)
	}
	last := link.Receiver{Session: 8, Want: api.MaxNumber}
	wantReceived(t, "H3: nothing, at the last number", last, pack(t, 1, nil, 8, api.MaxNumber, 16), last, frame.Frame{}, false, nil)
}

func TestReceiveRefusesReceivers(t *testing.T) {
	refused := func(r link.Receiver) {
		for _, b := range [][]byte{nil, {1}, pack(t, 1, nil, 0, 0, 0), pack(t, 1, nil, 0, api.MaxNumber, 0), pack(t, 0, nil, 0, 0)} {
			next, m, came, back, err := link.Receive(r, b)
			wantError(t, "H3: Receive of no receiver", next, err, api.ErrRange)
			if came || back != nil || !reflect.ValueOf(m).IsZero() {
				t.Errorf("H3: Receive(%v, %x): beside an error it answers %v, %v, %x", r, b, m, came, back)
			}
		}
	}
	for _, n := range beyondEdges() {
		refused(link.Receiver{Session: n})
		refused(link.Receiver{Want: n})
		refused(link.Receiver{Session: n, Want: n})
		refused(link.Receiver{Session: n, Want: api.MaxNumber})
		refused(link.Receiver{Session: api.MaxNumber, Want: n})
	}
	for _, session := range numberEdges() {
		for _, want := range numberEdges() {
			r := link.Receiver{Session: session, Want: want}
			wantReceived(t, "H3: a receiver that may be", r, nil, r, frame.Frame{}, false, nil)
		}
	}
}
