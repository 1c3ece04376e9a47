package mirror

import (
	"maps"
	"slices"

	"stillwater/api"
	"stillwater/epoch"
	"stillwater/frame"
	"stillwater/link"
	"stillwater/plan"
)

// primary: on its disk is its last snapshot; what was written since is lost with a crash.
type primary struct {
	node
	written   epoch.Builder
	snapshots map[int][]api.Block // those that epochs which are kept begin or end with
	safe      int
	sender    link.Sender
	known     bool        // did the backup tell, in this session, what it has?
	goal      int         // what the backup has, if known, as soon as all that waits has come
	had       []api.Block // by the backup in this session, then
}

// newPrimary of n blocks begins with noughts.
func newPrimary(n int) (*primary, error) {
	its, err := newNode(n)
	if err != nil {
		return nil, err
	}
	p := &primary{node: its}
	if err := p.begin(); err != nil {
		return nil, err
	}
	return p, nil
}

// begin anew, with what is on the disk.
func (p *primary) begin() error {
	its, err := p.anew()
	if err != nil {
		return err
	}
	have, session, err := its.Numbers()
	if err != nil {
		return err
	}
	blocks, err := its.All()
	if err != nil {
		return err
	}
	*p = primary{node: its, written: epoch.Builder{Num: have}, snapshots: map[int][]api.Block{have: blocks}}
	return p.open(session + 1)
}

// open a session. Its number is on the disk ahead of its first message: never is there a message of another session with it.
func (p *primary) open(session int) error {
	if err := p.Commit(nil, p.have(), session); err != nil {
		return err
	}
	p.sender, p.known, p.had = link.Sender{Session: session}, false, nil
	return nil
}

// have is how many snapshots there were.
func (p *primary) have() int {
	return p.written.Num
}

// write a block.
func (p *primary) write(at int, b api.Block) error {
	next, err := epoch.Add(p.written, p.size, api.Put{At: at, Data: b})
	if err != nil {
		return err
	}
	p.written = next
	return nil
}

// read a block: as it was written since the last snapshot, or else as it is there.
func (p *primary) read(at int) (api.Block, error) {
	for _, put := range p.written.Open {
		if put.At == at {
			return put.Data, nil
		}
	}
	return p.Get(at)
}

// barrier: what was written is a snapshot more, and on the disk.
func (p *primary) barrier() error {
	next, err := epoch.Seal(p.written, p.size)
	if err != nil {
		return err
	}
	if err := p.Commit(p.written.Open, next.Num, p.sender.Session); err != nil {
		return err
	}
	blocks, err := p.All()
	if err != nil {
		return err
	}
	p.snapshots[next.Num] = blocks
	p.keep(next)
	return nil
}

// keep epochs, and of the snapshots no other than theirs.
func (p *primary) keep(written epoch.Builder) {
	p.written = written
	first := written.Num - len(written.Sealed)
	maps.DeleteFunc(p.snapshots, func(num int, _ []api.Block) bool { return num < first })
}

// say what is to be sent at a tick: that a session is open, until the backup has told what it has; then what is new to it.
func (p *primary) say() ([][]byte, error) {
	if !p.known {
		b, err := pack(kindOpen, p.sender.Session)
		if err != nil {
			return nil, err
		}
		return [][]byte{b}, nil
	}
	if len(p.sender.Queue) == 0 && p.goal < p.have() {
		if err := p.offer(); err != nil {
			return nil, err
		}
	}
	return link.Send(p.sender)
}

// offer what makes of what the backup has the last snapshot.
func (p *primary) offer() error {
	u, err := p.update()
	if err != nil {
		return err
	}
	had, err := plan.Had(p.had, u.packets)
	if err != nil {
		return err
	}
	s := p.sender
	for _, m := range u.messages() {
		if s, err = link.Offer(s, m); err != nil {
			return err
		}
	}
	p.sender, p.had, p.goal = s, had, u.to
	return nil
}

// update is the one from what the backup has to the last snapshot. If that is too far behind, or from ahead of a crash, it is told as if the backup had noughts.
func (p *primary) update() (update, error) {
	u := update{from: p.goal, to: p.have()}
	since, ok, err := epoch.Since(p.written, p.size, p.goal)
	if err != nil {
		return update{}, err
	}
	puts, peer := since.Puts, p.snapshots[p.goal]
	if !ok {
		u.from, puts, peer = 0, putsOf(p.snapshots[u.to]), make([]api.Block, p.size)
	}
	if u.packets, err = plan.Packets(puts, peer, p.had); err != nil {
		return update{}, err
	}
	return u, nil
}

// hear bytes that came. Those that are no answer to this session are as if they had not come.
func (p *primary) hear(b []byte) error {
	f, err := frame.Unpack(b)
	if err != nil {
		return nil
	}
	session := p.sender.Session
	switch {
	case f.Kind == kindGone && slices.Equal(f.Nums, []int{session}):
		return p.open(session + 1)
	case f.Kind == kindHave && !p.known && len(f.Nums) == 2 && f.Nums[0] == session:
		p.known, p.goal = true, f.Nums[1]
	default:
		next, err := link.Heard(p.sender, b)
		if err != nil {
			return err
		}
		p.sender = next
	}
	return p.learn()
}

// learn what is safe: all has come, so that the backup has what it was to have.
func (p *primary) learn() error {
	if !p.known || len(p.sender.Queue) > 0 {
		return nil
	}
	next, err := epoch.Drop(p.written, p.size, p.goal)
	if err != nil {
		return err
	}
	p.safe = p.goal
	p.keep(next)
	return nil
}
