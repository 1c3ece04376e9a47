package mirror

import (
	"slices"

	"stillwater/api"
	"stillwater/frame"
	"stillwater/link"
	"stillwater/plan"
)

// backup: on its disk is always a snapshot.
type backup struct {
	node
	receiver link.Receiver
	nums     []int       // of an update whose last message is still to come
	had      []api.Block // lately, in this session
}

// newBackup of n blocks begins with noughts.
func newBackup(n int) (*backup, error) {
	its, err := newNode(n)
	if err != nil {
		return nil, err
	}
	b := &backup{node: its}
	if err := b.begin(); err != nil {
		return nil, err
	}
	return b, nil
}

// begin anew, with what is on the disk. How far its last session was is forgotten, so that no message of it is wanted any more.
func (b *backup) begin() error {
	its, err := b.anew()
	if err != nil {
		return err
	}
	_, session, err := its.Numbers()
	if err != nil {
		return err
	}
	*b = backup{node: its, receiver: link.Receiver{Session: session, Want: api.MaxNumber}}
	return nil
}

// hear bytes that came: the answer; nil: there is none.
func (b *backup) hear(bytes []byte) ([]byte, error) {
	f, err := frame.Unpack(bytes)
	if err != nil {
		return nil, nil
	}
	if f.Kind == kindOpen && len(f.Nums) == 1 {
		return b.join(f.Nums[0])
	}
	return b.receive(bytes)
}

// join a session, if it is a later one, and tell what there is.
func (b *backup) join(session int) ([]byte, error) {
	if session < b.receiver.Session {
		return nil, nil
	}
	have, _, err := b.Numbers()
	if err != nil {
		return nil, err
	}
	if session > b.receiver.Session {
		if err := b.Commit(nil, have, session); err != nil {
			return nil, err
		}
		*b = backup{node: b.node, receiver: link.Receiver{Session: session}}
	}
	if b.forgot() {
		return pack(kindGone, session)
	}
	return pack(kindHave, session, have)
}

// forgot says whether the session is one from ahead of a crash.
func (b *backup) forgot() bool {
	return b.receiver.Want == api.MaxNumber
}

// receive a message of the session. It is answered only when all that it says is done.
func (b *backup) receive(bytes []byte) ([]byte, error) {
	next, m, came, back, err := link.Receive(b.receiver, bytes)
	if err != nil || back == nil {
		return nil, err
	}
	if b.forgot() {
		return pack(kindGone, b.receiver.Session)
	}
	if came {
		if err := b.take(m); err != nil {
			return nil, err
		}
	}
	b.receiver = next
	return back, nil
}

// take a message of an update; with the last one all of it changes at once.
func (b *backup) take(m frame.Frame) error {
	nums := slices.Concat(b.nums, m.Nums)
	if m.Kind == kindPart {
		b.nums = nums
		return nil
	}
	u, err := updateOf(nums, m.Blocks)
	if err != nil {
		return err
	}
	if err := b.change(u); err != nil {
		return err
	}
	b.nums = nil
	return nil
}

// change what is there, by an update.
func (b *backup) change(u update) error {
	blocks, err := b.base(u)
	if err != nil {
		return err
	}
	puts, missing, err := plan.Apply(u.packets, blocks, b.had)
	if err != nil {
		return err
	}
	if len(missing) > 0 {
		return api.ErrForm
	}
	had, err := plan.Had(b.had, u.packets)
	if err != nil {
		return err
	}
	for _, p := range puts {
		blocks[p.At] = p.Data
	}
	if err := b.Commit(putsOf(blocks), u.to, b.receiver.Session); err != nil {
		return err
	}
	b.had = had
	return nil
}

// base is what an update changes: what is there, or noughts. It must lead to a later snapshot than the one that is there.
func (b *backup) base(u update) ([]api.Block, error) {
	have, _, err := b.Numbers()
	if err != nil {
		return nil, err
	}
	if u.to <= have {
		return nil, api.ErrState
	}
	if u.from == 0 {
		return make([]api.Block, b.size), nil
	}
	if u.from != have {
		return nil, api.ErrState
	}
	return b.All()
}
