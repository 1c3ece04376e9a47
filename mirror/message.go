package mirror

import (
	"slices"

	"stillwater/api"
	"stillwater/frame"
)

// Kinds of the frames that are no messages of a session: package link has those below.
const (
	kindOpen = iota + 2 // of the primary: a session begins; its number
	kindHave            // of the backup: a session's number, and that of the snapshot it has
	kindGone            // of the backup: the number of a session of which it knows nothing any more
)

// Kinds of the messages of a session.
const (
	kindPart = iota // the first numbers of an update, others behind
	kindLast        // its last numbers, and its blocks
)

const (
	headNums    = 2               // of an update, ahead of its packets
	messageNums = api.MaxNums - 3 // of a message: package link needs the others
	packetKinds = api.Literal + 1
)

// update: what makes of one snapshot another. From number 0 on: of noughts, whatever the backup has.
type update struct {
	from, to int
	packets  []api.Packet
}

// pack a frame of numbers.
func pack(kind int, nums ...int) ([]byte, error) {
	return frame.Pack(frame.Frame{Kind: kind, Nums: nums})
}

// messages tell an update: its numbers, one a packet, parted as messages ask; at most as many as package link sends at once, so that one tick brings all.
func (u update) messages() []frame.Frame {
	nums := []int{u.from, u.to}
	var blocks []api.Block
	for _, p := range u.packets {
		nums = append(nums, (p.At*packetKinds+p.Kind)*api.MaxBlocks+p.From)
		if p.Kind == api.Literal {
			blocks = append(blocks, p.Data)
		}
	}
	var l []frame.Frame
	for part := range slices.Chunk(nums, messageNums) {
		l = append(l, frame.Frame{Kind: kindPart, Nums: part})
	}
	last := &l[len(l)-1]
	last.Kind, last.Blocks = kindLast, blocks
	return l
}

// updateOf is the update that numbers and blocks tell.
func updateOf(nums []int, blocks []api.Block) (update, error) {
	if len(nums) < headNums {
		return update{}, api.ErrForm
	}
	u := update{from: nums[0], to: nums[1]}
	for _, x := range nums[headNums:] {
		p := api.Packet{From: x % api.MaxBlocks, Kind: x / api.MaxBlocks % packetKinds, At: x / api.MaxBlocks / packetKinds}
		if p.Kind == api.Literal {
			if len(blocks) == 0 {
				return update{}, api.ErrForm
			}
			p.Data, blocks = blocks[0], blocks[1:]
		}
		u.packets = append(u.packets, p)
	}
	return u, nil
}
