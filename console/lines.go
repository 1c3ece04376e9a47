package console

import (
	"slices"
	"strconv"
	"strings"

	"stillwater/api"
	"stillwater/mirror"
	"stillwater/plan"
	"stillwater/tree"
)

func (d *desk) begin(words []string) (string, error) {
	n, err := number(words[0])
	if err != nil {
		return "", err
	}
	if n < 1 || n > api.MaxBlocks {
		return "", api.ErrRange
	}
	d.size, d.script = n, nil
	return "ok", nil
}

func (d *desk) write(words []string) (string, error) {
	at, err := number(words[0])
	if err != nil {
		return "", err
	}
	data, err := block(words[1])
	if err != nil {
		return "", err
	}
	return d.have(api.Deed{Kind: api.Write, At: at, Data: data})
}

func (d *desk) trim(words []string) (string, error) {
	return d.haveAt(api.Trim, words[0])
}

func (d *desk) read(words []string) (string, error) {
	at, err := number(words[0])
	if err != nil {
		return "", err
	}
	reply, err := d.do(api.Deed{Kind: api.Read, At: at})
	if err != nil {
		return "", err
	}
	return blockText(reply.Data), nil
}

func (d *desk) barrier([]string) (string, error) {
	return d.have(api.Deed{Kind: api.Barrier})
}

func (d *desk) tick([]string) (string, error) {
	return d.have(api.Deed{Kind: api.Tick})
}

func (d *desk) deliver(words []string) (string, error) {
	return d.haveAt(api.Deliver, words[0])
}

func (d *desk) lose(words []string) (string, error) {
	return d.haveAt(api.Lose, words[0])
}

func (d *desk) double(words []string) (string, error) {
	return d.haveAt(api.Double, words[0])
}

func (d *desk) crash(words []string) (string, error) {
	switch words[0] {
	case "first":
		return d.have(api.Deed{Kind: api.CrashFirst})
	case "other":
		return d.have(api.Deed{Kind: api.CrashOther})
	}
	return "", api.ErrForm
}

func (d *desk) settle([]string) (string, error) {
	reply, err := d.settled(d.script)
	if err != nil {
		return "", err
	}
	t, err := tree.Of(reply.Other)
	if err != nil {
		return "", err
	}
	top := t.Levels[len(t.Levels)-1][0]
	return strconv.Itoa(reply.Back) + " " + strconv.FormatUint(top, 10), nil
}

// plan: what would be sent if there were a barrier now, and the backup had all that it will have without it.
func (d *desk) plan([]string) (string, error) {
	now, err := d.settled(d.script)
	if err != nil {
		return "", err
	}
	next, err := d.settled(d.with(api.Deed{Kind: api.Barrier}))
	if err != nil {
		return "", err
	}
	packets, err := plan.Packets(putsOf(next.Other), now.Other, nil)
	if err != nil {
		return "", err
	}
	var told []string
	for _, p := range packets {
		told = append(told, packetText(p))
	}
	return strings.Join(told, "|"), nil
}

// haveAt does a deed at a place that a word tells: Have.
func (d *desk) haveAt(kind int, word string) (string, error) {
	at, err := number(word)
	if err != nil {
		return "", err
	}
	return d.have(api.Deed{Kind: kind, At: at})
}

// have does a deed: Have.
func (d *desk) have(deed api.Deed) (string, error) {
	reply, err := d.do(deed)
	if err != nil {
		return "", err
	}
	return strconv.Itoa(reply.Have), nil
}

// do a deed more: the reply to it.
func (d *desk) do(deed api.Deed) (api.Reply, error) {
	if d.size == 0 {
		return api.Reply{}, api.ErrState
	}
	script := d.with(deed)
	replies, err := mirror.Run(d.size, script)
	if err != nil {
		return api.Reply{}, err
	}
	last := replies[len(replies)-1]
	if last.Err != api.OK {
		return api.Reply{}, last.Err
	}
	d.script = script
	return last, nil
}

// settled is what Settle of a script tells.
func (d *desk) settled(script []api.Deed) (api.Reply, error) {
	if d.size == 0 {
		return api.Reply{}, api.ErrState
	}
	reply, _, err := mirror.Settle(d.size, script)
	return reply, err
}

// with is the script with a deed more, in memory of its own.
func (d *desk) with(deed api.Deed) []api.Deed {
	return append(slices.Clip(d.script), deed)
}

// putsOf are the puts of blocks, at each place.
func putsOf(blocks []api.Block) []api.Put {
	puts := make([]api.Put, 0, len(blocks))
	for at, b := range blocks {
		puts = append(puts, api.Put{At: at, Data: b})
	}
	return puts
}
