package mirror_test

import (
	"math"
	"reflect"
	"slices"
	"testing"

	"stillwater/api"
	"stillwater/mirror"
)

// die: numbers that look drawn, the same each time.
type die uint64

func (d *die) n(most int) int {
	*d = *d*6364136223846793005 + 1442695040888963407
	return int(uint64(*d>>33) % uint64(most))
}

// of one kind: a deed that asks for nothing else.
func of(kind int) api.Deed { return api.Deed{Kind: kind} }

func at(kind, place int) api.Deed { return api.Deed{Kind: kind, At: place} }

func write(place int, first byte) api.Deed {
	return api.Deed{Kind: api.Write, At: place, Data: block(first)}
}

func block(first byte) api.Block { return api.Block{first, 7: first ^ 0x55} }

// model: what clients see, and all snapshots.
type model struct {
	now       []api.Block
	snapshots [][]api.Block
}

func newModel(n int) *model {
	return &model{now: make([]api.Block, n), snapshots: [][]api.Block{make([]api.Block, n)}}
}

func (m *model) have() int { return len(m.snapshots) - 1 }

func (m *model) do(d api.Deed) (api.Block, api.Errno) {
	if d.Kind < 0 || d.Kind >= api.Deeds {
		return api.Block{}, api.ErrForm
	}
	place := d.Kind == api.Write || d.Kind == api.Trim || d.Kind == api.Read
	if place && (d.At < 0 || d.At >= len(m.now)) {
		return api.Block{}, api.ErrRange
	}
	switch d.Kind {
	case api.Write:
		m.now[d.At] = d.Data
	case api.Trim:
		m.now[d.At] = api.Block{}
	case api.Read:
		return m.now[d.At], api.OK
	case api.Barrier:
		m.snapshots = append(m.snapshots, slices.Clone(m.now))
	case api.CrashFirst:
		m.now = slices.Clone(m.snapshots[m.have()])
	}
	return api.Block{}, api.OK
}

// always: I1 to I3 behind each deed of a script; the last reply.
func always(t *testing.T, n int, script []api.Deed) api.Reply {
	t.Helper()
	l, err := mirror.Run(n, script)
	if err != nil || len(l) != len(script) {
		t.Fatalf("I1: Run of %d deeds: %d replies, %v", len(script), len(l), err)
	}
	m, last := newModel(n), api.Reply{}
	for i, d := range script {
		r := l[i]
		data, wrong := m.do(d)
		if r.Err != wrong || r.Data != data || r.Have != m.have() {
			t.Fatalf("I1, I2: n %d, deed %d of %v: %v; wanted is %v, %v, Have %d", n, i, script[:i+1], r, wrong, data, m.have())
		}
		if r.Back < last.Back || r.Back > r.Have || r.Safe < 0 || r.Safe > r.Back {
			t.Fatalf("I3: n %d, deed %d of %v: %v; it was %v", n, i, script[:i+1], r, last)
		}
		if !slices.Equal(r.Other, m.snapshots[r.Back]) {
			t.Fatalf("I3: n %d, deed %d of %v: %v is not snapshot %v", n, i, script[:i+1], r, m.snapshots[r.Back])
		}
		last = r
	}
	return last
}

// settles: I4 behind a script; how many ticks.
func settles(t *testing.T, n int, script []api.Deed) int {
	t.Helper()
	m := newModel(n)
	for _, d := range script {
		m.do(d)
	}
	r, ticks, err := mirror.Settle(n, script)
	if err != nil || ticks < 0 || ticks > 3 {
		t.Fatalf("I4: n %d: Settle of %v: %d ticks, %v", n, script, ticks, err)
	}
	want := api.Reply{Have: m.have(), Safe: m.have(), Back: m.have(), Other: m.snapshots[m.have()]}
	if !reflect.DeepEqual(r, want) {
		t.Fatalf("I4: n %d: Settle of %v: %v; wanted is %v", n, script, r, want)
	}
	return ticks
}

// wantError of both.
func wantError(t *testing.T, what string, n int, script []api.Deed, want api.Errno) {
	t.Helper()
	if l, err := mirror.Run(n, script); err != want || len(l) != 0 {
		t.Errorf("%s: Run(%d, %d deeds) = %v, %v; wanted is %v", what, n, len(script), l, err, want)
	}
	if r, ticks, err := mirror.Settle(n, script); err != want || ticks != 0 || !reflect.ValueOf(r).IsZero() {
		t.Errorf("%s: Settle(%d, %d deeds) = %v, %d, %v; wanted is %v", what, n, len(script), r, ticks, err, want)
	}
}

func TestErrors(t *testing.T) {
	long := make([]api.Deed, api.MaxScript+1)
	for _, n := range []int{0, -1, -2, api.MaxBlocks + 1, 1000, math.MinInt, math.MaxInt} {
		for _, script := range [][]api.Deed{nil, {}, {of(api.Tick)}, {of(-1)}, long[1:], long} {
			wantError(t, "I1: no number of blocks", n, script, api.ErrRange)
		}
	}
	for _, n := range []int{1, 2, api.MaxBlocks} {
		wantError(t, "I1: a deed too many", n, long, api.ErrLimit)
		wantError(t, "I1: many too many", n, make([]api.Deed, 5000), api.ErrLimit)
	}
}

func TestNoDeeds(t *testing.T) {
	for n := 1; n <= api.MaxBlocks; n++ {
		for _, script := range [][]api.Deed{nil, {}} {
			always(t, n, script)
			if ticks := settles(t, n, script); ticks != 0 {
				t.Errorf("I4: with nothing to bring over it took %d ticks", ticks)
			}
		}
	}
}

func TestAsManyDeedsAsCanBe(t *testing.T) {
	for _, n := range []int{1, api.MaxBlocks} {
		for kind := range api.Deeds {
			script := slices.Repeat([]api.Deed{{Kind: kind, Data: block(3)}}, api.MaxScript)
			always(t, n, script)
			settles(t, n, script)
		}
	}
	have := always(t, 2, slices.Repeat([]api.Deed{of(api.Barrier)}, api.MaxScript)).Have
	if have != api.MaxScript {
		t.Errorf("I1: %d barriers: Have %d", api.MaxScript, have)
	}
}

func TestKindsThatAreNone(t *testing.T) {
	for _, kind := range []int{-1, -2, api.Deeds, api.Deeds + 1, 256, math.MinInt, math.MaxInt} {
		if r := always(t, 3, []api.Deed{write(1, 5), of(api.Barrier), {Kind: kind, At: 1, Data: block(9)}}); r.Err != api.ErrForm || r.Have != 1 {
			t.Errorf("I2: kind %d: %v", kind, r)
		}
	}
}

func TestPlaces(t *testing.T) {
	for _, n := range []int{1, 2, 7, api.MaxBlocks} {
		for _, place := range []int{0, n - 1, n / 2} {
			l, _ := mirror.Run(n, []api.Deed{write(place, 5), at(api.Read, place), at(api.Trim, place), at(api.Read, place)})
			if l[0].Err != api.OK || l[1].Data != block(5) || l[2].Err != api.OK || l[3].Err != api.OK || l[3].Data != (api.Block{}) {
				t.Errorf("I2: of %d blocks, place %d: %v", n, place, l)
			}
		}
		for _, place := range []int{-1, -2, n, n + 1, api.MaxBlocks, 1 << 40, math.MinInt, math.MaxInt} {
			for _, kind := range []int{api.Write, api.Trim, api.Read} {
				l, _ := mirror.Run(n, []api.Deed{{Kind: kind, At: place, Data: block(9)}, of(api.Barrier)})
				if l[0].Err != api.ErrRange || l[0].Data != (api.Block{}) || !slices.Equal(l[0].Other, make([]api.Block, n)) {
					t.Errorf("I2: of %d blocks, place %d, kind %d: %v", n, place, kind, l[0])
				}
				settles(t, n, []api.Deed{write(0, 5), {Kind: kind, At: place, Data: block(9)}, of(api.Barrier)})
			}
		}
	}
}

func TestOtherDeedsHaveNoPlaces(t *testing.T) {
	for _, kind := range []int{api.Barrier, api.Tick, api.Deliver, api.Lose, api.Double, api.CrashFirst, api.CrashOther, api.Garble} {
		for _, x := range edges {
			l, err := mirror.Run(2, []api.Deed{{Kind: kind, At: x, From: x, Data: block(9)}})
			if err != nil || l[0].Err != api.OK || l[0].Data != (api.Block{}) {
				t.Errorf("I2: kind %d, At and From %d: %v, %v", kind, x, l, err)
			}
		}
	}
}

// edges of At and From.
var edges = []int{0, 1, 2, 3, 5, 63, 64, 65, 1000, 1 << 40, math.MaxInt, math.MaxInt - 1, -1, -2, -3, -4, -64, -65, -1 << 40, math.MinInt, math.MinInt + 1}

func TestRead(t *testing.T) {
	for _, c := range []struct {
		what   string
		script []api.Deed
		want   api.Block
	}{
		{"at the beginning", nil, api.Block{}},
		{"behind Write", []api.Deed{write(1, 5)}, block(5)},
		{"behind two of them", []api.Deed{write(1, 5), write(1, 6)}, block(6)},
		{"behind Write elsewhere", []api.Deed{write(1, 5), write(0, 6), write(2, 7)}, block(5)},
		{"behind Trim", []api.Deed{write(1, 5), at(api.Trim, 1)}, api.Block{}},
		{"behind Trim and Write", []api.Deed{at(api.Trim, 1), write(1, 5)}, block(5)},
		{"behind Barrier", []api.Deed{write(1, 5), of(api.Barrier)}, block(5)},
		{"behind Barrier and Write", []api.Deed{write(1, 5), of(api.Barrier), write(1, 6)}, block(6)},
		{"behind Barrier and Trim", []api.Deed{write(1, 5), of(api.Barrier), at(api.Trim, 1)}, api.Block{}},
		{"behind CrashFirst, no barrier", []api.Deed{write(1, 5), of(api.CrashFirst)}, api.Block{}},
		{"behind CrashFirst, barrier behind Write", []api.Deed{write(1, 5), of(api.Barrier), of(api.CrashFirst)}, block(5)},
		{"behind CrashFirst, barrier ahead of Write", []api.Deed{write(1, 5), of(api.Barrier), write(1, 6), of(api.CrashFirst)}, block(5)},
		{"behind CrashFirst, barrier ahead of Trim", []api.Deed{write(1, 5), of(api.Barrier), at(api.Trim, 1), of(api.CrashFirst)}, block(5)},
		{"behind CrashFirst, two barriers", []api.Deed{write(1, 5), of(api.Barrier), write(1, 6), of(api.Barrier), write(1, 7), of(api.CrashFirst)}, block(6)},
		{"behind CrashFirst twice", []api.Deed{write(1, 5), of(api.Barrier), write(1, 6), of(api.CrashFirst), write(1, 7), of(api.CrashFirst)}, block(5)},
		{"behind CrashFirst and Write", []api.Deed{write(1, 5), of(api.Barrier), of(api.CrashFirst), write(1, 6)}, block(6)},
		{"behind CrashOther", []api.Deed{write(1, 5), of(api.CrashOther)}, block(5)},
		{"behind CrashOther, barrier", []api.Deed{write(1, 5), of(api.Barrier), write(1, 6), of(api.CrashOther)}, block(6)},
		{"behind Tick", []api.Deed{write(1, 5), of(api.Tick), of(api.Deliver), of(api.Deliver), of(api.Tick), of(api.Deliver)}, block(5)},
	} {
		if r := always(t, 3, append(slices.Clone(c.script), at(api.Read, 1))); r.Data != c.want {
			t.Errorf("I2: Read %s: %v; wanted is %v", c.what, r.Data, c.want)
		}
	}
}

func TestWhatWasLostInACrashIsInNoLaterSnapshot(t *testing.T) {
	script := []api.Deed{write(0, 1), of(api.Barrier), write(0, 2), write(1, 3), of(api.CrashFirst), write(2, 4), of(api.Barrier)}
	r, _, err := mirror.Settle(3, script)
	if want := []api.Block{block(1), {}, block(4)}; err != nil || !slices.Equal(r.Other, want) {
		t.Errorf("I2: what was lost in a crash: %v, %v; wanted is %v", r.Other, err, want)
	}
}

func TestBesideAnErrorNothingIsDone(t *testing.T) {
	d := die(91)
	wrong := func(n int) api.Deed {
		kind := []int{api.Write, api.Trim, api.Read, -1, api.Deeds, math.MinInt}[d.n(6)]
		return api.Deed{Kind: kind, At: []int{-1, n, math.MinInt, math.MaxInt}[d.n(4)], Data: block(99)}
	}
	for range 60 {
		n := 1 + d.n(api.MaxBlocks)
		plain := mixed(&d, 150, n, evenly)
		var script []api.Deed
		for _, x := range plain {
			if d.n(2) == 0 {
				script = append(script, wrong(n))
			}
			script = append(script, x)
		}
		script = script[:min(len(script), api.MaxScript)]
		l, err := mirror.Run(n, script)
		if err != nil {
			t.Fatal(err)
		}
		want, _ := mirror.Run(n, plain)
		l = slices.DeleteFunc(l, func(r api.Reply) bool { return r.Err != api.OK })
		want = slices.DeleteFunc(want, func(r api.Reply) bool { return r.Err != api.OK })
		if !reflect.DeepEqual(l, want[:len(l)]) {
			t.Fatalf("I2: deeds that are wrong have done something: %v", script)
		}
	}
}

func TestNothingIsWrittenIntoOrReadBehind(t *testing.T) {
	d := die(92)
	for range 20 {
		n := 1 + d.n(8)
		all := mixed(&d, api.MaxScript, n, evenly)
		before := slices.Clone(all)
		many := d.n(200)
		script := all[:many]
		replies, err := mirror.Run(n, script)
		last, ticks, err2 := mirror.Settle(n, script)
		if err != nil || err2 != nil || !slices.Equal(all, before) {
			t.Fatal("Z2: the script was written into: ", err, err2)
		}
		again, _ := mirror.Run(n, slices.Clip(script))
		lastAgain, ticksAgain, _ := mirror.Settle(n, slices.Clip(script))
		if len(replies) != many || !reflect.DeepEqual(replies, again) || !reflect.DeepEqual(last, lastAgain) || ticks != ticksAgain {
			t.Fatal("Z2: what stands behind the script was read, or the answer hangs on more than its arguments")
		}
		whole, _ := mirror.Run(n, all)
		if !reflect.DeepEqual(replies, whole[:many]) {
			t.Fatal("Z2: replies hang on deeds that are still to come")
		}
	}
}

func TestRepliesShareNoMemory(t *testing.T) {
	script := []api.Deed{write(1, 5), of(api.Barrier), of(api.Tick), of(api.Deliver), of(api.Deliver), of(api.Tick), of(api.Deliver), of(api.Read), of(api.Read)}
	l, _ := mirror.Run(3, script)
	for i := range l {
		want, _ := mirror.Run(3, script)
		got, _ := mirror.Run(3, script)
		for k := range got[i].Other {
			got[i].Other[k], want[i].Other[k] = block(99), block(99)
		}
		_ = append(got[i].Other, block(98))
		if !reflect.DeepEqual(got, want) {
			t.Errorf("Z2: reply %d shares memory with another", i)
		}
	}
}
