package mirror_test

import (
	"math"
	"slices"
	"testing"

	"stillwater/api"
	"stillwater/mirror"
)

// mix: of each kind of deeds, how often it comes.
type mix [api.Deeds]int

var (
	evenly  = mix{5, 2, 2, 3, 4, 5, 1, 1, 1, 1, 1}
	smooth  = mix{8, 2, 1, 2, 4, 16, 0, 0, 0, 0, 0}
	rough   = mix{4, 1, 1, 2, 5, 8, 4, 4, 0, 0, 4}
	falling = mix{4, 1, 1, 3, 5, 10, 1, 1, 2, 2, 1}
	busy    = mix{8, 2, 1, 8, 4, 12, 0, 1, 0, 1, 0}
	jammed  = mix{4, 1, 1, 1, 20, 4, 1, 6, 1, 1, 1}
	bulky   = mix{60, 4, 1, 2, 6, 24, 2, 2, 1, 1, 2}
)

func mixes() []mix { return []mix{evenly, smooth, rough, falling, busy, jammed, bulky} }

// mixed: a script of deeds that come so often, now and then with an At or a kind that is odd.
func mixed(d *die, many, n int, often mix) []api.Deed {
	all := 0
	for _, x := range often {
		all += x
	}
	var script []api.Deed
	for range many {
		x := api.Deed{At: d.n(n), From: d.n(100) - 20, Data: some(d)}
		for left := d.n(all); left >= often[x.Kind]; x.Kind++ {
			left -= often[x.Kind]
		}
		if x.Kind >= api.Deliver {
			x.At = []int{0, d.n(6), d.n(70), -d.n(70)}[d.n(4)]
		}
		if d.n(40) == 0 {
			x.At = edges[d.n(len(edges))]
		}
		if d.n(80) == 0 {
			x.Kind = []int{-1, api.Deeds, math.MinInt, math.MaxInt}[d.n(4)]
		}
		script = append(script, x)
	}
	return script
}

// some block: noughts, one of few, or any.
func some(d *die) api.Block {
	switch d.n(4) {
	case 0:
		return api.Block{}
	case 1:
		return api.Block{byte(d.n(256)), byte(d.n(256)), 7: byte(d.n(256))}
	}
	return block(byte(d.n(3)))
}

func TestLongScripts(t *testing.T) {
	d := die(93)
	for _, often := range mixes() {
		for _, n := range []int{1, 2, 1 + d.n(api.MaxBlocks), 1 + d.n(api.MaxBlocks), api.MaxBlocks} {
			for range 6 {
				script := mixed(&d, api.MaxScript, n, often)
				always(t, n, script)
				settles(t, n, script)
			}
		}
	}
}

func TestSettlesBehindEachDeed(t *testing.T) {
	d := die(94)
	for _, often := range mixes() {
		for _, n := range []int{1, 4, api.MaxBlocks} {
			script := mixed(&d, 120, n, often)
			for many := range len(script) + 1 {
				settles(t, n, script[:many])
			}
		}
	}
	script := mixed(&d, api.MaxScript, 3, evenly)
	for many := range len(script) + 1 {
		settles(t, 3, script[:many])
	}
}

// calm brings the pair of one block to where the backup is known to have snapshot 1.
func calm() []api.Deed {
	return append([]api.Deed{write(0, 1), of(api.Barrier)}, brought()...)
}

// brought: ticks, and all that is under way comes.
func brought() []api.Deed {
	return []api.Deed{of(api.Tick), of(api.Deliver), of(api.Deliver), of(api.Tick), of(api.Deliver), of(api.Deliver)}
}

func TestAllShortScripts(t *testing.T) {
	deeds := []api.Deed{write(0, 2), of(api.Barrier), of(api.Tick), of(api.Deliver), at(api.Deliver, -2), of(api.Lose), of(api.Double), of(api.CrashFirst), of(api.CrashOther), of(api.Garble)}
	barrier := []api.Deed{write(0, 3), of(api.Barrier)}
	begins := [][]api.Deed{
		barrier,
		append(calm(), barrier...),
		append(calm(), append(barrier, of(api.Tick), of(api.Double))...),
		append(calm(), append(barrier, of(api.Tick), of(api.Deliver), of(api.CrashOther))...),
		append(calm(), append(barrier, of(api.CrashFirst), of(api.Tick), of(api.Deliver))...),
	}
	var try func(script []api.Deed, more int)
	try = func(script []api.Deed, more int) {
		settles(t, 1, script)
		if more == 0 {
			always(t, 1, script)
			return
		}
		for _, d := range deeds {
			try(append(script[:len(script):len(script)], d), more-1)
		}
	}
	for _, begin := range begins {
		try(begin, 4)
	}
}

func TestTicksAndDeliveriesBringASnapshotOver(t *testing.T) {
	for n := 1; n <= api.MaxBlocks; n++ {
		var script []api.Deed
		for place := range n {
			script = append(script, write(place, byte(place+1)))
		}
		script = append(script, of(api.Barrier))
		for range 20 {
			script = append(script, of(api.Tick), of(api.Deliver), of(api.Deliver), of(api.Deliver), of(api.Deliver), of(api.Deliver), of(api.Deliver), of(api.Deliver), of(api.Deliver))
		}
		if r := always(t, n, script); r.Back != 1 || r.Safe != 1 {
			t.Errorf("I2: %d blocks, ticks and deliveries: %v", n, r)
		}
	}
}

func TestNothingComesOverByItself(t *testing.T) {
	script := []api.Deed{write(0, 1), of(api.Barrier), of(api.Tick), of(api.Tick), of(api.Read), of(api.CrashOther), of(api.CrashFirst), of(api.Tick), of(api.Barrier)}
	if r := always(t, 2, script); r.Back != 0 || r.Safe != 0 || r.Have != 2 {
		t.Errorf("I2: without a delivery: %v", r)
	}
}

func TestBarriersWithNothingBetween(t *testing.T) {
	for many := range 12 {
		script := calm()
		for range many {
			script = append(script, of(api.Barrier))
		}
		settles(t, 1, script)
		if r := always(t, 1, append(script, brought()...)); r.Back != 1+many || r.Safe != r.Back {
			t.Errorf("I2: %d barriers with nothing between them: %v", many, r)
		}
		script = nil
		for range many {
			script = append(append(script, of(api.Barrier)), brought()...)
		}
		if r := always(t, 2, script); r.Back != many || r.Safe != many {
			t.Errorf("I2: %d barriers with nothing written at all: %v", many, r)
		}
	}
}

// TestFarBehind: more barriers than are kept, and barriers from ahead of a crash: what the backup has, and is noughts now, must be noughts there too.
func TestFarBehind(t *testing.T) {
	for barriers := 1; barriers <= 2*api.MaxBacklog+1; barriers++ {
		for _, crash := range []int{api.Read, api.CrashFirst, api.CrashOther} {
			script := append([]api.Deed{write(0, 1), write(1, 2), write(2, 3), of(api.Barrier)}, brought()...)
			script = append(script, at(api.Trim, 0), write(2, 4))
			for i := range barriers {
				script = append(script, of(api.Barrier), write(3, byte(i)), at(api.Read, 0))
			}
			script = append(script, of(crash))
			r, _, err := mirror.Settle(5, script)
			if err != nil || r.Back != 1+barriers || r.Other[0] != (api.Block{}) || r.Other[1] != block(2) || r.Other[2] != block(4) {
				t.Errorf("I4: %d barriers, then %d: %v, %v", barriers, crash, r, err)
			}
			settles(t, 5, script)
			if r := always(t, 5, append(script, append(brought(), brought()...)...)); r.Back != 1+barriers || r.Safe != r.Back {
				t.Errorf("I2: %d barriers, then %d: %v", barriers, crash, r)
			}
		}
	}
}

func TestCrashes(t *testing.T) {
	crashes := [][]api.Deed{
		{of(api.CrashFirst)},
		{of(api.CrashOther)},
		{of(api.CrashFirst), of(api.CrashOther)},
		{of(api.CrashOther), of(api.CrashFirst)},
		{of(api.CrashFirst), of(api.CrashFirst)},
		{of(api.CrashOther), of(api.CrashOther)},
	}
	whole := []api.Deed{write(0, 1), write(3, 9), of(api.Barrier), write(0, 2), at(api.Trim, 3), of(api.Barrier)}
	whole = append(append(whole, brought()...), write(1, 3), of(api.Barrier), write(2, 2), of(api.Barrier))
	whole = append(append(whole, of(api.Tick), of(api.Double), of(api.Tick)), brought()...)
	for many := range len(whole) + 1 {
		for _, crash := range crashes {
			script := append(append(whole[:many:many], crash...), whole[many:]...)
			always(t, 4, script)
			for end := range len(script) + 1 {
				settles(t, 4, script[:end])
			}
		}
	}
}

// TestPartsOfASnapshot: what takes several messages has come in part, in any order, when one of both begins anew.
func TestPartsOfASnapshot(t *testing.T) {
	full := func(add int) []api.Deed {
		var script []api.Deed
		for place := range api.MaxBlocks {
			script = append(script, write(place, byte(place+add)))
		}
		return append(script, of(api.Barrier))
	}
	begin := append(append(calm(), full(3)...), of(api.Tick))
	for _, crash := range []int{api.Read, api.CrashFirst, api.CrashOther} {
		for orders := range 4 * 3 * 2 {
			script := slices.Clone(begin)
			for many := range 6 {
				settles(t, api.MaxBlocks, append(slices.Clone(script), of(crash)))
				end := append(append(slices.Clone(script), of(crash)), full(99)...)
				end = append(append(end, brought()...), of(crash))
				always(t, api.MaxBlocks, end)
				settles(t, api.MaxBlocks, end)
				script = append(script, at(api.Deliver, []int{orders / 6, orders / 2 % 3, orders % 2, 0, 0, 0}[many]))
			}
			always(t, api.MaxBlocks, script)
		}
	}
}

func TestTheBackupKeepsWhatItHas(t *testing.T) {
	script := append([]api.Deed{write(1, 5), of(api.Barrier)}, brought()...)
	for _, kind := range []int{api.CrashOther, api.CrashFirst, api.CrashOther, api.CrashFirst, api.Tick, api.Barrier} {
		script = append(script, of(kind))
		if r := always(t, 2, script); r.Back != 1 || r.Other[1] != block(5) {
			t.Errorf("I3: behind kind %d: %v", kind, r)
		}
	}
}

// waiting: one message is under way to a pair of one block; whoever delivers it sees Back 2.
func waiting() []api.Deed {
	return append(calm(), write(0, 2), of(api.Barrier), of(api.Tick))
}

// back is which snapshot the backup has behind deeds that come behind waiting.
func back(t *testing.T, deeds ...api.Deed) int {
	t.Helper()
	script := append(waiting(), deeds...)
	settles(t, 1, script)
	return always(t, 1, script).Back
}

// ofTwo: a number made a place of two, by the document's words.
func ofTwo(x int) int {
	if x < 0 {
		x = -(x + 1)
	}
	return x % 2
}

func TestWhichMessage(t *testing.T) {
	if b := back(t); b != 1 {
		t.Fatalf("I2: nothing delivered: Back %d", b)
	}
	two := []api.Deed{of(api.Double), of(api.Garble)} // of which the first one is not whole any more
	for _, x := range edges {
		second := ofTwo(x) == 1
		if b := back(t, at(api.Deliver, x)); b != 2 {
			t.Errorf("I2: the only message, by At %d: Back %d", x, b)
		}
		if b := back(t, append(two, at(api.Deliver, x))...); (b == 2) != second {
			t.Errorf("I2: Deliver, At %d, the first of two garbled: Back %d", x, b)
		}
		if b := back(t, append(two, at(api.Lose, x), of(api.Deliver))...); (b == 2) == second {
			t.Errorf("I2: Lose, At %d, the first of two garbled: Back %d", x, b)
		}
		if b := back(t, append(two, at(api.Lose, x), of(api.Lose), of(api.Deliver), at(api.Deliver, 1))...); b != 1 {
			t.Errorf("I2: Lose, At %d, and the other one: Back %d", x, b)
		}
		if b := back(t, append(two, at(api.Double, x), of(api.Lose), of(api.Lose), of(api.Deliver))...); (b == 2) != second {
			t.Errorf("I2: Double, At %d, the first of two garbled: Back %d", x, b)
		}
		if b := back(t, of(api.Double), at(api.Garble, x), of(api.Deliver)); (b == 2) != second {
			t.Errorf("I2: Garble, At %d: Back %d", x, b)
		}
		if b := back(t, api.Deed{Kind: api.Garble, From: x}, of(api.Deliver)); b != 1 {
			t.Errorf("I2: Garble, From %d: Back %d", x, b)
		}
	}
	for from := range 40 {
		if b := back(t, api.Deed{Kind: api.Garble, From: from}, of(api.Deliver)); b != 1 {
			t.Errorf("I2: Garble, From %d: Back %d", from, b)
		}
	}
}

func TestGarbledDoubledAndGarbledAgain(t *testing.T) {
	for _, deeds := range [][]api.Deed{
		{of(api.Garble), of(api.Double), of(api.Garble)},
		{of(api.Garble), of(api.Double), at(api.Garble, 1)},
		{of(api.Garble), of(api.Double), of(api.Garble), at(api.Garble, 1), of(api.Garble)},
		{of(api.Garble), of(api.Garble), of(api.Double)},
		{of(api.Double), of(api.Garble), at(api.Garble, 1)},
	} {
		for range 256 {
			deeds = append(deeds, of(api.Garble))
		}
		if b := back(t, append(deeds, of(api.Deliver), of(api.Deliver))...); b != 1 {
			t.Errorf("I2: a message that was garbled came: %v: Back %d", deeds, b)
		}
	}
}

func TestWhatIsUnderWayComesAheadOfTicks(t *testing.T) {
	if ticks := settles(t, 1, append(waiting(), of(api.Deliver))); ticks != 0 {
		t.Errorf("I4: only an answer was under way: %d ticks", ticks)
	}
	if ticks := settles(t, 1, waiting()); ticks != 0 {
		t.Errorf("I4: the last message was under way: %d ticks", ticks)
	}
	if ticks := settles(t, 1, append(waiting(), of(api.Lose))); ticks == 0 {
		t.Error("I4: nothing was under way: no tick")
	}
}

func TestDoubles(t *testing.T) {
	if b := back(t, of(api.Double), of(api.Deliver), of(api.Deliver), of(api.Deliver)); b != 2 {
		t.Errorf("I2: a message and its double: Back %d", b)
	}
	if b := back(t, of(api.Double), of(api.Lose), of(api.Deliver)); b != 2 {
		t.Errorf("I2: one lost of two: Back %d", b)
	}
	if b := back(t, of(api.Lose), of(api.Double), of(api.Garble), of(api.Deliver), of(api.Lose)); b != 1 {
		t.Errorf("I2: with nothing under way: Back %d", b)
	}
}

// repeat a deed.
func repeat(d api.Deed, many int) []api.Deed { return slices.Repeat([]api.Deed{d}, many) }

// hurt: so many messages are under way, none of which is whole; a tick sends one that is.
func hurt(many int) []api.Deed {
	return append([]api.Deed{of(api.Garble)}, repeat(of(api.Double), many-1)...)
}

// TestFullLine: with MaxQueue under way no more are: neither what is sent, nor a double.
func TestFullLine(t *testing.T) {
	for many := api.MaxQueue - 2; many <= api.MaxQueue; many++ {
		script := append(hurt(many), of(api.Tick))
		script = append(append(script, repeat(of(api.Lose), many)...), of(api.Deliver))
		if b := back(t, script...); (b == 2) != (many < api.MaxQueue) {
			t.Errorf("I1: sent with %d under way: Back %d", many, b)
		}
	}
	for more := 1; more <= 3; more++ {
		script := append(hurt(api.MaxQueue+more), of(api.Lose), of(api.Tick))
		script = append(append(script, repeat(of(api.Lose), api.MaxQueue-1)...), of(api.Deliver))
		if b := back(t, script...); b != 2 {
			t.Errorf("I1: doubles, %d more than MaxQueue: Back %d", more, b)
		}
	}
}

func TestAFullLineHasRoomForTheAnswer(t *testing.T) {
	script := append(append(waiting(), hurt(api.MaxQueue-1)...), of(api.Tick), at(api.Deliver, api.MaxQueue-1))
	script = append(append(script, repeat(of(api.Lose), api.MaxQueue-1)...), of(api.Deliver))
	if r := always(t, 1, script); r.Back != 2 || r.Safe != 2 {
		t.Errorf("I1: the message that comes leaves the line ahead of its answer: %v", r)
	}
}

func TestManyTicksWithNothingDelivered(t *testing.T) {
	for _, begin := range [][]api.Deed{nil, {of(api.Barrier)}, waiting()} {
		for many := api.MaxQueue - 1; many <= api.MaxQueue+2; many++ {
			script := append(slices.Clone(begin), repeat(of(api.Tick), many)...)
			always(t, 1, script)
			settles(t, 1, script)
		}
	}
}
