package farm_test

import (
	"math"
	"reflect"
	"runtime"
	"slices"
	"sync"
	"testing"
	"time"

	"stillwater/api"
	"stillwater/farm"
	"stillwater/mirror"
)

// die: numbers that look drawn, the same each time.
type die uint64

func (d *die) n(most int) int {
	*d = *d*6364136223846793005 + 1442695040888963407
	return int(uint64(*d>>33) % uint64(most))
}

func write(place int, first byte) api.Deed {
	return api.Deed{Kind: api.Write, At: place, Data: api.Block{first, 7: first ^ 0x55}}
}

func of(kind int) api.Deed { return api.Deed{Kind: kind} }

// mixed: a script of deeds of all kinds, for n blocks, now and then one that is wrong.
func mixed(d *die, many, n int) []api.Deed {
	kinds := []int{api.Write, api.Write, api.Write, api.Trim, api.Read, api.Barrier, api.Barrier, api.Tick, api.Tick, api.Deliver, api.Deliver, api.Deliver, api.Lose, api.Double, api.Garble, api.CrashFirst, api.CrashOther}
	var script []api.Deed
	for range many {
		x := api.Deed{Kind: kinds[d.n(len(kinds))], At: d.n(n), From: d.n(90), Data: api.Block{byte(d.n(5)), 7: byte(d.n(2))}}
		if d.n(30) == 0 {
			x.At = []int{-1, n, math.MinInt, math.MaxInt}[d.n(4)]
		}
		if d.n(50) == 0 {
			x.Kind = []int{-1, api.Deeds}[d.n(2)]
		}
		script = append(script, x)
	}
	return script
}

// several mixed scripts, one of them without a deed now and then.
func several(d *die, many, deeds, n int) [][]api.Deed {
	var scripts [][]api.Deed
	for range many {
		scripts = append(scripts, mixed(d, d.n(deeds+1), n))
	}
	return scripts
}

// tooLong: a script that no pair plays.
func tooLong() []api.Deed { return make([]api.Deed, api.MaxScript+1) }

// digest of bytes, and of the tree over blocks, by the words of the document alone.
func digest(b []byte) uint64 {
	d := uint64(14695981039346656037)
	for _, c := range b {
		d = (d ^ uint64(c)) * 1099511628211
	}
	return d
}

func topOf(blocks []api.Block) uint64 {
	var level []uint64
	for _, b := range blocks {
		level = append(level, digest(append([]byte{0}, b[:]...)))
	}
	for len(level) > 1 {
		var next []uint64
		for len(level) > 0 {
			few := level[:min(4, len(level))]
			level = level[len(few):]
			bytes := []byte{1}
			for _, x := range few {
				for i := range 8 {
					bytes = append(bytes, byte(x>>(56-8*i)))
				}
			}
			next = append(next, digest(bytes))
		}
		level = next
	}
	return level[0]
}

// wanted: the end of a script, by what clients see alone: in the end the backup is the last snapshot.
func wanted(n int, script []api.Deed) farm.End {
	if len(script) > api.MaxScript {
		return farm.End{Err: api.ErrLimit}
	}
	now, last, have := make([]api.Block, n), make([]api.Block, n), 0
	for _, d := range script {
		place := d.At >= 0 && d.At < n
		switch {
		case d.Kind == api.Write && place:
			now[d.At] = d.Data
		case d.Kind == api.Trim && place:
			now[d.At] = api.Block{}
		case d.Kind == api.Barrier:
			last, have = slices.Clone(now), have+1
		case d.Kind == api.CrashFirst:
			now = slices.Clone(last)
		}
	}
	return farm.End{Have: have, Top: topOf(last)}
}

func allWanted(n int, scripts [][]api.Deed) []farm.End {
	var ends []farm.End
	for _, s := range scripts {
		ends = append(ends, wanted(n, s))
	}
	return ends
}

// runs: J1 of scripts that may be played.
func runs(t *testing.T, n int, scripts [][]api.Deed, hands int) []farm.End {
	t.Helper()
	ends, err := farm.Run(n, scripts, hands)
	if err != nil {
		t.Fatalf("J1: Run(%d, %d scripts, %d): %v", n, len(scripts), hands, err)
	}
	if want := allWanted(n, scripts); !slices.Equal(ends, want) {
		t.Fatalf("J1: Run(%d, %v, %d) = %v; wanted is %v", n, scripts, hands, ends, want)
	}
	return ends
}

func TestOneScript(t *testing.T) {
	script := []api.Deed{write(1, 7), of(api.Barrier), of(api.Tick), of(api.Lose), write(0, 9), of(api.Barrier), write(2, 3)}
	ends := runs(t, 4, [][]api.Deed{script}, 1)
	blocks := []api.Block{{9, 7: 9 ^ 0x55}, {7, 7: 7 ^ 0x55}, {}, {}}
	if want := (farm.End{Have: 2, Top: topOf(blocks)}); ends[0] != want {
		t.Errorf("J1: %v; wanted is %v", ends[0], want)
	}
}

func TestTheDocumentsSession(t *testing.T) {
	one := api.Block{1}
	script := []api.Deed{
		{Kind: api.Write, At: 1, Data: one}, {Kind: api.Write, At: 2, Data: one}, of(api.Barrier),
		{Kind: api.Write, At: 0, Data: one}, {Kind: api.Trim, At: 2}, of(api.CrashFirst), of(api.Read), of(api.Tick),
	}
	want := farm.End{Have: 1, Top: 6423663479597139808}
	if ends := runs(t, 4, [][]api.Deed{script}, 3); ends[0] != want {
		t.Errorf("J1: %v; wanted is %v", ends[0], want)
	}
}

func TestWhatSettleComesTo(t *testing.T) {
	d := die(101)
	for range 30 {
		n := 1 + d.n(api.MaxBlocks)
		scripts := several(&d, 1+d.n(6), 60, n)
		for i, end := range runs(t, n, scripts, 1+d.n(api.MaxHands)) {
			reply, _, err := mirror.Settle(n, scripts[i])
			if want := (farm.End{Have: reply.Have, Top: topOf(reply.Other)}); err != nil || end != want {
				t.Fatalf("J1: n %d: %v: %v; Settle says %v, %v", n, scripts[i], end, reply, err)
			}
		}
	}
}

func TestEachNumberOfBlocks(t *testing.T) {
	d := die(102)
	for n := 1; n <= api.MaxBlocks; n++ {
		runs(t, n, several(&d, 4, 80, n), 3)
	}
}

func TestEachNumberOfScriptsAndHands(t *testing.T) {
	d := die(103)
	for many := 0; many <= api.MaxRuns; many++ {
		scripts := several(&d, many, 12, 3)
		for hands := 1; hands <= api.MaxHands; hands++ {
			if ends := runs(t, 3, scripts, hands); len(ends) != many {
				t.Fatalf("J1: %d ends of %d scripts, %d hands", len(ends), many, hands)
			}
		}
	}
}

func TestNoScripts(t *testing.T) {
	for _, none := range [][][]api.Deed{nil, {}} {
		for _, n := range []int{1, api.MaxBlocks} {
			for _, hands := range []int{1, api.MaxHands} {
				if ends, err := farm.Run(n, none, hands); err != nil || len(ends) != 0 {
					t.Errorf("J1: Run(%d, no scripts, %d) = %v, %v", n, hands, ends, err)
				}
			}
		}
	}
}

func TestScriptsWithoutADeed(t *testing.T) {
	for _, n := range []int{1, 2, api.MaxBlocks} {
		want := farm.End{Top: topOf(make([]api.Block, n))}
		for _, end := range runs(t, n, [][]api.Deed{nil, {}, nil}, 2) {
			if end != want {
				t.Errorf("J1: n %d: %v; wanted is %v", n, end, want)
			}
		}
	}
}

func TestAsMuchAsCanBe(t *testing.T) {
	d := die(104)
	for _, n := range []int{1, api.MaxBlocks} {
		var scripts [][]api.Deed
		for range api.MaxRuns {
			scripts = append(scripts, mixed(&d, api.MaxScript, n))
		}
		for _, hands := range []int{1, api.MaxHands} {
			runs(t, n, scripts, hands)
		}
	}
}

// TestLongAmongShort: what is done last stands where its script does.
func TestLongAmongShort(t *testing.T) {
	d := die(105)
	for slow := range 12 {
		scripts := several(&d, 12, 2, 5)
		scripts[slow] = mixed(&d, api.MaxScript, 5)
		for hands := 1; hands <= api.MaxHands; hands++ {
			runs(t, 5, scripts, hands)
		}
	}
}

func TestErrorsStandAtTheirPlaces(t *testing.T) {
	d := die(106)
	for wrong := range 1 << 6 {
		scripts := several(&d, 6, 20, 4)
		for i := range scripts {
			if wrong>>i&1 == 1 {
				scripts[i] = tooLong()
			}
		}
		for i, end := range runs(t, 4, scripts, 1+d.n(api.MaxHands)) {
			if bad := wrong>>i&1 == 1; bad != (end == farm.End{Err: api.ErrLimit}) {
				t.Fatalf("J1: script %d of %06b (the last first): %v", i, wrong, end)
			}
		}
	}
}

func TestOneDeedTooMany(t *testing.T) {
	full := slices.Repeat([]api.Deed{of(api.Barrier)}, api.MaxScript)
	ends := runs(t, 1, [][]api.Deed{append(slices.Clone(full), of(api.Barrier)), full}, 2)
	if want := (farm.End{Err: api.ErrLimit}); ends[0] != want || ends[1].Have != api.MaxScript {
		t.Errorf("J1: %v", ends)
	}
}

// TestHowManyHands: the same scripts, with every number of hands, over and over.
func TestHowManyHands(t *testing.T) {
	d := die(107)
	for range 8 {
		n := 1 + d.n(api.MaxBlocks)
		scripts := several(&d, 1+d.n(api.MaxRuns), 25, n)
		scripts[d.n(len(scripts))] = tooLong()
		first := runs(t, n, scripts, 1)
		for range 6 {
			for hands := 1; hands <= api.MaxHands; hands++ {
				ends, err := farm.Run(n, scripts, hands)
				if err != nil || !slices.Equal(ends, first) {
					t.Fatalf("J1: %d hands: %v, %v; with one hand %v", hands, ends, err, first)
				}
			}
		}
	}
}

// TestManyFarmsAtOnce: what else runs is not seen.
func TestManyFarmsAtOnce(t *testing.T) {
	d := die(108)
	scripts := several(&d, 10, 40, 6)
	want := allWanted(6, scripts)
	var running sync.WaitGroup
	for i := range 16 {
		running.Go(func() {
			if ends, err := farm.Run(6, scripts, 1+i%api.MaxHands); err != nil || !slices.Equal(ends, want) {
				t.Errorf("J1, Z2: %v, %v; wanted is %v", ends, err, want)
			}
		})
	}
	running.Wait()
}

func wantError(t *testing.T, n int, scripts [][]api.Deed, hands int, want api.Errno) {
	t.Helper()
	if ends, err := farm.Run(n, scripts, hands); err != want || len(ends) != 0 {
		t.Errorf("J1: Run(%d, %d scripts, %d) = %v, %v; wanted is %v", n, len(scripts), hands, ends, err, want)
	}
}

func TestErrors(t *testing.T) {
	few, full, over := make([][]api.Deed, 2), make([][]api.Deed, api.MaxRuns), make([][]api.Deed, api.MaxRuns+1)
	far := make([][]api.Deed, 1000)
	wrongN := []int{0, -1, api.MaxBlocks + 1, math.MinInt, math.MaxInt, 1<<32 + 1}
	wrongHands := []int{0, -1, api.MaxHands + 1, math.MinInt, math.MaxInt, 1<<32 + 1}
	for _, scripts := range [][][]api.Deed{nil, few, {tooLong()}, full, over, far} {
		for _, n := range wrongN {
			for _, hands := range append([]int{1, api.MaxHands}, wrongHands...) {
				wantError(t, n, scripts, hands, api.ErrRange)
			}
		}
		for _, hands := range wrongHands {
			for _, n := range []int{1, api.MaxBlocks} {
				wantError(t, n, scripts, hands, api.ErrRange)
			}
		}
	}
	for _, n := range []int{1, api.MaxBlocks} {
		for _, hands := range []int{1, api.MaxHands} {
			wantError(t, n, over, hands, api.ErrLimit)
			wantError(t, n, far, hands, api.ErrLimit)
			runs(t, n, full, hands)
		}
	}
}

// TestTooManyScriptsAreNotLookedAt: that there are too many is told, whatever is wrong with one of them.
func TestTooManyScriptsAreNotLookedAt(t *testing.T) {
	scripts := make([][]api.Deed, api.MaxRuns+1)
	for i := range scripts {
		scripts[i] = tooLong()
	}
	wantError(t, 2, scripts, 2, api.ErrLimit)
	wantError(t, 0, scripts, 2, api.ErrRange)
}

// guarded: the scripts as pieces of memory that goes on behind each of them.
func guarded(scripts [][]api.Deed) [][]api.Deed {
	whole := make([][]api.Deed, 0, len(scripts)+1)
	for _, s := range scripts {
		long := append(slices.Clone(s), write(0, 99), of(api.Barrier))
		whole = append(whole, long[:len(s)])
	}
	return append(whole, []api.Deed{write(0, 98), of(api.Barrier)})[:len(scripts)]
}

func TestNothingIsWrittenIntoOrReadBehind(t *testing.T) {
	d := die(109)
	for range 20 {
		scripts := several(&d, 7, 30, 4)
		lent := guarded(scripts)
		runs(t, 4, lent, 1+d.n(api.MaxHands))
		if !reflect.DeepEqual(lent[:8], guarded(scripts)[:8]) {
			t.Fatal("Z2: a list that was handed in was written into")
		}
		for i := range lent {
			if again := guarded(scripts)[i]; !slices.Equal(lent[i][:len(again)+2], again[:len(again)+2]) {
				t.Fatal("Z2: what stands behind a script was written into")
			}
		}
	}
}

// TestScriptsThatShareMemory: one list may be several scripts, and a piece of another.
func TestScriptsThatShareMemory(t *testing.T) {
	d := die(110)
	long := mixed(&d, 60, 5)
	var scripts [][]api.Deed
	for i := range 20 {
		scripts = append(scripts, long, long[:3*i])
	}
	for hands := 1; hands <= api.MaxHands; hands++ {
		runs(t, 5, scripts, hands)
	}
}

// TestNothingIsKept: scripts may be written into behind the call, and so may what it answered.
func TestNothingIsKept(t *testing.T) {
	d := die(111)
	scripts := several(&d, 9, 30, 4)
	before := runs(t, 4, scripts, 4)
	kept := slices.Clone(before)
	again := runs(t, 4, scripts, 4)
	for i := range again {
		again[i] = farm.End{Have: -1}
	}
	for _, s := range scripts {
		for i := range s {
			s[i] = write(i%4, byte(i))
		}
	}
	if !slices.Equal(before, kept) {
		t.Errorf("Z2: an answer was changed: %v; it was %v", before, kept)
	}
	runs(t, 4, scripts, 4)
}

// TestAllHandsAreJoined: no goroutine goes on behind many calls. The last breath of one may come a little behind its last word.
func TestAllHandsAreJoined(t *testing.T) {
	d := die(112)
	scripts := several(&d, 12, 10, 3)
	before := runtime.NumGoroutine()
	for hands := 1; hands <= api.MaxHands; hands++ {
		runs(t, 3, scripts, hands)
		runs(t, 3, nil, hands)
		runs(t, 3, scripts[:1], hands)
		wantError(t, 3, make([][]api.Deed, api.MaxRuns+1), hands, api.ErrLimit)
	}
	for range 200 {
		if runtime.NumGoroutine() <= before {
			return
		}
		time.Sleep(10 * time.Millisecond)
	}
	t.Errorf("J1: %d goroutines; there were %d", runtime.NumGoroutine(), before)
}
