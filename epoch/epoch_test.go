package epoch_test

import (
	"math"
	"reflect"
	"slices"
	"strconv"
	"testing"

	"stillwater/api"
	"stillwater/epoch"
)

// die: numbers that look drawn, the same each time.
type die uint64

func (d *die) n(most int) int {
	*d = *d*6364136223846793005 + 1442695040888963407
	return int(uint64(*d>>33) % uint64(most))
}

// puts: at each of these places a block that tells the place and a mark.
func puts(mark byte, places ...int) []api.Put {
	var l []api.Put
	for _, at := range places {
		l = append(l, api.Put{At: at, Data: api.Block{mark, 7: byte(at)}})
	}
	return l
}

// all: the places of n blocks.
func all(n int) []int {
	var l []int
	for at := range n {
		l = append(l, at)
	}
	return l
}

// kept: epochs, as many as there are lists of puts, the last one of number num.
func kept(num int, lists ...[]api.Put) []epoch.Epoch {
	var l []epoch.Epoch
	for i, p := range lists {
		l = append(l, epoch.Epoch{Num: num - len(lists) + 1 + i, Puts: p})
	}
	return l
}

// several: so many epochs up to num, of few blocks, some of them without puts.
func several(many, num int) []epoch.Epoch {
	lists := [][]api.Put{puts(1, 0), nil, puts(3, 0, 2), puts(4, 1), {}, puts(6, 2)}
	return kept(num, lists[:many]...)
}

func sameEpoch(a, b epoch.Epoch) bool {
	return a.Num == b.Num && slices.Equal(a.Puts, b.Puts)
}

func sameBuilder(a, b epoch.Builder) bool {
	return a.Num == b.Num && a.Behind == b.Behind && slices.Equal(a.Open, b.Open) && slices.EqualFunc(a.Sealed, b.Sealed, sameEpoch)
}

func clone(b epoch.Builder) epoch.Builder {
	c := epoch.Builder{Num: b.Num, Open: slices.Clone(b.Open), Behind: b.Behind}
	for _, e := range b.Sealed {
		c.Sealed = append(c.Sealed, epoch.Epoch{Num: e.Num, Puts: slices.Clone(e.Puts)})
	}
	return c
}

func wantBuilder(t *testing.T, what string, got epoch.Builder, err error, want epoch.Builder) {
	t.Helper()
	if err != nil || !sameBuilder(got, want) {
		t.Errorf("%s: %v, %v; wanted is %v", what, got, err, want)
	}
}

func wantSince(t *testing.T, what string, b epoch.Builder, n, num int, want epoch.Epoch, wantOK bool) {
	t.Helper()
	got, ok, err := epoch.Since(b, n, num)
	if err != nil || ok != wantOK || !sameEpoch(got, want) {
		t.Errorf("%s: Since(%v, %d, %d) = %v, %v, %v; wanted is %v, %v", what, b, n, num, got, ok, err, want, wantOK)
	}
}

func wantError(t *testing.T, what string, got any, err error, want api.Errno) {
	t.Helper()
	if err != error(want) {
		t.Errorf("%s: %v; wanted is %v", what, err, want)
	}
	if !reflect.ValueOf(got).IsZero() {
		t.Errorf("%s: beside an error it answers %v", what, got)
	}
}

func wantSinceError(t *testing.T, what string, b epoch.Builder, n, num int, want api.Errno) {
	t.Helper()
	got, ok, err := epoch.Since(b, n, num)
	wantError(t, what, got, err, want)
	if ok {
		t.Errorf("%s: beside an error it answers true", what)
	}
}

// goodBuilders: such as may be, of three blocks or more, at the edges and between them.
func goodBuilders() []epoch.Builder {
	l := []epoch.Builder{
		{},
		{Open: []api.Put{}, Sealed: []epoch.Epoch{}},
		{Num: api.MaxNumber},
		{Num: 7, Behind: true},
		{Num: 7, Open: puts(9, 0, 2), Behind: true},
		{Num: api.MaxNumber, Open: puts(9, 1), Behind: true},
		{Behind: true},
	}
	for many := range api.MaxBacklog + 1 {
		for _, num := range []int{many, many + 1, 100, api.MaxNumber - 1, api.MaxNumber} {
			l = append(l, epoch.Builder{Num: num, Sealed: several(many, num)})
			l = append(l, epoch.Builder{Num: num, Open: puts(9, 1, 2), Sealed: several(many, num)})
		}
	}
	return l
}

func TestCheckLetsBuildersPass(t *testing.T) {
	for _, b := range goodBuilders() {
		for _, n := range []int{3, 4, 31, api.MaxBlocks} {
			if err := epoch.Check(b, n); err != nil {
				t.Errorf("F1: Check(%v, %d): %v", b, n, err)
			}
		}
	}
	for n := 1; n <= api.MaxBlocks; n++ {
		for _, places := range [][]int{nil, {0}, {n - 1}, all(n)} {
			b := epoch.Builder{Num: 5, Open: puts(9, places...), Sealed: kept(5, puts(1, places...), nil, puts(2, places...))}
			if err := epoch.Check(b, n); err != nil {
				t.Errorf("F1: Check of places %v of %d: %v", places, n, err)
			}
		}
	}
}

// wrong: a builder, or a number of blocks, that may not be.
type wrong struct {
	name string
	b    epoch.Builder
	n    int
	want api.Errno
}

// wrongPlaces: lists of places that are none of n blocks, or don't rise.
func wrongPlaces(n int) [][]int {
	l := [][]int{{-1}, {n}, {n + 1}, {1 << 32}, {math.MaxInt}, {math.MinInt}, {0, 0}, {n - 1, n - 1}, {0, n}, {-1, 0}, append(all(n), n-1), append(all(n), n)}
	if n > 1 {
		l = append(l, []int{1, 0}, []int{n - 1, 0}, []int{0, 1, 0}, []int{0, 1, 1})
	}
	return l
}

// wrongForms: of three blocks or more, each with something that ErrForm is for.
func wrongForms() []wrong {
	var l []wrong
	add := func(name string, b epoch.Builder, n int) {
		l = append(l, wrong{name, b, n, api.ErrForm})
	}
	for _, n := range []int{1, 2, 3, 31, api.MaxBlocks} {
		for _, places := range wrongPlaces(n) {
			bad := puts(1, places...)
			add("places of Open", epoch.Builder{Open: bad}, n)
			add("places of Open, behind", epoch.Builder{Num: 3, Open: bad, Behind: true}, n)
			add("places of the first epoch", epoch.Builder{Num: 4, Sealed: kept(4, bad, nil, puts(2, 0), nil)}, n)
			add("places of an epoch", epoch.Builder{Num: 4, Sealed: kept(4, nil, puts(2, 0), bad, nil)}, n)
			add("places of the last epoch", epoch.Builder{Num: 9, Sealed: kept(9, puts(2, 0), bad)}, n)
		}
	}
	for many := 1; many <= api.MaxBacklog; many++ {
		name := strconv.Itoa(many) + " epochs: "
		add(name+"behind", epoch.Builder{Num: 8, Sealed: several(many, 8), Behind: true}, 3)
		add(name+"up to one less", epoch.Builder{Num: 9, Sealed: several(many, 8)}, 3)
		add(name+"up to one more", epoch.Builder{Num: 7, Sealed: several(many, 8)}, 3)
		add(name+"from 0 on", epoch.Builder{Num: many - 1, Sealed: several(many, many-1)}, 3)
		add(name+"from -1 on", epoch.Builder{Num: many, Sealed: several(many, many-2)}, 3)
		for i := range many {
			for _, num := range []int{0, -1, 7 - many + i, 9 - many + i + 1, 100, math.MaxInt, math.MinInt} {
				if num == 8-many+1+i {
					continue
				}
				b := epoch.Builder{Num: 8, Sealed: several(many, 8)}
				b.Sealed[i].Num = num
				add(name+"another number", b, 3)
			}
		}
		if many > 1 {
			b := epoch.Builder{Num: 8, Sealed: several(many, 8)}
			slices.Reverse(b.Sealed)
			add(name+"falling", b, 3)
			b = epoch.Builder{Num: 8, Sealed: several(many, 8)}
			for i := range b.Sealed {
				b.Sealed[i].Num = 8
			}
			add(name+"all of one number", b, 3)
		}
	}
	return l
}

func wrongBuilders() []wrong {
	l := wrongForms()
	good := epoch.Builder{Num: 4, Open: puts(1, 0), Sealed: several(2, 4)}
	bad := epoch.Builder{Num: -1, Open: puts(1, -1), Sealed: several(5, 3), Behind: true}
	for _, n := range []int{0, -1, api.MaxBlocks + 1, 1 << 32, math.MaxInt, math.MinInt} {
		l = append(l, wrong{"no blocks, or too many", good, n, api.ErrRange})
		l = append(l, wrong{"no blocks, or too many, of the first builder", epoch.Builder{}, n, api.ErrRange})
		l = append(l, wrong{"no blocks, or too many, and all else", bad, n, api.ErrRange})
	}
	for _, num := range []int{-1, api.MaxNumber + 1, math.MaxInt, math.MinInt} {
		l = append(l, wrong{"no such Num", epoch.Builder{Num: num}, 3, api.ErrRange})
		l = append(l, wrong{"no such Num, behind", epoch.Builder{Num: num, Behind: true}, 3, api.ErrRange})
		l = append(l, wrong{"no such Num, with epochs", epoch.Builder{Num: num, Sealed: several(2, num)}, 3, api.ErrRange})
		l = append(l, wrong{"no such Num, too many epochs", epoch.Builder{Num: num, Sealed: several(5, num)}, 3, api.ErrRange})
		l = append(l, wrong{"no such Num, places that fall", epoch.Builder{Num: num, Open: puts(1, 1, 0)}, 3, api.ErrRange})
	}
	for _, many := range []int{api.MaxBacklog + 1, api.MaxBacklog + 2} {
		l = append(l, wrong{"too many epochs", epoch.Builder{Num: 9, Sealed: several(many, 9)}, 3, api.ErrLimit})
		l = append(l, wrong{"too many epochs, behind", epoch.Builder{Num: 9, Sealed: several(many, 9), Behind: true}, 3, api.ErrLimit})
		l = append(l, wrong{"too many epochs, of other numbers", epoch.Builder{Num: 2, Sealed: several(many, 9)}, 3, api.ErrLimit})
		l = append(l, wrong{"too many epochs, places that fall", epoch.Builder{Num: 9, Open: puts(1, 1, 0), Sealed: several(many, 9)}, 1, api.ErrLimit})
	}
	return l
}

// Each call asks Check ahead of what may be wrong with its other arguments.
func TestWrongBuildersAreRefused(t *testing.T) {
	for _, w := range wrongBuilders() {
		before := clone(w.b)
		wantError(t, "F1: Check: "+w.name, 0, epoch.Check(w.b, w.n), w.want)
		for _, x := range []int{0, -1, 1, w.b.Num, math.MaxInt, math.MinInt} {
			b, err := epoch.Add(w.b, w.n, api.Put{At: x})
			wantError(t, "F1: Add: "+w.name, b, err, w.want)
			b, err = epoch.Drop(w.b, w.n, x)
			wantError(t, "F1: Drop: "+w.name, b, err, w.want)
			wantSinceError(t, "F1: Since: "+w.name, w.b, w.n, x, w.want)
		}
		b, err := epoch.Seal(w.b, w.n)
		wantError(t, "F1: Seal: "+w.name, b, err, w.want)
		if !sameBuilder(w.b, before) {
			t.Errorf("Z2: %s: it was written into", w.name)
		}
	}
}

func TestTheDocumentsExample(t *testing.T) {
	x, y, z := api.Block{1}, api.Block{2}, api.Block{3}
	const n = 2
	b := epoch.Builder{}
	do := func(next epoch.Builder, err error) {
		t.Helper()
		if err != nil {
			t.Fatalf("F2: %v", err)
		}
		b = next
	}
	do(epoch.Add(b, n, api.Put{At: 1, Data: x}))
	do(epoch.Seal(b, n))
	do(epoch.Add(b, n, api.Put{At: 0, Data: y}))
	do(epoch.Add(b, n, api.Put{At: 1, Data: z}))
	do(epoch.Seal(b, n))
	both := epoch.Epoch{Num: 2, Puts: []api.Put{{At: 0, Data: y}, {At: 1, Data: z}}}
	wantSince(t, "F3", b, n, 1, both, true)
	wantSince(t, "F3", b, n, 0, both, true)
	wantSince(t, "F3", b, n, 2, epoch.Epoch{Num: 2}, true)
}

// Each set of places of four, and each place added to it.
func TestAddAtEachPlace(t *testing.T) {
	const n = 4
	for set := range 1 << n {
		var open []int
		for at := range n {
			if set>>at&1 == 1 {
				open = append(open, at)
			}
		}
		for at := range n {
			b := epoch.Builder{Num: 6, Open: puts(1, open...), Sealed: several(3, 6)}
			want := clone(b)
			i, there := slices.BinarySearch(open, at)
			if !there {
				want.Open = slices.Insert(want.Open, i, api.Put{})
			}
			want.Open[i] = puts(2, at)[0]
			got, err := epoch.Add(b, n, puts(2, at)[0])
			wantBuilder(t, "F2: Add to places "+strconv.Itoa(set), got, err, want)
		}
	}
}

func TestAddToEachBuilder(t *testing.T) {
	for _, b := range goodBuilders() {
		for _, n := range []int{3, api.MaxBlocks} {
			p := api.Put{At: n - 1, Data: api.Block{8, 8}}
			want := clone(b)
			want.Open = append(slices.DeleteFunc(want.Open, func(q api.Put) bool { return q.At == p.At }), p)
			got, err := epoch.Add(b, n, p)
			wantBuilder(t, "F2: Add", got, err, want)
		}
	}
}

func TestAddOfNoughtsIsAPut(t *testing.T) {
	got, err := epoch.Add(epoch.Builder{Open: puts(1, 0, 1)}, 3, api.Put{At: 1})
	wantBuilder(t, "F2: Add", got, err, epoch.Builder{Open: []api.Put{puts(1, 0)[0], {At: 1}}})
}

func TestAddOfMaxBlocks(t *testing.T) {
	b := epoch.Builder{}
	for i := range api.MaxBlocks {
		at := i * 13 % api.MaxBlocks
		var err error
		if b, err = epoch.Add(b, api.MaxBlocks, puts(5, at)[0]); err != nil {
			t.Fatalf("F2: Add at %d: %v", at, err)
		}
	}
	wantBuilder(t, "F2: Add at all places", b, nil, epoch.Builder{Open: puts(5, all(api.MaxBlocks)...)})
}

func TestAddAtNoPlace(t *testing.T) {
	for _, b := range goodBuilders() {
		for _, n := range []int{3, api.MaxBlocks - 1, api.MaxBlocks} {
			for _, at := range []int{-1, n, n + 1, api.MaxBlocks, 1 << 32, math.MaxInt, math.MinInt} {
				got, err := epoch.Add(b, n, api.Put{At: at})
				wantError(t, "F2: Add at no place", got, err, api.ErrRange)
			}
		}
	}
	got, err := epoch.Add(epoch.Builder{}, 1, api.Put{At: 1})
	wantError(t, "F2: Add behind the one place", got, err, api.ErrRange)
}

func TestSeal(t *testing.T) {
	for many := range api.MaxBacklog {
		for _, num := range []int{many, 50, api.MaxNumber - 1} {
			for _, open := range [][]api.Put{nil, {}, puts(7, 1), puts(7, 0, 1, 2)} {
				b := epoch.Builder{Num: num, Open: open, Sealed: several(many, num)}
				want := epoch.Builder{Num: num + 1, Sealed: append(several(many, num), epoch.Epoch{Num: num + 1, Puts: open})}
				got, err := epoch.Seal(b, 3)
				wantBuilder(t, "F2: Seal", got, err, want)
			}
		}
	}
}

func TestSealWhenAllThatMayBeKeptIsKept(t *testing.T) {
	for _, num := range []int{api.MaxBacklog, 50, api.MaxNumber - 1} {
		for _, open := range [][]api.Put{nil, puts(7, 0, 2)} {
			b := epoch.Builder{Num: num, Open: open, Sealed: several(api.MaxBacklog, num)}
			got, err := epoch.Seal(b, 3)
			wantBuilder(t, "F2: Seal of MaxBacklog", got, err, epoch.Builder{Num: num + 1, Behind: true})
			if err := epoch.Check(got, 3); err != nil {
				t.Errorf("F1: what Seal answers may not be: %v", err)
			}
		}
	}
}

func TestSealBehind(t *testing.T) {
	for _, num := range []int{0, 5, api.MaxNumber - 1} {
		for _, open := range [][]api.Put{nil, puts(7, 0, 2)} {
			got, err := epoch.Seal(epoch.Builder{Num: num, Open: open, Behind: true}, 3)
			wantBuilder(t, "F2: Seal, behind", got, err, epoch.Builder{Num: num + 1, Behind: true})
		}
	}
}

func TestSealAtTheLastNumber(t *testing.T) {
	for _, b := range goodBuilders() {
		got, err := epoch.Seal(b, 3)
		if b.Num == api.MaxNumber {
			wantError(t, "F2: Seal at MaxNumber", got, err, api.ErrLimit)
		} else if err != nil || got.Num != b.Num+1 || len(got.Open) > 0 {
			t.Errorf("F2: Seal of %v: %v, %v", b, got, err)
		}
	}
}

// numbersOf: those up to which may be dropped, as far as they are near to what is kept.
func numbersOf(b epoch.Builder) []int {
	l := []int{0, b.Num / 2}
	for num := max(0, b.Num-api.MaxBacklog-2); num <= b.Num; num++ {
		l = append(l, num)
	}
	return l
}

func TestDrop(t *testing.T) {
	for _, b := range goodBuilders() {
		for _, num := range numbersOf(b) {
			want := clone(b)
			want.Sealed = slices.DeleteFunc(want.Sealed, func(e epoch.Epoch) bool { return e.Num <= num })
			if num == b.Num {
				want.Sealed, want.Behind = nil, false
			}
			got, err := epoch.Drop(b, 3, num)
			wantBuilder(t, "F3: Drop up to "+strconv.Itoa(num), got, err, want)
		}
	}
}

func TestDropOfAllIsTheEndOfBehind(t *testing.T) {
	b := epoch.Builder{Num: 9, Open: puts(1, 2), Behind: true}
	for _, num := range []int{0, 1, 8} {
		got, err := epoch.Drop(b, 3, num)
		wantBuilder(t, "F3: Drop of fewer", got, err, b)
	}
	got, err := epoch.Drop(b, 3, 9)
	wantBuilder(t, "F3: Drop of all", got, err, epoch.Builder{Num: 9, Open: puts(1, 2)})
	got, err = epoch.Seal(got, 3)
	wantBuilder(t, "F3: Seal then", got, err, epoch.Builder{Num: 10, Sealed: kept(10, puts(1, 2))})
}

func TestNumbersThatAreNone(t *testing.T) {
	for _, b := range goodBuilders() {
		for _, num := range []int{-1, b.Num + 1, b.Num + 2, math.MaxInt, math.MinInt} {
			got, err := epoch.Drop(b, 3, num)
			wantError(t, "F3: Drop up to no barrier", got, err, api.ErrRange)
			wantSinceError(t, "F3: Since no barrier", b, 3, num, api.ErrRange)
		}
	}
}

// since: what Since is to answer, by looking for each place from the last epoch on.
func since(b epoch.Builder, n, num int) (epoch.Epoch, bool) {
	for k := b.Num; k > num; k-- {
		if !slices.ContainsFunc(b.Sealed, func(e epoch.Epoch) bool { return e.Num == k }) {
			return epoch.Epoch{}, false
		}
	}
	want := epoch.Epoch{Num: b.Num}
	for at := range n {
		for _, e := range slices.Backward(b.Sealed) {
			i := slices.IndexFunc(e.Puts, func(p api.Put) bool { return p.At == at })
			if e.Num > num && i >= 0 {
				want.Puts = append(want.Puts, e.Puts[i])
				break
			}
		}
	}
	return want, true
}

func TestSince(t *testing.T) {
	for _, b := range goodBuilders() {
		for _, num := range numbersOf(b) {
			want, ok := since(b, 3, num)
			wantSince(t, "F3", b, 3, num, want, ok)
		}
	}
}

func TestSinceTakesTheLastPutOfEachPlace(t *testing.T) {
	b := epoch.Builder{Num: 8, Open: puts(9, 0, 1, 2, 3), Sealed: kept(8, puts(5, 0, 3, 31), puts(6, 1, 3), nil, puts(8, 0, 2))}
	cases := []struct {
		num  int
		want []api.Put
	}{
		{8, nil},
		{7, puts(8, 0, 2)},
		{6, puts(8, 0, 2)},
		{5, []api.Put{puts(8, 0)[0], puts(6, 1)[0], puts(8, 2)[0], puts(6, 3)[0]}},
		{4, []api.Put{puts(8, 0)[0], puts(6, 1)[0], puts(8, 2)[0], puts(6, 3)[0], puts(5, 31)[0]}},
	}
	for _, k := range cases {
		wantSince(t, "F3", b, api.MaxBlocks, k.num, epoch.Epoch{Num: 8, Puts: k.want}, true)
	}
	for num := range 4 {
		wantSince(t, "F3: not kept", b, api.MaxBlocks, num, epoch.Epoch{}, false)
	}
	// Noughts that were written are told, and so is a block that was written again as it was.
	b = epoch.Builder{Num: 2, Sealed: kept(2, puts(1, 0, 1), []api.Put{{At: 0}, puts(1, 1)[0]})}
	wantSince(t, "F3", b, 2, 0, epoch.Epoch{Num: 2, Puts: []api.Put{{At: 0}, puts(1, 1)[0]}}, true)
	full := epoch.Builder{Num: 1, Sealed: kept(1, puts(1, all(api.MaxBlocks)...))}
	wantSince(t, "F3", full, api.MaxBlocks, 0, epoch.Epoch{Num: 1, Puts: puts(1, all(api.MaxBlocks)...)}, true)
}

func TestSinceBehind(t *testing.T) {
	for _, open := range [][]api.Put{nil, puts(1, 0)} {
		b := epoch.Builder{Num: 6, Open: open, Behind: true}
		for num := range 6 {
			wantSince(t, "F3: behind", b, 3, num, epoch.Epoch{}, false)
		}
		// Behind the last barrier there is no epoch, so that none of them is missing.
		wantSince(t, "F3: behind, up to date", b, 3, 6, epoch.Epoch{Num: 6}, true)
	}
}

// past: all that was written, also what a builder forgets.
type past struct {
	n         int
	now       []api.Block
	snapshots [][]api.Block
}

func (p *past) put(q api.Put) { p.now[q.At] = q.Data }

func (p *past) barrier() { p.snapshots = append(p.snapshots, slices.Clone(p.now)) }

// wantAsThePast: what was written since a barrier makes of its snapshot the last one; and it is told if no more than MaxBacklog barriers were ever kept, and nothing was dropped of it.
func (p *past) wantAsThePast(t *testing.T, b epoch.Builder, forgotten int) {
	t.Helper()
	for num := range p.snapshots {
		e, ok, err := epoch.Since(b, p.n, num)
		if err != nil || ok != (num >= forgotten) {
			t.Fatalf("F3: Since(%v, %d) = %v, %v; all up to %d is forgotten", b, num, ok, err, forgotten)
		}
		if !ok {
			continue
		}
		blocks := slices.Clone(p.snapshots[num])
		for _, q := range e.Puts {
			blocks[q.At] = q.Data
		}
		if e.Num != b.Num || !slices.Equal(blocks, p.snapshots[b.Num]) {
			t.Fatalf("F3: Since(%v, %d) = %v: it doesn't make snapshot %d", b, num, e, b.Num)
		}
	}
}

func TestManyBarriers(t *testing.T) {
	for seed := range 60 {
		d := die(seed)
		n := 1 + d.n(api.MaxBlocks)
		b := epoch.Builder{}
		p := past{n: n, now: make([]api.Block, n)}
		p.barrier()
		forgotten, stale := 0, false
		for range 80 {
			var err error
			switch d.n(6) {
			case 0, 1, 2:
				q := api.Put{At: d.n(n), Data: api.Block{byte(d.n(3))}}
				b, err = epoch.Add(b, n, q)
				p.put(q)
			case 3, 4:
				b, err = epoch.Seal(b, n)
				p.barrier()
				if stale = stale || b.Num-forgotten > api.MaxBacklog; stale {
					forgotten = b.Num
				}
			default:
				num := b.Num - d.n(min(b.Num, 5)+1)
				b, err = epoch.Drop(b, n, num)
				forgotten = max(forgotten, num)
				stale = stale && num != b.Num
			}
			if err != nil || b.Num != len(p.snapshots)-1 || b.Behind != stale {
				t.Fatalf("F2: %v, %v: there were %d barriers, behind is %v", b, err, len(p.snapshots)-1, stale)
			}
			if err := epoch.Check(b, n); err != nil {
				t.Fatalf("F1: Check(%v, %d): %v", b, n, err)
			}
			p.wantAsThePast(t, b, forgotten)
		}
	}
}

// spill: the builder, its lists with something behind their ends.
func spill(b epoch.Builder) epoch.Builder {
	c := epoch.Builder{Num: b.Num, Behind: b.Behind}
	c.Open = append(slices.Clone(b.Open), puts(99, 0, 0)...)[:len(b.Open)]
	for _, e := range b.Sealed {
		c.Sealed = append(c.Sealed, epoch.Epoch{Num: e.Num, Puts: append(slices.Clone(e.Puts), puts(99, 0, 0)...)[:len(e.Puts)]})
	}
	c.Sealed = append(c.Sealed, epoch.Epoch{Num: 99, Puts: puts(99, 0)})[:len(b.Sealed)]
	return c
}

func wantSpill(t *testing.T, c, was epoch.Builder) {
	t.Helper()
	if !sameBuilder(c, was) {
		t.Errorf("Z2: what was handed in is %v, it was %v", c, was)
	}
	lists := [][]api.Put{c.Open}
	for _, e := range c.Sealed {
		lists = append(lists, e.Puts)
	}
	for _, l := range lists {
		if !slices.Equal(l[len(l):len(l)+2], puts(99, 0, 0)) {
			t.Errorf("Z2: behind the puts of %v it was written", was)
		}
	}
	if !sameEpoch(c.Sealed[:len(c.Sealed)+1][len(c.Sealed)], epoch.Epoch{Num: 99, Puts: puts(99, 0)}) {
		t.Errorf("Z2: behind the epochs of %v it was written", was)
	}
}

// wipe: fills all that a builder's lists have, up to their ends in memory.
func wipe(b epoch.Builder) {
	for _, e := range b.Sealed {
		for i := range e.Puts[:cap(e.Puts)] {
			e.Puts[:cap(e.Puts)][i] = api.Put{At: -5}
		}
	}
	for i := range b.Open[:cap(b.Open)] {
		b.Open[:cap(b.Open)][i] = api.Put{At: -5}
	}
	clear(b.Sealed[:cap(b.Sealed)])
}

func TestListsAreNeitherKeptNorWritten(t *testing.T) {
	for _, b := range goodBuilders() {
		calls := map[string]func(epoch.Builder) epoch.Builder{
			"Add":      func(x epoch.Builder) epoch.Builder { y, _ := epoch.Add(x, 4, puts(8, 3)[0]); return y },
			"Add over": func(x epoch.Builder) epoch.Builder { y, _ := epoch.Add(x, 4, puts(8, 1)[0]); return y },
			"Seal":     func(x epoch.Builder) epoch.Builder { y, _ := epoch.Seal(x, 4); return y },
			"Drop":     func(x epoch.Builder) epoch.Builder { y, _ := epoch.Drop(x, 4, x.Num); return y },
			"Drop one": func(x epoch.Builder) epoch.Builder { y, _ := epoch.Drop(x, 4, max(0, x.Num-3)); return y },
			"Since": func(x epoch.Builder) epoch.Builder {
				e, _, _ := epoch.Since(x, 4, max(0, x.Num-1))
				return epoch.Builder{Sealed: []epoch.Epoch{e}}
			},
		}
		for name, call := range calls {
			want := call(clone(b))
			handed := spill(b)
			one, two := call(handed), call(handed)
			wantBuilder(t, "Z2: "+name+" read behind a list", one, nil, want)
			wantSpill(t, handed, b)
			wipe(handed)
			wantBuilder(t, "Z2: "+name+" kept what it was handed", one, nil, want)
			wipe(one)
			wantBuilder(t, "Z2: two answers of "+name+" share memory", two, nil, want)
		}
	}
}

// Each list of an answer, wiped alone, leaves the others as they were.
func TestListsOfAnAnswerShareNothing(t *testing.T) {
	b := epoch.Builder{Num: 3, Open: puts(9, 0, 1), Sealed: kept(3, puts(1, 0), puts(2, 1), puts(3, 2))}
	added, _ := epoch.Add(b, 4, puts(8, 3)[0])
	sealed, _ := epoch.Seal(b, 4)
	dropped, _ := epoch.Drop(b, 4, 1)
	for _, x := range []epoch.Builder{added, sealed, dropped} {
		want := clone(x)
		for i := range x.Sealed {
			x.Sealed[i].Puts = append(x.Sealed[i].Puts, puts(50, 0, 1, 2)...)
			clear(x.Sealed[i].Puts)
			for k := i + 1; k < len(x.Sealed); k++ {
				if !sameEpoch(x.Sealed[k], want.Sealed[k]) {
					t.Error("Z2: two epochs share memory")
				}
			}
		}
		if !slices.Equal(x.Open, want.Open) {
			t.Error("Z2: Open shares memory with an epoch")
		}
	}
}
