package cache_test

import (
	"math"
	"reflect"
	"slices"
	"testing"

	"stillwater/api"
	"stillwater/cache"
)

// die: numbers that look drawn, the same each time.
type die uint64

func (d *die) n(most int) int {
	*d = *d*6364136223846793005 + 1442695040888963407
	return int(uint64(*d>>33) % uint64(most))
}

// few: one of so many blocks; the first one is noughts, and some are alike but for one byte.
func few(i int) api.Block {
	var b api.Block
	b[i%2*7] = byte(i)
	return b
}

// numbered: blocks of which no two are alike.
func numbered(n int) []api.Block {
	l := make([]api.Block, n)
	for i := range l {
		l[i] = api.Block{byte(i), byte(i >> 8), 9}
	}
	return l
}

func mustNew(t *testing.T, blocks []api.Block) *cache.Index {
	t.Helper()
	x, err := cache.New(blocks)
	if err != nil || x == nil {
		t.Fatalf("E1: New of %d blocks: %v, %v", len(blocks), x, err)
	}
	return x
}

func wantError(t *testing.T, what string, got any, err error, want api.Errno) {
	t.Helper()
	if err != error(want) {
		t.Errorf("%s: %v; wanted is %v", what, err, want)
	}
	if !reflect.ValueOf(got).IsZero() {
		t.Errorf("%s: beside an error it answers %v", what, got)
	}
}

func wantFound(t *testing.T, what string, at int, ok bool, wantAt int, wantOK bool) {
	t.Helper()
	if at != wantAt || ok != wantOK {
		t.Errorf("%s: %d, %v; wanted is %d, %v", what, at, ok, wantAt, wantOK)
	}
}

// wantIndex: the index answers of each block what Find answers, and what is plain to see.
func wantIndex(t *testing.T, x *cache.Index, blocks []api.Block, asked []api.Block) {
	t.Helper()
	for _, b := range asked {
		wantAt, wantOK := 0, false
		for at := len(blocks) - 1; at >= 0; at-- {
			if blocks[at] == b {
				wantAt, wantOK = at, true
			}
		}
		at, ok := cache.Find(blocks, b)
		wantFound(t, "E1: Find", at, ok, wantAt, wantOK)
		at, ok = x.Find(b)
		wantFound(t, "E1: an Index's Find", at, ok, wantAt, wantOK)
	}
}

func TestFind(t *testing.T) {
	a, b, c := api.Block{1}, api.Block{7: 1}, api.Block{}
	cases := []struct {
		blocks []api.Block
		b      api.Block
		at     int
		ok     bool
	}{
		{nil, c, 0, false},
		{[]api.Block{}, a, 0, false},
		{[]api.Block{a}, a, 0, true},
		{[]api.Block{a}, b, 0, false},
		{[]api.Block{a, b}, c, 0, false},
		{[]api.Block{c, a, b}, c, 0, true},
		{[]api.Block{a, b, c}, c, 2, true},
		{[]api.Block{a, b, a, b, b}, b, 1, true},
		{[]api.Block{b, b, b, a, a}, a, 3, true},
		// A list may be longer than a device.
		{numbered(500), numbered(500)[499], 499, true},
		{numbered(500), a, 0, false},
	}
	for _, k := range cases {
		at, ok := cache.Find(k.blocks, k.b)
		wantFound(t, "E1: Find", at, ok, k.at, k.ok)
	}
}

func TestNewOfTooFewOrTooManyBlocks(t *testing.T) {
	for _, blocks := range [][]api.Block{nil, {}, numbered(api.MaxBlocks + 1), make([]api.Block, api.MaxBlocks+1), numbered(500)} {
		x, err := cache.New(blocks)
		wantError(t, "E1: New", x, err, api.ErrRange)
	}
}

func TestNewFindsEachBlock(t *testing.T) {
	for n := 1; n <= api.MaxBlocks; n++ {
		blocks := numbered(n)
		wantIndex(t, mustNew(t, blocks), blocks, append(numbered(n+1), api.Block{}))
		alike := slices.Repeat([]api.Block{{5}}, n)
		wantIndex(t, mustNew(t, alike), alike, []api.Block{{5}, {6}, {}})
	}
}

// All there is of three places and three blocks: each beginning, and behind it each two puts.
func TestPutsOfThreeBlocksAtThreePlaces(t *testing.T) {
	const kinds, places = 3, 3
	asked := []api.Block{few(0), few(1), few(2), few(3)}
	for start := range kinds * kinds * kinds {
		for puts := range kinds * places * kinds * places {
			blocks := []api.Block{few(start % kinds), few(start / kinds % kinds), few(start / kinds / kinds)}
			x := mustNew(t, blocks)
			for _, p := range []int{puts % (kinds * places), puts / (kinds * places)} {
				at, b := p%places, few(p/places)
				if err := x.Put(at, b); err != nil {
					t.Fatalf("E1: Put at %d: %v", at, err)
				}
				blocks[at] = b
				wantIndex(t, x, blocks, asked)
			}
		}
	}
}

func TestManyPuts(t *testing.T) {
	d := die(5)
	for n := 1; n <= api.MaxBlocks; n++ {
		for _, kinds := range []int{2, 5, 40} {
			var asked []api.Block
			for i := range kinds + 1 {
				asked = append(asked, few(i))
			}
			blocks := make([]api.Block, n)
			x := mustNew(t, blocks)
			for range 100 {
				at, b := d.n(n), few(d.n(kinds))
				if err := x.Put(at, b); err != nil {
					t.Fatalf("E1: Put at %d of %d: %v", at, n, err)
				}
				blocks[at] = b
				wantIndex(t, x, blocks, asked)
			}
		}
	}
}

func TestPutOfOneBlockAtAllPlaces(t *testing.T) {
	blocks := numbered(api.MaxBlocks)
	x := mustNew(t, blocks)
	put := func(at int, b api.Block) {
		t.Helper()
		if err := x.Put(at, b); err != nil {
			t.Errorf("E1: Put at %d: %v", at, err)
		}
		blocks[at] = b
		wantIndex(t, x, blocks, append(numbered(api.MaxBlocks), api.Block{4}, api.Block{}))
	}
	for at := api.MaxBlocks - 1; at >= 0; at-- {
		put(at, api.Block{4})
	}
	for at := range api.MaxBlocks {
		put(at, api.Block{4})
		put(at, api.Block{})
	}
	for at := range api.MaxBlocks {
		put(at, numbered(api.MaxBlocks)[at])
	}
}

func TestPutAtNoPlaceChangesNothing(t *testing.T) {
	for _, n := range []int{1, 4, 31, api.MaxBlocks} {
		blocks := numbered(n)
		x := mustNew(t, blocks)
		for _, at := range []int{-1, n, n + 1, 64, 1 << 32, math.MaxInt, math.MinInt} {
			wantError(t, "E1: Put at no place", 0, x.Put(at, api.Block{4}), api.ErrRange)
			wantIndex(t, x, blocks, append(numbered(n), api.Block{4}))
		}
	}
}

func TestIndexThatNewDidNotMake(t *testing.T) {
	var none *cache.Index
	for _, x := range []*cache.Index{none, {}} {
		for _, at := range []int{-1, 0, 1} {
			wantError(t, "Z1: Put", 0, x.Put(at, api.Block{}), api.ErrRange)
		}
		at, ok := x.Find(api.Block{})
		wantFound(t, "Z1: Find", at, ok, 0, false)
	}
}

func TestIndexesAreOnTheirOwn(t *testing.T) {
	blocks := numbered(6)
	x, y := mustNew(t, blocks[:4]), mustNew(t, blocks[:4])
	at, ok := x.Find(blocks[4])
	wantFound(t, "Z2: New read behind its list", at, ok, 0, false)
	if x.Put(0, blocks[3]) != nil || x.Put(2, api.Block{}) != nil {
		t.Error("E1: Put said an error")
	}
	if !slices.Equal(blocks, numbered(6)) {
		t.Error("Z2: Put wrote into the list that New was given")
	}
	wantIndex(t, y, blocks[:4], append(numbered(6), api.Block{}))
	clear(blocks)
	wantIndex(t, y, numbered(4), append(numbered(6), api.Block{}))
	own := []api.Block{numbered(4)[3], numbered(4)[1], {}, numbered(4)[3]}
	wantIndex(t, x, own, append(numbered(6), api.Block{}))
}

func TestCheck(t *testing.T) {
	for n := range api.MaxCache + 1 {
		if err := cache.Check(numbered(n)); err != nil {
			t.Errorf("E2: Check of %d blocks: %v", n, err)
		}
		// Blocks that are alike but for one byte are two.
		if n > 0 {
			l := slices.Repeat([]api.Block{{}}, n)
			for i := range l[1:] {
				l[i+1][i] = 1
			}
			if err := cache.Check(l); err != nil {
				t.Errorf("E2: Check of %v: %v", l, err)
			}
		}
	}
	if err := cache.Check(nil); err != nil {
		t.Errorf("E2: Check of no list: %v", err)
	}
}

func TestListsThatMayNotBe(t *testing.T) {
	refused := func(what string, l []api.Block, want api.Errno) {
		t.Helper()
		wantError(t, "E2: Check: "+what, 0, cache.Check(l), want)
		for _, b := range append(slices.Clone(l), api.Block{200}) {
			got, err := cache.Touch(l, b)
			if len(got) > 0 {
				t.Errorf("E2: Touch: %s: beside an error it answers %v", what, got)
			}
			wantError(t, "E2: Touch: "+what, 0, err, want)
		}
	}
	for n := 2; n <= api.MaxCache; n++ {
		for i := range n {
			for k := range i {
				l := numbered(n)
				l[i] = l[k]
				refused("a block twice", l, api.ErrForm)
			}
		}
		refused("noughts all over", make([]api.Block, n), api.ErrForm)
	}
	refused("one too many", numbered(api.MaxCache+1), api.ErrLimit)
	refused("many too many", numbered(300), api.ErrLimit)
	refused("too many, and one twice", make([]api.Block, api.MaxCache+1), api.ErrLimit)
}

func TestTouchOfTheDocument(t *testing.T) {
	a, b, c := api.Block{1}, api.Block{2}, api.Block{3}
	got, err := cache.Touch([]api.Block{a, b, c}, c)
	if err != nil || !slices.Equal(got, []api.Block{c, a, b}) {
		t.Errorf("E2: Touch(a b c, c) = %v, %v", got, err)
	}
}

func TestTouch(t *testing.T) {
	for n := range api.MaxCache + 1 {
		l := numbered(n)
		for i, b := range l {
			want := append([]api.Block{b}, l[:i]...)
			want = append(want, l[i+1:]...)
			got, err := cache.Touch(l, b)
			if err != nil || !slices.Equal(got, want) {
				t.Errorf("E2: Touch(%v, %v) = %v, %v; wanted is %v", l, b, got, err, want)
			}
		}
		b := api.Block{200}
		want := append([]api.Block{b}, l[:min(n, api.MaxCache-1)]...)
		got, err := cache.Touch(l, b)
		if err != nil || !slices.Equal(got, want) {
			t.Errorf("E2: Touch(%v, %v) = %v, %v; wanted is %v", l, b, got, err, want)
		}
	}
}

// Of what was had again and again the last MaxCache stay that are not alike, the last one first.
func TestTouchAgainAndAgain(t *testing.T) {
	d := die(9)
	var had, all []api.Block
	for range 500 {
		b := few(d.n(12))
		all = append(all, b)
		var err error
		had, err = cache.Touch(had, b)
		var want []api.Block
		for _, e := range slices.Backward(all) {
			if len(want) < api.MaxCache && !slices.Contains(want, e) {
				want = append(want, e)
			}
		}
		if err != nil || !slices.Equal(had, want) {
			t.Fatalf("E2: Touch of %v: %v, %v; wanted is %v", b, had, err, want)
		}
		if err := cache.Check(had); err != nil {
			t.Fatalf("E2: Check of what Touch answers: %v", err)
		}
	}
}

func TestListsAreTheCallersOwn(t *testing.T) {
	for _, b := range []api.Block{numbered(1)[0], numbered(5)[2], {200}} {
		l := numbered(api.MaxCache)
		one, _ := cache.Touch(l[:5], b)
		two, _ := cache.Touch(l[:5], b)
		want := slices.Clone(one)
		if !slices.Equal(l, numbered(api.MaxCache)) {
			t.Error("Z2: Touch wrote into what it was given, or behind it")
		}
		clear(one[:cap(one)])
		clear(l)
		if !slices.Equal(two, want) {
			t.Error("Z2: two answers of Touch share memory, or one is kept")
		}
	}
	twice := append(numbered(3), numbered(3)...)
	if err := cache.Check(twice[:3]); err != nil {
		t.Errorf("Z2: Check read behind its list: %v", err)
	}
	if at, ok := cache.Find(twice[:2], twice[2]); at != 0 || ok {
		t.Error("Z2: Find read behind its list")
	}
	if !slices.Equal(twice, append(numbered(3), numbered(3)...)) {
		t.Error("Z2: Check or Find wrote into what it was given")
	}
}
