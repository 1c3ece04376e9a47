package tree_test

import (
	"encoding/binary"
	"hash/fnv"
	"math"
	"reflect"
	"slices"
	"strconv"
	"testing"

	"stillwater/api"
	"stillwater/tree"
)

// edges: numbers of blocks at which a tree gets another shape, and between them.
var edges = []int{1, 2, 3, 4, 5, 8, 15, 16, 17, 20, 21, 31, api.MaxBlocks}

// noPlaces: of a tree of n blocks.
func noPlaces(n int) []int {
	return []int{-1, n, n + 1, api.MaxBlocks, 1 << 32, math.MaxInt, math.MinInt}
}

// numbered: blocks of which no two are alike.
func numbered(n int) []api.Block {
	l := make([]api.Block, n)
	for i := range l {
		l[i] = api.Block{byte(i + 1), 0, 0xff, byte(i * i), 0, 0, 1, byte(200 + i)}
	}
	return l
}

// treeOf: the tree, made by another program's digest than the one that is tested.
func treeOf(blocks []api.Block) tree.Tree {
	var first []uint64
	for _, b := range blocks {
		h := fnv.New64a()
		h.Write([]byte{0})
		h.Write(b[:])
		first = append(first, h.Sum64())
	}
	return over(first)
}

// over: the tree that comes of a first level.
func over(first []uint64) tree.Tree {
	t := tree.Tree{Levels: [][]uint64{first}}
	for level := first; len(level) > 1; {
		next := make([]uint64, (len(level)+api.Fan-1)/api.Fan)
		for i := range next {
			h := fnv.New64a()
			h.Write([]byte{1})
			for _, d := range level[i*api.Fan : min(len(level), (i+1)*api.Fan)] {
				h.Write(binary.BigEndian.AppendUint64(nil, d))
			}
			next[i] = h.Sum64()
		}
		level = next
		t.Levels = append(t.Levels, level)
	}
	return t
}

func clone(t tree.Tree) tree.Tree {
	var c tree.Tree
	for _, l := range t.Levels {
		c.Levels = append(c.Levels, slices.Clone(l))
	}
	return c
}

func same(a, b tree.Tree) bool {
	return slices.EqualFunc(a.Levels, b.Levels, slices.Equal)
}

func mustOf(t *testing.T, blocks []api.Block) tree.Tree {
	t.Helper()
	x, err := tree.Of(blocks)
	if err != nil {
		t.Fatalf("D1: Of %d blocks: %v", len(blocks), err)
	}
	return x
}

func wantTree(t *testing.T, what string, got tree.Tree, err error, want tree.Tree) {
	t.Helper()
	if err != nil || !same(got, want) {
		t.Errorf("%s: %v, %v; wanted is %v", what, got, err, want)
	}
}

func wantError(t *testing.T, what string, got any, err error, want api.Errno) {
	t.Helper()
	if err != error(want) {
		t.Errorf("%s: %v; wanted is %v", what, err, want)
	}
	if !reflect.ValueOf(got).IsZero() {
		t.Errorf("%s: beside an error it answers %v", what, got)
	}
}

// diff: what Diff answers, in one.
type diff struct {
	places []int
	asked  int
}

func wantDiff(t *testing.T, what string, a, b tree.Tree, want diff) {
	t.Helper()
	places, asked, err := tree.Diff(a, b)
	if err != nil || !slices.Equal(places, want.places) || asked != want.asked {
		t.Errorf("%s: %v, %d, %v; wanted is %v", what, places, asked, err, want)
	}
}

func wantDiffError(t *testing.T, what string, a, b tree.Tree, want api.Errno) {
	t.Helper()
	places, asked, err := tree.Diff(a, b)
	wantError(t, what, asked, err, want)
	if len(places) > 0 {
		t.Errorf("%s: beside an error it answers the places %v", what, places)
	}
}

func TestDigestIsThatOfOthers(t *testing.T) {
	known := map[string]uint64{
		"":       14695981039346656037,
		"a":      0xaf63dc4c8601ec8c,
		"foobar": 0x85944171f73967e8,
		"\x00":   0xaf63bd4c8601b7df,
	}
	for text, want := range known {
		if d := tree.Digest([]byte(text)); d != want {
			t.Errorf("D1: the digest of %q is %d, %d is wanted", text, d, want)
		}
	}
	if tree.Digest(nil) != 14695981039346656037 {
		t.Errorf("D1: the digest of no bytes is %d", tree.Digest(nil))
	}
	b := []byte{}
	for i := range 1000 {
		h := fnv.New64a()
		h.Write(b)
		if d := tree.Digest(b); d != h.Sum64() {
			t.Fatalf("D1: the digest of % x is %d, %d is wanted", b, d, h.Sum64())
		}
		b = append(b, byte(i*i+i/7))
	}
	for c := range 256 {
		h := fnv.New64a()
		h.Write([]byte{byte(c)})
		if d := tree.Digest([]byte{byte(c)}); d != h.Sum64() {
			t.Errorf("D1: the digest of the byte %d is %d, %d is wanted", c, d, h.Sum64())
		}
	}
}

func TestOfBlocks(t *testing.T) {
	for n := 1; n <= api.MaxBlocks; n++ {
		for _, blocks := range [][]api.Block{numbered(n), make([]api.Block, n)} {
			got, err := tree.Of(blocks)
			wantTree(t, "D1: Of "+strconv.Itoa(n)+" blocks", got, err, treeOf(blocks))
		}
	}
}

func TestOfOneBlockIsTheDigestOfNineBytes(t *testing.T) {
	got, err := tree.Of([]api.Block{{1, 2, 3, 4, 5, 6, 7, 8}})
	want := tree.Digest([]byte{0, 1, 2, 3, 4, 5, 6, 7, 8})
	wantTree(t, "D1: of one block", got, err, tree.Tree{Levels: [][]uint64{{want}}})
}

func TestShapesOfTrees(t *testing.T) {
	shapes := map[int][]int{
		1:             {1},
		2:             {2, 1},
		4:             {4, 1},
		5:             {5, 2, 1},
		16:            {16, 4, 1},
		17:            {17, 5, 2, 1},
		api.MaxBlocks: {32, 8, 2, 1},
	}
	for n, want := range shapes {
		var got []int
		for _, l := range mustOf(t, numbered(n)).Levels {
			got = append(got, len(l))
		}
		if !slices.Equal(got, want) {
			t.Errorf("D1: the levels of %d blocks have %v digests, %v are wanted", n, got, want)
		}
	}
}

func TestOfTooFewOrTooManyBlocks(t *testing.T) {
	for _, blocks := range [][]api.Block{nil, {}, numbered(api.MaxBlocks + 1), numbered(64), numbered(1000)} {
		got, err := tree.Of(blocks)
		wantError(t, "D1: Of "+strconv.Itoa(len(blocks))+" blocks", got, err, api.ErrRange)
	}
}

func TestCheckLetsTreesPass(t *testing.T) {
	for n := 1; n <= api.MaxBlocks; n++ {
		first := make([]uint64, n)
		for i := range first {
			first[i] = math.MaxUint64 - uint64(i)
		}
		// Digests that perhaps no block has are nothing that Check could tell.
		for _, x := range []tree.Tree{treeOf(numbered(n)), over(make([]uint64, n)), over(first)} {
			if err := tree.Check(x); err != nil {
				t.Errorf("D1: Check of a tree of %d blocks: %v", n, err)
			}
		}
	}
}

// wrongTree: one that may not be.
type wrongTree struct {
	name string
	tree tree.Tree
}

// wrongOf: what is made of a good tree, wrong at one spot.
func wrongOf(good tree.Tree) []wrongTree {
	var l []wrongTree
	add := func(name string, spoil func(x *tree.Tree)) {
		x := clone(good)
		spoil(&x)
		l = append(l, wrongTree{strconv.Itoa(len(good.Levels[0])) + " blocks: " + name, x})
	}
	top := len(good.Levels) - 1
	for i, level := range good.Levels {
		where := " at level " + strconv.Itoa(i)
		for k := range level {
			// Of one block alone each digest is a tree.
			if top > 0 {
				add("another digest"+where, func(x *tree.Tree) { x.Levels[i][k]++ })
				add("another digest, by its highest bit,"+where, func(x *tree.Tree) { x.Levels[i][k] ^= 1 << 63 })
			}
		}
		add("one too few"+where, func(x *tree.Tree) { x.Levels[i] = x.Levels[i][:len(level)-1] })
		add("one too many"+where, func(x *tree.Tree) { x.Levels[i] = append(x.Levels[i], 7) })
		add("the last one twice"+where, func(x *tree.Tree) { x.Levels[i] = append(x.Levels[i], level[len(level)-1]) })
		add("nothing"+where, func(x *tree.Tree) { x.Levels[i] = nil })
		add("an empty one ahead"+where, func(x *tree.Tree) { x.Levels = slices.Insert(x.Levels, i, nil) })
		add("one twice"+where, func(x *tree.Tree) { x.Levels = slices.Insert(x.Levels, i, slices.Clone(level)) })
		if i < top {
			add("none"+where, func(x *tree.Tree) { x.Levels = slices.Delete(x.Levels, i, i+1) })
		}
	}
	if top > 0 {
		add("no top", func(x *tree.Tree) { x.Levels = x.Levels[:top] })
		add("the first level alone", func(x *tree.Tree) { x.Levels = x.Levels[:1] })
		add("upside down", func(x *tree.Tree) { slices.Reverse(x.Levels) })
	}
	add("one more on top", func(x *tree.Tree) { x.Levels = append(x.Levels, over([]uint64{x.Levels[top][0], 0}).Levels[1]) })
	add("an empty one on top", func(x *tree.Tree) { x.Levels = append(x.Levels, []uint64{}) })
	add("no levels", func(x *tree.Tree) { x.Levels = x.Levels[:0] })
	return l
}

func wrongTrees() []wrongTree {
	l := []wrongTree{
		{"no levels", tree.Tree{}},
		{"one empty level", tree.Tree{Levels: [][]uint64{{}}}},
		{"three empty levels", tree.Tree{Levels: [][]uint64{nil, nil, nil}}},
		{"an empty level, and a top", tree.Tree{Levels: [][]uint64{{}, {14695981039346656037}}}},
		{"one more than MaxBlocks", treeOf(numbered(api.MaxBlocks + 1))},
		{"64 blocks", treeOf(numbered(64))},
	}
	for _, n := range edges {
		for _, w := range wrongOf(treeOf(numbered(n))) {
			// One digest more or fewer, or a level missing, makes of few of them another good tree.
			if !same(w.tree, over(firstOf(w.tree))) {
				l = append(l, w)
			}
		}
	}
	return l
}

// firstOf: the first level; of no levels something that is no tree's.
func firstOf(t tree.Tree) []uint64 {
	if len(t.Levels) == 0 || len(t.Levels[0]) == 0 {
		return []uint64{0, 0}
	}
	return t.Levels[0]
}

func TestWrongTreesAreRefused(t *testing.T) {
	wrong := wrongTrees()
	if len(wrong) < 500 {
		t.Fatalf("only %d wrong trees", len(wrong))
	}
	good := treeOf(numbered(5))
	for _, w := range wrong {
		wantError(t, "D1: Check: "+w.name, 0, tree.Check(w.tree), api.ErrForm)
		for _, at := range []int{0, -1, api.MaxBlocks, math.MaxInt} {
			got, err := tree.Put(w.tree, at, api.Block{1})
			wantError(t, "D2: Put: "+w.name, got, err, api.ErrForm)
		}
		wantDiffError(t, "D3: Diff, the first one: "+w.name, w.tree, good, api.ErrForm)
		wantDiffError(t, "D3: Diff, the second one: "+w.name, good, w.tree, api.ErrForm)
		wantDiffError(t, "D3: Diff, both: "+w.name, w.tree, clone(w.tree), api.ErrForm)
	}
}

// Alike at the top, or held by one that is alike at all: what is below it is looked at by Check all the same.
func TestDiffAsksCheckOfAllThatIsBelow(t *testing.T) {
	for _, n := range edges[1:] {
		good := treeOf(numbered(n))
		for i := range good.Levels {
			bad := clone(good)
			bad.Levels[i][0]++
			wantDiffError(t, "D3: the first one", bad, good, api.ErrForm)
			wantDiffError(t, "D3: the second one", good, bad, api.ErrForm)
		}
	}
}

func TestPutIsTheTreeOfTheBlocksAsTheyAreThen(t *testing.T) {
	for n := 1; n <= api.MaxBlocks; n++ {
		blocks := make([]api.Block, n)
		x := mustOf(t, blocks)
		for step := range 2 * n {
			at := step * 7 % n
			blocks[at] = api.Block{byte(step), byte(n), 7: byte(step / 2)}
			var err error
			x, err = tree.Put(x, at, blocks[at])
			wantTree(t, "D2: Put", x, err, treeOf(blocks))
		}
	}
}

func TestPutAtEachPlace(t *testing.T) {
	for _, n := range edges {
		for at := range n {
			blocks := numbered(n)
			x := treeOf(blocks)
			blocks[at] = api.Block{7: 77}
			got, err := tree.Put(x, at, blocks[at])
			wantTree(t, "D2: Put", got, err, treeOf(blocks))
		}
	}
}

func TestPutWhereItAlreadyIs(t *testing.T) {
	for _, n := range edges {
		for at := range n {
			x := treeOf(numbered(n))
			got, err := tree.Put(x, at, numbered(n)[at])
			wantTree(t, "D2: Put of what is there", got, err, x)
		}
	}
}

// The digests of the other places stay, whatever they are of.
func TestPutTouchesOnePlaceAlone(t *testing.T) {
	first := []uint64{1, 2, 3, 4, 5, 6}
	got, err := tree.Put(over(first), 4, api.Block{})
	want := slices.Clone(first)
	want[4] = treeOf(make([]api.Block, 1)).Levels[0][0]
	wantTree(t, "D2: Put", got, err, over(want))
}

func TestPutAtNoPlace(t *testing.T) {
	for _, n := range edges {
		for _, at := range noPlaces(n) {
			if at >= 0 && at < n {
				continue
			}
			got, err := tree.Put(treeOf(numbered(n)), at, api.Block{1})
			wantError(t, "D2: Put at "+strconv.Itoa(at)+" of "+strconv.Itoa(n), got, err, api.ErrRange)
		}
	}
}

func TestDiffOfTreesThatAreAlike(t *testing.T) {
	for n := 1; n <= api.MaxBlocks; n++ {
		wantDiff(t, "D3: alike", treeOf(numbered(n)), treeOf(numbered(n)), diff{nil, 1})
	}
}

func TestDiffCountsThePairs(t *testing.T) {
	all := func(n int) (l []int) {
		for at := range n {
			l = append(l, at)
		}
		return l
	}
	cases := []struct {
		n      int
		places []int
		asked  int
	}{
		{1, []int{0}, 1},
		{2, []int{1}, 3},
		{4, []int{0}, 5},
		{4, []int{3}, 5},
		{4, all(4), 5},
		{5, []int{0}, 7},
		{5, []int{4}, 4},
		{5, all(5), 8},
		{16, []int{0}, 9},
		{16, []int{15}, 9},
		{16, []int{3, 4}, 13},
		{16, all(16), 21},
		{17, []int{0}, 11},
		{17, []int{16}, 5},
		{17, []int{15, 16}, 13},
		{17, all(17), 25},
		{32, []int{0}, 11},
		{32, []int{31}, 11},
		{32, []int{0, 31}, 19},
		{32, []int{12, 13, 14, 15}, 11},
		{32, all(32), 43},
	}
	for _, c := range cases {
		blocks := numbered(c.n)
		for _, at := range c.places {
			blocks[at][7] ^= 0x80
		}
		a, b := treeOf(numbered(c.n)), treeOf(blocks)
		wantDiff(t, "D3: Diff", a, b, diff{c.places, c.asked})
		wantDiff(t, "D3: Diff, turned about", b, a, diff{c.places, c.asked})
	}
}

// held: what Diff asks for, counted level by level instead of from the top down.
func held(a, b tree.Tree) diff {
	var d diff
	over := []bool{true}
	for level := len(a.Levels) - 1; level >= 0; level-- {
		var below []bool
		for at := range a.Levels[level] {
			asked := over[at/api.Fan*btoi(level < len(a.Levels)-1)]
			unlike := asked && a.Levels[level][at] != b.Levels[level][at]
			d.asked += btoi(asked)
			if unlike && level == 0 {
				d.places = append(d.places, at)
			}
			below = append(below, unlike)
		}
		over = below
	}
	return d
}

func btoi(b bool) int {
	if b {
		return 1
	}
	return 0
}

func TestDiffOfManyTrees(t *testing.T) {
	draw := uint64(3)
	n := func(most int) int {
		draw = draw*6364136223846793005 + 1442695040888963407
		return int(draw >> 33 % uint64(most))
	}
	for range 2000 {
		size := 1 + n(api.MaxBlocks)
		blocks := numbered(size)
		for range n(size + 1) {
			blocks[n(size)][n(8)] = byte(n(256))
		}
		a, b := treeOf(numbered(size)), treeOf(blocks)
		wantDiff(t, "D3: Diff", a, b, held(a, b))
	}
}

func TestDiffOfUnlikeNumbersOfBlocks(t *testing.T) {
	for n := 1; n <= api.MaxBlocks; n++ {
		for m := 1; m <= api.MaxBlocks; m++ {
			if n != m {
				wantDiffError(t, "D3: Diff", treeOf(make([]api.Block, n)), treeOf(make([]api.Block, m)), api.ErrUnlike)
			}
		}
	}
}

// spill: a tree whose lists have more behind them in memory.
func spill(t tree.Tree) tree.Tree {
	var s tree.Tree
	for _, l := range t.Levels {
		s.Levels = append(s.Levels, append(slices.Clone(l), 11, 12, 13, 14)[:len(l)])
	}
	s.Levels = append(s.Levels, []uint64{15})[:len(s.Levels)]
	return s
}

func wantSpill(t *testing.T, s tree.Tree) {
	t.Helper()
	for _, l := range s.Levels {
		if behind := l[len(l) : len(l)+4]; !slices.Equal(behind, []uint64{11, 12, 13, 14}) {
			t.Errorf("Z2: what stands behind a level was written: %v", behind)
		}
	}
	if behind := s.Levels[:len(s.Levels)+1][len(s.Levels)]; !slices.Equal(behind, []uint64{15}) {
		t.Errorf("Z2: what stands behind the levels was written: %v", behind)
	}
}

func TestListsThatAreHandedIn(t *testing.T) {
	for _, n := range edges {
		blocks := numbered(n + 3)
		want := treeOf(numbered(n))
		x := mustOf(t, blocks[:n])
		if !slices.Equal(blocks, numbered(n+3)) {
			t.Error("Z2: Of wrote into what it was given")
		}
		clear(blocks)
		wantTree(t, "Z2: Of, the blocks cleared behind it", x, nil, want)

		s := spill(want)
		if err := tree.Check(s); err != nil {
			t.Errorf("Z2: Check read what stands behind a list: %v", err)
		}
		got, err := tree.Put(s, n-1, numbered(n)[n-1])
		wantTree(t, "Z2: Put", got, err, want)
		wantDiff(t, "Z2: Diff", s, spill(want), diff{nil, 1})
		wantTree(t, "Z2: what was handed in", s, nil, want)
		wantSpill(t, s)
		for _, l := range s.Levels {
			clear(l)
		}
		wantTree(t, "Z2: Put, the tree cleared behind it", got, nil, want)
	}
	b := []byte("abcdef")
	if tree.Digest(b[:1]) != 0xaf63dc4c8601ec8c || string(b) != "abcdef" {
		t.Error("Z2: Digest read behind a list, or wrote into it")
	}
}

func TestListsAreTheCallersOwn(t *testing.T) {
	for _, n := range edges {
		want := treeOf(numbered(n))
		x := mustOf(t, numbered(n))
		put, _ := tree.Put(x, 0, numbered(n)[0])
		for _, one := range []tree.Tree{x, put} {
			for i := range one.Levels {
				// Filled up to its end in memory, a level is seen in no other one.
				one.Levels[i] = append(one.Levels[i], 0, 0, 0)
				clear(one.Levels[i][:cap(one.Levels[i])])
				for k := i + 1; k < len(one.Levels); k++ {
					if !slices.Equal(one.Levels[k], want.Levels[k]) {
						t.Errorf("Z2: two levels of a tree of %d blocks share memory", n)
					}
				}
			}
			wantTree(t, "Z2: another answer", mustOf(t, numbered(n)), nil, want)
		}
	}
	a, b := treeOf(numbered(5)), treeOf(make([]api.Block, 5))
	one, _, _ := tree.Diff(a, b)
	two, _, _ := tree.Diff(a, b)
	clear(one)
	if !slices.Equal(two, []int{0, 1, 2, 3, 4}) {
		t.Error("Z2: two answers of Diff share memory")
	}
}
