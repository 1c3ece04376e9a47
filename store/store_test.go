package store_test

import (
	"math"
	"reflect"
	"slices"
	"testing"

	"stillwater/api"
	"stillwater/disk"
	"stillwater/store"
)

// state: what a store tells.
type state struct {
	blocks []api.Block
	a, b   int
}

// noughts: the state of a store that was formatted.
func noughts(n int) state {
	return state{blocks: make([]api.Block, n)}
}

// behind: the state behind a commit.
func (s state) behind(puts []api.Put, a, b int) state {
	next := state{blocks: slices.Clone(s.blocks), a: a, b: b}
	for _, p := range puts {
		next.blocks[p.At] = p.Data
	}
	return next
}

func (s state) is(o state) bool {
	return slices.Equal(s.blocks, o.blocks) && s.a == o.a && s.b == o.b
}

// filled: a block of one byte, again and again.
func filled(b byte) api.Block {
	var block api.Block
	for i := range block {
		block[i] = b
	}
	return block
}

// everywhere: a put at each place, the last one first; each block has bytes of its own.
func everywhere(n int, from byte) []api.Put {
	var puts []api.Put
	for at := n - 1; at >= 0; at-- {
		puts = append(puts, api.Put{At: at, Data: filled(from + byte(at))})
	}
	return puts
}

func format(t *testing.T, n int) disk.Disk {
	t.Helper()
	d, err := store.Format(n)
	if err != nil {
		t.Fatalf("C1: Format(%d): %v", n, err)
	}
	return d
}

func open(t *testing.T, d disk.Disk, n int) *store.Store {
	t.Helper()
	s, err := store.Open(d, n)
	if err != nil || s == nil {
		t.Fatalf("C1: Open: %v, %v", s, err)
	}
	return s
}

func commit(t *testing.T, s *store.Store, puts []api.Put, a, b int) {
	t.Helper()
	if err := s.Commit(puts, a, b); err != nil {
		t.Fatalf("C2: Commit: %v", err)
	}
}

// told: the state that All and Numbers tell; Get must tell the same.
func told(t *testing.T, s *store.Store) state {
	t.Helper()
	blocks, err := s.All()
	if err != nil {
		t.Fatalf("C2: All: %v", err)
	}
	a, b, err := s.Numbers()
	if err != nil {
		t.Fatalf("C2: Numbers: %v", err)
	}
	for at, want := range blocks {
		if got, err := s.Get(at); got != want || err != nil {
			t.Fatalf("C2: Get(%d): %v, %v; All has %v", at, got, err, want)
		}
	}
	return state{blocks, a, b}
}

func wantState(t *testing.T, what string, s *store.Store, want state) {
	t.Helper()
	if got := told(t, s); !got.is(want) {
		t.Fatalf("%s: %v; wanted is %v", what, got, want)
	}
}

func wantError(t *testing.T, what string, got any, err error, want api.Errno) {
	t.Helper()
	if err != error(want) {
		t.Errorf("%s: %v; wanted is %v", what, err, want)
	}
	if !reflect.ValueOf(got).IsZero() {
		t.Errorf("%s: beside an error it answers %v", what, got)
	}
}

func TestNeedAndFormat(t *testing.T) {
	for n := 1; n <= api.MaxBlocks; n++ {
		need, err := store.Need(n)
		if err != nil || need < 1 || need > disk.MaxSize {
			t.Errorf("C1: Need(%d): %d, %v", n, need, err)
		}
		d := format(t, n)
		if len(d.Safe) != need || len(d.Pending) != 0 || d.Left != -1 {
			t.Errorf("C1: Format(%d): %v; Need says %d", n, d, need)
		}
		s := open(t, d, n)
		wantState(t, "C1: Format", s, noughts(n))
		wantDisk(t, "C1: Disk of what was opened", s.Disk(), d)
	}
	for _, n := range []int{0, -1, api.MaxBlocks + 1, math.MaxInt, math.MinInt} {
		need, err := store.Need(n)
		wantError(t, "C1: Need", need, err, api.ErrRange)
		d, err := store.Format(n)
		wantError(t, "C1: Format", d, err, api.ErrRange)
		s, err := store.Open(format(t, 1), n)
		wantError(t, "C1: Open", s, err, api.ErrRange)
		s, err = store.Open(disk.Disk{}, n)
		wantError(t, "C1: Open of no disk", s, err, api.ErrRange)
	}
}

func wantDisk(t *testing.T, what string, got, want disk.Disk) {
	t.Helper()
	if !slices.Equal(got.Safe, want.Safe) || !slices.Equal(got.Pending, want.Pending) || got.Left != want.Left {
		t.Errorf("%s: %v; wanted is %v", what, got, want)
	}
}

func TestOpenRefuses(t *testing.T) {
	const n = 4
	good := format(t, n)
	for name, d := range map[string]disk.Disk{
		"no disk":              {},
		"no disk, not dead":    {Left: -1},
		"too many blocks":      {Safe: make([]api.Block, disk.MaxSize+1), Left: -1},
		"one block fewer":      {Safe: good.Safe[1:], Left: -1},
		"one block more":       {Safe: append(slices.Clone(good.Safe), api.Block{}), Left: -1},
		"of another store":     format(t, n+1),
		"one pending":          {Safe: good.Safe, Pending: []api.Put{{}}, Left: -1},
		"one pending, dead":    {Safe: good.Safe, Pending: []api.Put{{}}},
		"pending at no place":  {Safe: good.Safe, Pending: []api.Put{{At: -1}}, Left: -1},
		"too many are pending": {Safe: good.Safe, Pending: make([]api.Put, 4*disk.MaxSize+1), Left: -1},
	} {
		s, err := store.Open(d, n)
		wantError(t, "C1: Open: "+name, s, err, api.ErrState)
	}
}

func TestCommitAndGet(t *testing.T) {
	for _, n := range []int{1, 2, 7, api.MaxBlocks} {
		s := open(t, format(t, n), n)
		want := noughts(n)
		last := n - 1
		for i, c := range []struct {
			puts []api.Put
			a, b int
		}{
			{everywhere(n, 1), 0, api.MaxNumber},
			{nil, api.MaxNumber, 0},
			{[]api.Put{{At: last, Data: filled(99)}}, 1, 2},
			{slices.Repeat([]api.Put{{At: 0, Data: filled(98)}}, n), 255, 256},
			{append(slices.Repeat([]api.Put{{At: last, Data: filled(97)}}, last), api.Put{At: last, Data: filled(96)}), 65535, 16777216},
			{make([]api.Put, n), 0, 0},
			{[]api.Put{{At: last, Data: api.Block{1, 2, 3, 4, 5, 6, 7, 8}}}, 2147483646, 305419896},
		} {
			commit(t, s, c.puts, c.a, c.b)
			want = want.behind(c.puts, c.a, c.b)
			wantState(t, "C2: Commit", s, want)
			if d := s.Disk(); len(d.Pending) != 0 || d.Left != -1 {
				t.Errorf("C1: Disk behind commit %d: %v", i, d)
			}
			wantState(t, "C1: opened again", open(t, s.Disk(), n), want)
		}
	}
}

func TestPlacesThatAreNone(t *testing.T) {
	for _, n := range []int{1, 5, api.MaxBlocks} {
		s := open(t, format(t, n), n)
		commit(t, s, everywhere(n, 1), 3, 4)
		want := told(t, s)
		for _, at := range []int{-1, n, n + 1, math.MaxInt, math.MinInt} {
			b, err := s.Get(at)
			wantError(t, "C2: Get", b, err, api.ErrRange)
			puts := everywhere(n, 100)
			puts[n-1].At = at
			wantError(t, "C2: Commit", 0, s.Commit(puts, 3, 4), api.ErrRange)
		}
		wantState(t, "C2: Commit that was refused", s, want)
	}
}

func TestCommitRefuses(t *testing.T) {
	const n = 3
	s := open(t, format(t, n), n)
	commit(t, s, everywhere(n, 1), 3, 4)
	before, want := s.Disk(), told(t, s)
	outside := []api.Put{{At: n}}
	for _, c := range []struct {
		name string
		puts []api.Put
		a, b int
		err  api.Errno
	}{
		{"one put too many", make([]api.Put, n+1), 5, 6, api.ErrLimit},
		{"one put too many, at no place", slices.Repeat(outside, n+1), 5, 6, api.ErrLimit},
		{"one put too many, and a number below 0", make([]api.Put, n+1), -1, 6, api.ErrLimit},
		{"the first number below 0", nil, -1, 6, api.ErrRange},
		{"the second number below 0", nil, 5, -1, api.ErrRange},
		{"the first number too great", nil, api.MaxNumber + 1, 6, api.ErrRange},
		{"the second number too great", nil, 5, api.MaxNumber + 1, api.ErrRange},
		{"the first number far too great", nil, math.MaxInt, 6, api.ErrRange},
		{"the second number far too small", nil, 5, math.MinInt, api.ErrRange},
		{"behind the end", outside, 5, 6, api.ErrRange},
		{"ahead of the beginning", []api.Put{{At: 0}, {At: 1}, {At: -1}}, 5, 6, api.ErrRange},
	} {
		wantError(t, "C2: Commit: "+c.name, 0, s.Commit(c.puts, c.a, c.b), c.err)
		wantDisk(t, "Z1: Commit: "+c.name, s.Disk(), before)
		wantState(t, "Z1: Commit: "+c.name, s, want)
	}
}

func TestStoreWithNoStepLeft(t *testing.T) {
	const n = 3
	for left := range mostSteps {
		d := format(t, n)
		d.Left = left
		s, err := store.Open(d, n)
		if err != nil {
			wantError(t, "C3: Open", s, err, api.ErrDead)
			continue
		}
		err = s.Commit(everywhere(n, 1), 1, 2)
		if s.Disk().Left != 0 {
			break
		}
		if err != nil {
			wantError(t, "C2: Commit", 0, err, api.ErrDead)
		}
		b, err := s.Get(0)
		wantError(t, "C2: Get", b, err, api.ErrDead)
		b, err = s.Get(n)
		wantError(t, "C2: Get", b, err, api.ErrRange)
		all, err := s.All()
		wantError(t, "C2: All", all, err, api.ErrDead)
		x, y, err := s.Numbers()
		wantError(t, "C2: Numbers", [2]int{x, y}, err, api.ErrDead)
		wantError(t, "C2: Commit", 0, s.Commit(nil, 1, 2), api.ErrDead)
		wantError(t, "C2: Commit", 0, s.Commit(make([]api.Put, n+1), 1, 2), api.ErrLimit)
		wantError(t, "C2: Commit", 0, s.Commit(nil, -1, 2), api.ErrRange)
	}
}

func TestStoreThatOpenDidNotMake(t *testing.T) {
	for _, s := range []*store.Store{nil, {}} {
		if d := s.Disk(); !reflect.ValueOf(d).IsZero() {
			t.Errorf("Z1: Disk: %v", d)
		}
		b, err := s.Get(0)
		wantError(t, "Z1: Get", b, err, api.ErrState)
		all, err := s.All()
		wantError(t, "Z1: All", all, err, api.ErrState)
		x, y, err := s.Numbers()
		wantError(t, "Z1: Numbers", [2]int{x, y}, err, api.ErrState)
		wantError(t, "Z1: Commit", 0, s.Commit(nil, 0, 0), api.ErrState)
	}
}

func TestListsAreTheCallersOwn(t *testing.T) {
	const n = 3
	d := format(t, n)
	s := open(t, d, n)
	spoil(d)
	wantState(t, "Z2: Open kept the disk", s, noughts(n))

	puts := append(everywhere(n, 1), api.Put{At: 0, Data: filled(99)})[:n]
	room := slices.Clone(puts[:n+1])
	commit(t, s, puts, 1, 2)
	want := noughts(n).behind(puts, 1, 2)
	if !slices.Equal(puts[:n+1], room) {
		t.Errorf("Z2: Commit wrote into its puts: %v", puts[:n+1])
	}
	puts[0].Data = filled(77)
	wantState(t, "Z2: Commit kept its puts", s, want)

	spoil(s.Disk())
	wantState(t, "Z2: Disk handed out what is kept", s, want)
	all, _ := s.All()
	all[0] = filled(88)
	wantState(t, "Z2: All handed out what is kept", s, want)
}

// spoil: write into all that a disk has.
func spoil(d disk.Disk) {
	for i := range d.Safe {
		d.Safe[i] = filled(255)
	}
}

func TestHandedInDiskIsNotWritten(t *testing.T) {
	const n = 3
	d := format(t, n)
	keep := slices.Clone(d.Safe)
	s := open(t, d, n)
	commit(t, s, everywhere(n, 1), 1, 2)
	commit(t, s, everywhere(n, 9), 3, 4)
	if !slices.Equal(d.Safe, keep) {
		t.Error("Z2: Commit wrote into the disk that Open was handed")
	}
}
