package disk_test

import (
	"math"
	"reflect"
	"slices"
	"testing"

	"stillwater/api"
	"stillwater/disk"
)

const mostPending = 4 * disk.MaxSize

// filled: a block of one byte, again and again.
func filled(b byte) api.Block {
	var block api.Block
	for i := range block {
		block[i] = b
	}
	return block
}

// numbered: blocks of which each has bytes of its own.
func numbered(n int) []api.Block {
	l := make([]api.Block, n)
	for i := range l {
		l[i] = filled(byte(i + 1))
	}
	return l
}

func same(a, b disk.Disk) bool {
	return slices.Equal(a.Safe, b.Safe) && slices.Equal(a.Pending, b.Pending) && a.Left == b.Left
}

func wantDisk(t *testing.T, what string, got disk.Disk, err error, want disk.Disk) {
	t.Helper()
	if err != nil || !same(got, want) {
		t.Errorf("%s: %v, %v; wanted is %v", what, got, err, want)
	}
}

func wantError(t *testing.T, what string, got any, err error, want api.Errno) {
	t.Helper()
	if err != error(want) {
		t.Errorf("%s: %v; wanted is %v", what, err, want)
	}
	if !reflect.ValueOf(got).IsZero() {
		t.Errorf("%s: beside an error it answers %v", what, got)
	}
}

// wrongDisk: a disk that may not be, and what Check says.
type wrongDisk struct {
	name string
	disk disk.Disk
	err  api.Errno
}

func wrongDisks() []wrongDisk {
	outside := func(at, n int) disk.Disk {
		return disk.Disk{Safe: numbered(n), Pending: []api.Put{{At: 0}, {At: at}}, Left: -1}
	}
	return []wrongDisk{
		{"no blocks", disk.Disk{Left: -1}, api.ErrLimit},
		{"no blocks, one pending", disk.Disk{Pending: make([]api.Put, 1), Left: -1}, api.ErrLimit},
		{"one block too many", disk.Disk{Safe: numbered(disk.MaxSize + 1), Left: -1}, api.ErrLimit},
		{"one pending too many", disk.Disk{Safe: numbered(1), Pending: make([]api.Put, mostPending+1), Left: -1}, api.ErrLimit},
		{"too many, and at no place", disk.Disk{Safe: numbered(1), Pending: slices.Repeat([]api.Put{{At: 1}}, mostPending+1)}, api.ErrLimit},
		{"pending at -1", outside(-1, 3), api.ErrRange},
		{"pending behind the end", outside(3, 3), api.ErrRange},
		{"pending far off", outside(math.MaxInt, 3), api.ErrRange},
		{"pending far ahead", outside(math.MinInt, 3), api.ErrRange},
		{"pending behind the end, dead", disk.Disk{Safe: numbered(1), Pending: []api.Put{{At: 1}}}, api.ErrRange},
	}
}

func TestNew(t *testing.T) {
	for _, n := range []int{1, 2, 67, disk.MaxSize} {
		d, err := disk.New(n)
		wantDisk(t, "B1: New", d, err, disk.Disk{Safe: make([]api.Block, n), Left: -1})
	}
	for _, n := range []int{0, -1, disk.MaxSize + 1, math.MaxInt, math.MinInt} {
		d, err := disk.New(n)
		wantError(t, "B1: New", d, err, api.ErrRange)
	}
}

func TestCheckLetsGoodDisksPass(t *testing.T) {
	for _, left := range []int{math.MinInt, -1, 0, 1, math.MaxInt} {
		for _, n := range []int{1, 5, disk.MaxSize} {
			for _, pending := range []int{0, 1, mostPending} {
				d := disk.Disk{Safe: numbered(n), Pending: slices.Repeat([]api.Put{{At: n - 1}}, pending), Left: left}
				if err := disk.Check(d); err != nil {
					t.Errorf("B1: Check of %d blocks, %d pending, Left %d: %v", n, pending, left, err)
				}
			}
		}
	}
}

func TestEachCallAsksCheckFirst(t *testing.T) {
	for _, w := range wrongDisks() {
		wantError(t, "B1: Check: "+w.name, 0, disk.Check(w.disk), w.err)
		for _, at := range []int{0, -1, 5} {
			d, err := disk.Write(w.disk, at, filled(1))
			wantError(t, "B2: Write: "+w.name, d, err, w.err)
			b, err := disk.Read(w.disk, at)
			wantError(t, "B2: Read: "+w.name, b, err, w.err)
		}
		d, err := disk.Flush(w.disk)
		wantError(t, "B2: Flush: "+w.name, d, err, w.err)
		d, err = disk.Crash(w.disk, []int{8, 8})
		wantError(t, "B3: Crash: "+w.name, d, err, w.err)
	}
}

func TestWritePutsBehindTheOthers(t *testing.T) {
	d, err := disk.New(2)
	want := disk.Disk{Safe: make([]api.Block, 2), Left: -1}
	for i, at := range []int{1, 0, 1, 1} {
		d, err = disk.Write(d, at, filled(byte(i+1)))
		want.Pending = append(want.Pending, api.Put{At: at, Data: filled(byte(i + 1))})
		wantDisk(t, "B2: Write", d, err, want)
	}
}

func TestStepsThatAreLeft(t *testing.T) {
	for left, behind := range map[int]int{math.MinInt: math.MinInt, -7: -7, -1: -1, 1: 0, 2: 1, math.MaxInt: math.MaxInt - 1} {
		d := disk.Disk{Safe: numbered(2), Pending: []api.Put{{At: 1, Data: filled(9)}}, Left: left}
		w, err := disk.Write(d, 0, filled(8))
		wantDisk(t, "B2: Write", w, err, disk.Disk{Safe: numbered(2), Pending: []api.Put{{At: 1, Data: filled(9)}, {At: 0, Data: filled(8)}}, Left: behind})
		f, err := disk.Flush(d)
		wantDisk(t, "B2: Flush", f, err, disk.Disk{Safe: []api.Block{filled(1), filled(9)}, Left: behind})
		b, err := disk.Read(d, 1)
		if b != filled(9) || err != nil {
			t.Errorf("B2: Read, Left %d: %v, %v", left, b, err)
		}
	}
}

func TestDeadDisk(t *testing.T) {
	d := disk.Disk{Safe: numbered(2), Pending: []api.Put{{At: 1, Data: filled(9)}}}
	w, err := disk.Write(d, 0, filled(8))
	wantError(t, "B2: Write", w, err, api.ErrDead)
	f, err := disk.Flush(d)
	wantError(t, "B2: Flush", f, err, api.ErrDead)
	b, err := disk.Read(d, 1)
	wantError(t, "B2: Read", b, err, api.ErrDead)
	c, err := disk.Crash(d, []int{8})
	wantDisk(t, "B3: Crash", c, err, disk.Disk{Safe: []api.Block{filled(1), filled(9)}, Left: -1})
}

func TestPlacesThatAreNone(t *testing.T) {
	for _, left := range []int{-1, 0, 3} {
		for _, pending := range []int{0, mostPending} {
			d := disk.Disk{Safe: numbered(3), Pending: make([]api.Put, pending), Left: left}
			for _, at := range []int{-1, 3, math.MaxInt, math.MinInt} {
				w, err := disk.Write(d, at, filled(8))
				wantError(t, "B2: Write", w, err, api.ErrRange)
				b, err := disk.Read(d, at)
				wantError(t, "B2: Read", b, err, api.ErrRange)
			}
		}
	}
}

func TestAsManyPendingAsCanBe(t *testing.T) {
	for _, left := range []int{-1, 0, 3} {
		d := disk.Disk{Safe: numbered(1), Pending: make([]api.Put, mostPending), Left: left}
		w, err := disk.Write(d, 0, filled(8))
		wantError(t, "B2: Write", w, err, api.ErrLimit)
	}
	d := disk.Disk{Safe: numbered(1), Pending: make([]api.Put, mostPending-1), Left: -1}
	w, err := disk.Write(d, 0, filled(8))
	if err != nil || len(w.Pending) != mostPending {
		t.Errorf("B2: Write of the last that can be: %d pending, %v", len(w.Pending), err)
	}
	f, err := disk.Flush(w)
	wantDisk(t, "B2: Flush", f, err, disk.Disk{Safe: []api.Block{filled(8)}, Left: -1})
}

func TestFlushInOrder(t *testing.T) {
	d := disk.Disk{Safe: numbered(3), Pending: []api.Put{{At: 2, Data: filled(7)}, {At: 0, Data: filled(8)}, {At: 2, Data: filled(9)}}, Left: -1}
	f, err := disk.Flush(d)
	wantDisk(t, "B2: Flush", f, err, disk.Disk{Safe: []api.Block{filled(8), filled(2), filled(9)}, Left: -1})
	f, err = disk.Flush(f)
	wantDisk(t, "B2: Flush of nothing", f, err, disk.Disk{Safe: []api.Block{filled(8), filled(2), filled(9)}, Left: -1})
}

func TestReadTheLast(t *testing.T) {
	d := disk.Disk{Safe: numbered(3), Pending: []api.Put{{At: 2, Data: filled(7)}, {At: 0, Data: filled(8)}, {At: 2, Data: filled(9)}}, Left: 1}
	for at, want := range []api.Block{filled(8), filled(2), filled(9)} {
		if b, err := disk.Read(d, at); b != want || err != nil {
			t.Errorf("B2: Read %d: %v, %v; wanted is %v", at, b, err, want)
		}
	}
}

func TestCrashOfTheDocument(t *testing.T) {
	d, _ := disk.New(2)
	d, _ = disk.Write(d, 0, api.Block{1})
	d, _ = disk.Write(d, 0, api.Block{2, 3, 4, 5, 6, 7, 8, 9})
	d, err := disk.Crash(d, []int{1, 3})
	wantDisk(t, "B3: Crash", d, err, disk.Disk{Safe: []api.Block{{2, 3, 4}, {}}, Left: -1})
}

func TestCrashKeepsTheFirstBytes(t *testing.T) {
	numbers := map[int]int{
		0: 0, 1: 1, 4: 4, 7: 7, 8: 8, 9: 0, 10: 1, 17: 8, 18: 0, 900: 0,
		-1: 0, -2: 1, -5: 4, -9: 8, -10: 0, -11: 1, -901: 0,
		math.MaxInt: 7, math.MinInt: 7,
	}
	for x, keep := range numbers {
		d := disk.Disk{Safe: []api.Block{filled(1), filled(2)}, Pending: []api.Put{{At: 1, Data: api.Block{11, 12, 13, 14, 15, 16, 17, 18}}}, Left: 3}
		want := disk.Disk{Safe: []api.Block{filled(1), filled(2)}, Left: -1}
		for i := range keep {
			want.Safe[1][i] = byte(11 + i)
		}
		c, err := disk.Crash(d, []int{x})
		wantDisk(t, "B3: Crash", c, err, want)
	}
}

func TestCrashInOrder(t *testing.T) {
	d := disk.Disk{Safe: numbered(2), Pending: []api.Put{{At: 0, Data: filled(7)}, {At: 1, Data: filled(8)}, {At: 0, Data: filled(9)}}, Left: 0}
	for _, c := range []struct {
		bytes []int
		safe  []api.Block
	}{
		{nil, numbered(2)},
		{[]int{2}, []api.Block{{7, 7, 1, 1, 1, 1, 1, 1}, filled(2)}},
		{[]int{0, 8}, []api.Block{filled(1), filled(8)}},
		{[]int{5, 1, 2}, []api.Block{{9, 9, 7, 7, 7, 1, 1, 1}, {8, 2, 2, 2, 2, 2, 2, 2}}},
		{[]int{2, 0, 5}, []api.Block{{9, 9, 9, 9, 9, 1, 1, 1}, filled(2)}},
		{[]int{8, 8, 8, 8, 8}, []api.Block{filled(9), filled(8)}},
	} {
		got, err := disk.Crash(d, c.bytes)
		wantDisk(t, "B3: Crash", got, err, disk.Disk{Safe: c.safe, Left: -1})
	}
}

func TestCrashOfTheGreatestDisk(t *testing.T) {
	d := disk.Disk{Safe: make([]api.Block, disk.MaxSize), Left: 5}
	want := make([]api.Block, disk.MaxSize)
	var bytes []int
	for i := range mostPending {
		d.Pending = append(d.Pending, api.Put{At: i % disk.MaxSize, Data: filled(byte(i/disk.MaxSize + 1))})
		bytes = append(bytes, 8-2*(i/disk.MaxSize))
	}
	for at := range want {
		want[at] = api.Block{4, 4, 3, 3, 2, 2, 1, 1}
	}
	c, err := disk.Crash(d, bytes)
	wantDisk(t, "B3: Crash", c, err, disk.Disk{Safe: want, Left: -1})
}

// roomy: a disk whose lists have room behind them, that no call may write into or read.
func roomy() disk.Disk {
	safe := append(numbered(2), filled(200), filled(201))[:2]
	pending := []api.Put{{At: 1, Data: filled(9)}, {At: 0, Data: filled(202)}, {At: 0, Data: filled(203)}}[:1]
	return disk.Disk{Safe: safe, Pending: pending, Left: 5}
}

func TestListsAreTheCallersOwn(t *testing.T) {
	calls := map[string]func(disk.Disk) (disk.Disk, error){
		"Write": func(d disk.Disk) (disk.Disk, error) { return disk.Write(d, 0, filled(8)) },
		"Flush": disk.Flush,
		"Crash": func(d disk.Disk) (disk.Disk, error) { return disk.Crash(d, []int{5, 5, 5}) },
	}
	for name, call := range calls {
		d := roomy()
		got, err := call(d)
		if err != nil {
			t.Fatalf("Z2: %s: %v", name, err)
		}
		keep := disk.Disk{Safe: slices.Clone(got.Safe), Pending: slices.Clone(got.Pending), Left: got.Left}
		if !reflect.DeepEqual(d.Safe[:cap(d.Safe)], roomy().Safe[:cap(roomy().Safe)]) || !reflect.DeepEqual(d.Pending[:3], roomy().Pending[:3]) {
			t.Errorf("Z2: %s wrote into what was handed in: %v", name, d)
		}
		d.Safe[0], d.Safe[1], d.Pending[0] = filled(99), filled(99), api.Put{At: 1, Data: filled(99)}
		wantDisk(t, "Z2: "+name+" kept a list", got, nil, keep)
		got.Safe[0] = filled(77)
		if len(got.Pending) > 0 {
			got.Pending[0].At = 77
		}
		if d.Safe[0] != filled(99) || d.Pending[0].At != 1 {
			t.Errorf("Z2: %s handed out a list that was handed in", name)
		}
	}
}
