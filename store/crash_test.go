package store_test

import (
	"fmt"
	"testing"

	"stillwater/api"
	"stillwater/disk"
	"stillwater/store"
)

const mostSteps = 1000

// crashes: which bytes a crash leaves of so many pending blocks: of all as many, of one so many and of the others none or all, of those up to one all, and some that look drawn.
func crashes(pending int) [][]int {
	list := [][]int{nil}
	fill := func(one, keep, ahead, behind int) {
		bytes := make([]int, pending)
		for i := range bytes {
			switch {
			case i < one:
				bytes[i] = ahead
			case i == one:
				bytes[i] = keep
			default:
				bytes[i] = behind
			}
		}
		list = append(list, bytes)
	}
	for keep := range api.Wide + 1 {
		fill(0, keep, keep, keep)
		for one := range pending {
			fill(one, keep, 0, 0)
			fill(one, keep, api.Wide, api.Wide)
			fill(one, keep, api.Wide, 0)
			fill(one, keep, 0, api.Wide)
		}
	}
	draw := die(pending)
	for range 20 {
		list = append(list, draw.bytes(pending))
	}
	return list
}

// die: numbers that look drawn, the same each time.
type die uint64

func (d *die) below(most int) int {
	*d = *d*6364136223846793005 + 1442695040888963407
	return int(uint64(*d>>33) % uint64(most))
}

func (d *die) bytes(n int) []int {
	l := make([]int, n)
	for i := range l {
		l[i] = d.below(api.Wide + 1)
	}
	return l
}

func crash(t *testing.T, d disk.Disk, bytes []int) disk.Disk {
	t.Helper()
	c, err := disk.Crash(d, bytes)
	if err != nil {
		t.Fatalf("B3: Crash: %v", err)
	}
	return c
}

// openWithEach: the disk, opened with each number of steps until that is enough, and with any number; whatever is opened has one of the states. It answers the one that it has.
func openWithEach(t *testing.T, what string, d disk.Disk, n int, states ...state) state {
	t.Helper()
	for left := 0; ; left++ {
		if left > mostSteps {
			t.Fatalf("C3: %s: Open takes more than %d steps", what, mostSteps)
		}
		d.Left = left
		s, err := store.Open(d, n)
		if err == error(api.ErrDead) && s == nil {
			continue
		}
		if err != nil {
			t.Fatalf("C3: %s: Open with %d steps: %v", what, left, err)
		}
		if after := s.Disk(); after.Left != 0 {
			oneOf(t, what, s, states)
			break
		}
	}
	d.Left = -1
	return oneOf(t, what, open(t, d, n), states)
}

func oneOf(t *testing.T, what string, s *store.Store, states []state) state {
	t.Helper()
	got := told(t, s)
	for _, want := range states {
		if got.is(want) {
			return got
		}
	}
	t.Fatalf("C3: %s: %v is none of %v", what, got, states)
	return state{}
}

// begun: a store in which there was some commit, so that nothing in it is nought, and its state.
func begun(t *testing.T, n, commits int) (disk.Disk, state) {
	t.Helper()
	s, now := open(t, format(t, n), n), noughts(n)
	for i := range commits {
		puts := everywhere(n, byte(50*(i+1)))
		commit(t, s, puts, i+1, 1000*i)
		now = now.behind(puts, i+1, 1000*i)
	}
	return s.Disk(), now
}

func TestCommitThatDiesAtEachStep(t *testing.T) {
	for _, n := range []int{1, 2, 5} {
		for commits := range 3 {
			base, before := begun(t, n, commits)
			whole := everywhere(n, 150)
			commitAtEachStep(t, base, before, whole)
			commitAtEachStep(t, base, before, whole[:1])
			commitAtEachStep(t, base, before, nil)
		}
	}
	base, before := begun(t, api.MaxBlocks, 1)
	commitAtEachStep(t, base, before, everywhere(api.MaxBlocks, 150))
}

// commitAtEachStep: a commit with each number of steps, until that is enough; each crash behind it leaves the one or the other state.
func commitAtEachStep(t *testing.T, base disk.Disk, before state, puts []api.Put) {
	t.Helper()
	n := len(before.blocks)
	after := before.behind(puts, api.MaxNumber, 0x01020304)
	for left := 0; ; left++ {
		base.Left = left
		s, err := store.Open(base, n)
		if err == error(api.ErrDead) && left < mostSteps {
			continue
		}
		if err != nil {
			t.Fatalf("C3: Open with %d steps: %v", left, err)
		}
		done := s.Commit(puts, after.a, after.b)
		if done != nil && (done != error(api.ErrDead) || left == mostSteps) {
			t.Fatalf("C3: Commit with %d steps: %v", left, done)
		}
		states := []state{after, before}
		if done == nil {
			states = states[:1]
		}
		d := s.Disk()
		for _, bytes := range crashes(len(d.Pending)) {
			what := fmt.Sprintf("%d blocks, %d puts, %d steps, a crash that leaves %v", n, len(puts), left, bytes)
			c := crash(t, d, bytes)
			now := openWithEach(t, what, c, n, states...)
			goesOn(t, what, c, now)
		}
		if done == nil {
			return
		}
	}
}

// goesOn: what was opened behind a crash can be committed to, and is whole then; also what was torn is gone.
func goesOn(t *testing.T, what string, d disk.Disk, now state) {
	t.Helper()
	n := len(now.blocks)
	s := open(t, d, n)
	puts := []api.Put{{At: n - 1, Data: filled(255)}}
	commit(t, s, puts, 5, 6)
	want := now.behind(puts, 5, 6)
	if got := told(t, s); !got.is(want) {
		t.Fatalf("C2: %s: a further commit comes to %v; wanted is %v", what, got, want)
	}
	wantState(t, "C1: "+what, open(t, crash(t, s.Disk(), nil), n), want)
}

// TestManyCrashes: commits that die or not, crashes and openings that die, again and again, as they are drawn.
func TestManyCrashes(t *testing.T) {
	for seed := range 40 {
		draw := die(seed)
		n := 1 + draw.below(api.MaxBlocks)
		d, now := format(t, n), noughts(n)
		for round := range 60 {
			what := fmt.Sprintf("seed %d, round %d", seed, round)
			d.Left = draw.below(60) - 1
			s, err := store.Open(d, n)
			if err != nil {
				wantError(t, "C3: Open", s, err, api.ErrDead)
				d.Left = -1
				s = open(t, d, n)
			}
			next, done := now, error(nil)
			for range 1 + draw.below(3) {
				if done == nil {
					now = next
					puts := drawPuts(&draw, n)
					next = now.behind(puts, draw.below(api.MaxNumber), round)
					done = s.Commit(puts, next.a, next.b)
				}
			}
			d = s.Disk()
			states := []state{next}
			if done != nil {
				wantError(t, "C2: Commit", 0, done, api.ErrDead)
				states = append(states, now)
			} else if len(d.Pending) > 0 {
				t.Fatalf("C1: %s: pending behind a commit: %v", what, d.Pending)
			}
			d = crash(t, d, draw.bytes(draw.below(len(d.Pending)+2)))
			now = openWithEach(t, what, d, n, states...)
		}
	}
}

func drawPuts(draw *die, n int) []api.Put {
	var puts []api.Put
	for range draw.below(n + 1) {
		puts = append(puts, api.Put{At: draw.below(n), Data: filled(byte(draw.below(256)))})
	}
	return puts
}
