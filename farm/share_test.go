package farm

import (
	"slices"
	"testing"

	"stillwater/api"
)

// marked: scripts of which number i has i deeds.
func marked(many int) [][]api.Deed {
	var scripts [][]api.Deed
	for i := range many {
		scripts = append(scripts, make([]api.Deed, i))
	}
	return scripts
}

// endOf is the end that a job of marked gets here.
func endOf(j job) End { return End{Have: 100 + len(j.script)} }

func wantMarked(t *testing.T, ends []End) {
	t.Helper()
	for i, end := range ends {
		if end != endOf(job{script: make([]api.Deed, i)}) {
			t.Errorf("J1: %v at place %d", end, i)
		}
	}
}

// TestOutcomesOutOfOrder: a hand that takes all jobs ahead of telling any, and then tells the last first.
func TestOutcomesOutOfOrder(t *testing.T) {
	for many := range 10 {
		jobs, outcomes := make(chan job), make(chan outcome)
		go func() {
			all := slices.Collect(func(yield func(job) bool) {
				for j := range jobs {
					yield(j)
				}
			})
			slices.Reverse(all)
			for _, j := range all {
				outcomes <- outcome{at: j.at, end: endOf(j)}
			}
		}()
		ends := share(marked(many), jobs, outcomes)
		if len(ends) != many {
			t.Fatalf("J1: %d ends of %d scripts", len(ends), many)
		}
		wantMarked(t, ends)
	}
}

// TestOutcomesWhileJobsAreLeft: a hand that takes no further job until it was heard.
func TestOutcomesWhileJobsAreLeft(t *testing.T) {
	jobs, outcomes := make(chan job), make(chan outcome)
	go func() {
		for j := range jobs {
			outcomes <- outcome{at: j.at, end: endOf(j)}
		}
	}()
	wantMarked(t, share(marked(20), jobs, outcomes))
	if _, more := <-jobs; more {
		t.Error("J1: a job is left")
	}
}

// TestFailed: an error is told by its number, and nothing else is.
func TestFailed(t *testing.T) {
	for wrong := api.ErrRange; wrong <= api.ErrUnlike; wrong++ {
		if end := failed(wrong); end != (End{Err: wrong}) {
			t.Errorf("J1: %v of %v", end, wrong)
		}
	}
}
