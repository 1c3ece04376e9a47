package console

import (
	"errors"
	"slices"
	"testing"

	"stillwater/api"
)

// TestDeedsOfLines: what a line does to the line and to the backup shows in no answer, but in the script.
func TestDeedsOfLines(t *testing.T) {
	d, known := &desk{}, orders()
	var want []api.Deed
	for _, c := range []struct {
		line string
		deed api.Deed
	}{
		{"write 1 0123456789abcdef", api.Deed{Kind: api.Write, At: 1, Data: api.Block{0x01, 0x23, 0x45, 0x67, 0x89, 0xab, 0xcd, 0xef}}},
		{"trim 2", api.Deed{Kind: api.Trim, At: 2}},
		{"read 3", api.Deed{Kind: api.Read, At: 3}},
		{"barrier", api.Deed{Kind: api.Barrier}},
		{"tick", api.Deed{Kind: api.Tick}},
		{"deliver 4", api.Deed{Kind: api.Deliver, At: 4}},
		{"deliver 999999", api.Deed{Kind: api.Deliver, At: 999999}},
		{"lose 5", api.Deed{Kind: api.Lose, At: 5}},
		{"lose 123456", api.Deed{Kind: api.Lose, At: 123456}},
		{"double 6", api.Deed{Kind: api.Double, At: 6}},
		{"double 10203", api.Deed{Kind: api.Double, At: 10203}},
		{"crash first", api.Deed{Kind: api.CrashFirst}},
		{"crash other", api.Deed{Kind: api.CrashOther}},
	} {
		if told := d.answer(known, "new 4"); told != "ok" || d.size != 4 || len(d.script) != 0 {
			t.Fatalf("Q1: new 4: %q: %d blocks, script %v", told, d.size, d.script)
		}
		for _, deed := range want {
			d.script = append(d.script, deed)
		}
		d.answer(known, c.line)
		want = append(want, c.deed)
		if !slices.Equal(d.script, want) {
			t.Fatalf("Q1: %s: script %v; wanted is %v", c.line, d.script, want)
		}
		for _, line := range []string{"settle", "plan", "foo", "trim 4", "read x", "new 0", "crash both", ""} {
			d.answer(known, line)
			if !slices.Equal(d.script, want) || d.size != 4 {
				t.Fatalf("Q1: %q changed the script: %v; wanted is %v", line, d.script, want)
			}
		}
	}
}

func TestNumbersAndBlocksOfWords(t *testing.T) {
	for word, want := range map[string]int{"0": 0, "7": 7, "10": 10, "305": 305, "999999": 999999, "100000": 100000} {
		if x, err := number(word); x != want || err != nil {
			t.Errorf("Q1: %q: %d, %v", word, x, err)
		}
	}
	for _, word := range []string{"", "00", "07", "1000000", "1x", "x1", "12345x"} {
		if x, err := number(word); x != 0 || err != api.ErrForm {
			t.Errorf("Z1: %q: %d, %v", word, x, err)
		}
	}
	for _, word := range []string{"", "0123456789abcde", "0123456789abcdeg", "g123456789abcdef", "0123456789abcdef0"} {
		if b, err := block(word); b != (api.Block{}) || err != api.ErrForm {
			t.Errorf("Z1: %q: %v, %v", word, b, err)
		}
	}
}

func TestNumbersOfErrors(t *testing.T) {
	for e, want := range []string{"0", "1", "2", "3", "4", "5", "6"} {
		if told := numberOf(api.Errno(e)); told != want {
			t.Errorf("Q1: %v: %q", api.Errno(e), told)
		}
	}
	if told := numberOf(errors.Join(api.ErrDead)); told != "4" {
		t.Errorf("Q1: a wrapped one: %q", told)
	}
}
