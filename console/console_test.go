package console_test

import (
	"fmt"
	"strings"
	"sync"
	"testing"

	"stillwater/api"
	"stillwater/console"
)

const (
	one     = "0100000000000000"
	two     = "0200000000000000"
	noughts = "0000000000000000"
)

// says: a session of lines, each with its answer behind it.
func says(t *testing.T, linesAndAnswers ...string) {
	t.Helper()
	text, want := "", ""
	for i := 0; i < len(linesAndAnswers); i += 2 {
		text += linesAndAnswers[i] + "\n"
		want += linesAndAnswers[i+1] + "\n"
	}
	whole(t, text, want)
}

// whole: what a whole text is answered.
func whole(t *testing.T, text, want string) {
	t.Helper()
	if got := console.Session(text); got != want {
		t.Errorf("Q1: %q: %q; wanted is %q", text, got, want)
	}
}

// ask is the answer to a line behind others.
func ask(ahead, line string) string {
	lines := strings.Split(console.Session(ahead+line+"\n"), "\n")
	return lines[len(lines)-2]
}

func asks(t *testing.T, ahead, line, want string) {
	t.Helper()
	if got := ask(ahead, line); got != want {
		t.Errorf("Q1: behind %q: %q: %q; wanted is %q", ahead, line, got, want)
	}
}

// top of a device that has some blocks, each told by its first byte.
func top(first ...byte) string {
	var l []api.Block
	for _, x := range first {
		l = append(l, api.Block{x})
	}
	return fmt.Sprint(topOf(l))
}

func TestTheDocumentsSession(t *testing.T) {
	says(t,
		"read 0", "error 5",
		"new 4", "ok",
		"write 1 "+one, "0",
		"write 2 "+one, "0",
		"plan", "1 3 0 "+one+"|2 3 0 "+one,
		"barrier", "1",
		"write 0 "+one, "1",
		"trim 2", "1",
		"plan", "0 1 1|2 0 0",
		"crash first", "1",
		"read 0", noughts,
		"tick", "1",
		"settle", "1 6423663479597139808",
		"write 4 "+one, "error 1",
		"write 0 01", "error 3",
		"crash both", "error 3",
		"foo", "bad",
	)
}

func TestEveryLineOfTheTable(t *testing.T) {
	says(t,
		"new 3", "ok",
		"write 0 "+one, "0",
		"read 0", one,
		"barrier", "1",
		"tick", "1",
		"double 0", "1",
		"lose 0", "1",
		"deliver 0", "1",
		"trim 0", "1",
		"read 0", noughts,
		"crash other", "1",
		"plan", "0 0 0",
		"settle", "1 "+top(1, 0, 0),
		"barrier", "2",
		"settle", "2 "+top(0, 0, 0),
		"write 2 "+two, "2",
		"crash first", "2",
		"read 2", noughts,
		"plan", "",
	)
}

func TestWrittenBlocksAreRead(t *testing.T) {
	text, want := "new 32\n", "ok\n"
	for at := range 32 {
		text += fmt.Sprintf("write %d %02x0000000000ff%02x\n", at, at, 255-at)
		want += "0\n"
	}
	for at := range 32 {
		text += fmt.Sprintf("read %d\n", at)
		want += fmt.Sprintf("%02x0000000000ff%02x\n", at, 255-at)
	}
	whole(t, text, want)
}

func TestTextWithoutAByte(t *testing.T) {
	whole(t, "", "")
}

func TestLengthOfTexts(t *testing.T) {
	for _, c := range []struct{ text, want string }{
		{strings.Repeat("x", api.MaxText), "bad\n"},
		{strings.Repeat("x", api.MaxText-1) + "\n", "bad\n"},
		{strings.Repeat("tick\n", api.MaxText/5), strings.Repeat("error 5\n", api.MaxText/5)},
		{strings.Repeat("\n", api.MaxText), strings.Repeat("bad\n", api.MaxText)},
		{strings.Repeat(" ", api.MaxText), "bad\n"},
		{"new 1\n" + strings.Repeat("\n", api.MaxText-6), "ok\n" + strings.Repeat("bad\n", api.MaxText-6)},
		{strings.Repeat("é", api.MaxText/2), "bad\n"},
		{strings.Repeat("x", api.MaxText+1), "too long\n"},
		{strings.Repeat("x", api.MaxText) + "\n", "too long\n"},
		{strings.Repeat("tick\n", api.MaxText/5) + "\n", "too long\n"},
		{"new 1\n" + strings.Repeat("\n", api.MaxText-5), "too long\n"},
		{strings.Repeat("\n", api.MaxText+1), "too long\n"},
		{strings.Repeat("é", api.MaxText/2+1), "too long\n"},
		{strings.Repeat("tick\n", 100000), "too long\n"},
	} {
		if got := console.Session(c.text); got != c.want {
			t.Errorf("Q1: %d bytes, %.10q..: %.40q; wanted is %.40q", len(c.text), c.text, got, c.want)
		}
	}
}

func TestNewlines(t *testing.T) {
	whole(t, "tick", "error 5\n")
	whole(t, "tick\n", "error 5\n")
	whole(t, "tick\n\n", "error 5\nbad\n")
	whole(t, "\n", "bad\n")
	whole(t, "\n\n", "bad\nbad\n")
	whole(t, "\ntick", "bad\nerror 5\n")
	whole(t, "new 1\nbarrier", "ok\n1\n")
	whole(t, "new 1\nbarrier\n", "ok\n1\n")
	whole(t, "new 1\n\n\nbarrier\n\n", "ok\nbad\nbad\n1\nbad\n")
	whole(t, "new 1\nplan", "ok\n\n")
	whole(t, "new 1\r\nnew 1\rbarrier\n", "error 3\nerror 3\n")
}

// TestBlanks: each blank parts two words, also such as have no sign.
func TestBlanks(t *testing.T) {
	for line, want := range map[string]string{
		"":                        "bad",
		" ":                       "bad",
		"  ":                      "bad",
		" tick":                   "bad",
		"tick ":                   "bad",
		" tick ":                  "bad",
		"  tick":                  "bad",
		"tick  ":                  "bad",
		" trim 1":                 "bad",
		"trim 1 ":                 "bad",
		"trim  1":                 "bad",
		"trim ":                   "error 3",
		"trim  ":                  "bad",
		"new ":                    "error 3",
		"new  1":                  "bad",
		" new 1":                  "bad",
		"new 1 ":                  "bad",
		"read ":                   "error 3",
		"deliver ":                "error 3",
		"lose ":                   "error 3",
		"double ":                 "error 3",
		"crash ":                  "error 3",
		"crash  first":            "bad",
		"crash first ":            "bad",
		"settle ":                 "bad",
		"plan ":                   "bad",
		"barrier ":                "bad",
		"write ":                  "bad",
		"write  ":                 "error 3",
		"write   ":                "bad",
		"write 1 ":                "error 3",
		"write  1":                "error 3",
		"write  " + one:           "error 3",
		"write 1  " + one:         "bad",
		"write 1 " + one + " ":    "bad",
		" write 1 " + one:         "bad",
		"write  1 " + one:         "bad",
		"write 1 " + one[:15]:     "error 3",
		"write 1 \t" + one[:15]:   "error 3",
		"write\t1 " + one:         "bad",
		"trim\t1":                 "bad",
		"trim\u00a01":             "bad",
		"write 1\u3000" + one:     "bad",
		"trim \t1":                "error 3",
		"barrier\t":               "bad",
		"write 1 " + one + "\t":   "error 3",
		"write 1\x00 " + one:      "error 3",
		"write 1 " + one + "\x00": "error 3",
	} {
		asks(t, "", line, want)
		asks(t, "new 4\n", line, want)
	}
}

func TestFirstWordsThatAreNone(t *testing.T) {
	for _, word := range []string{"foo", "New", "NEW", "Tick", "TICK", "ticks", "tic", "news", "wr", "writ", "garble", "first", "0", "1", "read0", "ok", "error", "bad", "settle\r", "plan|plan", "\x00", "\xff\xfe", "tick\x00", "ticк", "new\u200b", "write,1"} {
		for _, more := range []string{"", " 1", " 1 " + one, " 1 2 3", " "} {
			asks(t, "", word+more, "bad")
			asks(t, "new 4\n", word+more, "bad")
		}
	}
}

// TestHowManyWords: each first word, with each number of words behind it, whatever these are.
func TestHowManyWords(t *testing.T) {
	for word, many := range behind {
		for _, more := range []string{" 1", " ", " x", " first", " " + one} {
			for count := range 6 {
				line := word + strings.Repeat(more, count)
				for _, ahead := range []string{"", "new 4\n"} {
					if got := ask(ahead, line); (got == "bad") != (count != many) {
						t.Errorf("Q1: behind %q: %q: %q", ahead, line, got)
					}
				}
			}
		}
	}
}

func TestNumbers(t *testing.T) {
	good := []string{"0", "1", "9", "10", "12", "99", "100", "123", "1234", "12345", "100000", "123456", "999999"}
	bad := []string{"", "00", "01", "09", "000", "001", "010", "000000", "000001", "012345", "0000000", "0123456", "1000000", "1234567", "9999999", "12345678901234567890", "99999999999999999999999", "18446744073709551617", "4294967297",
		"-1", "+1", "-0", "-", "+", "a", "f", "A", "x", "1a", "a1", "1.", ".1", "1.0", "1e1", "0x1", "0b1", "0o1", "1_0", "1,", "1\t", "\t1", "1\r", "1\x00", "\x001", "١", "１", "²", "\xff", "1\xff", "/", ":", "1/", "1:"}
	for _, kind := range []string{"deliver ", "lose ", "double "} {
		for _, word := range good {
			asks(t, "", kind+word, "error 5")
			asks(t, "new 1\nbarrier\n", kind+word, "1")
			asks(t, "new 2\nbarrier\ntick\ntick\ntick\n", kind+word, "1")
		}
	}
	for _, kind := range []string{"new ", "trim ", "read ", "deliver ", "lose ", "double "} {
		for _, word := range bad {
			asks(t, "", kind+word, "error 3")
			asks(t, "new 32\n", kind+word, "error 3")
		}
	}
	for _, word := range bad {
		asks(t, "", "write "+word+" "+one, "error 3")
		asks(t, "new 32\n", "write "+word+" "+one, "error 3")
	}
}

func TestPlacesThatAreNone(t *testing.T) {
	for _, word := range []string{"5", "10", "31", "32", "100", "1000", "99999", "999999"} {
		for _, line := range []string{"trim " + word, "read " + word, "write " + word + " " + one} {
			asks(t, "", line, "error 5")
			asks(t, "new 5\n", line, "error 1")
		}
	}
}

func TestNew(t *testing.T) {
	for n := 1; n <= api.MaxBlocks; n++ {
		says(t,
			fmt.Sprintf("new %d", n), "ok",
			"write 0 "+one, "0",
			fmt.Sprintf("read %d", n-1), map[bool]string{true: one, false: noughts}[n == 1],
			fmt.Sprintf("write %d %s", n-1, two), "0",
			fmt.Sprintf("read %d", n-1), two,
			fmt.Sprintf("read %d", n), "error 1",
			fmt.Sprintf("trim %d", n), "error 1",
			fmt.Sprintf("write %d %s", n, two), "error 1",
		)
	}
	for _, n := range []int{0, api.MaxBlocks + 1, 34, 64, 100, 256, 1000, 65537, 999999} {
		asks(t, "", fmt.Sprintf("new %d", n), "error 1")
		asks(t, "new 3\n", fmt.Sprintf("new %d", n), "error 1")
	}
	asks(t, fmt.Sprintf("new %d\n", api.MaxBlocks), "new 1", "ok")
	asks(t, "new 0\nnew 33\nnew x\n", "tick", "error 5")
}

func TestBlocks(t *testing.T) {
	const digits = "0123456789abcdef"
	for at := range 16 {
		for c := range 256 {
			if c == ' ' || c == '\n' {
				continue
			}
			word := one[:at] + string([]byte{byte(c)}) + one[at+1:]
			want, read := "error 3", noughts
			if strings.IndexByte(digits, byte(c)) >= 0 {
				want, read = "0", word
			}
			says(t, "new 1", "ok", "write 0 "+word, want, "read 0", read)
		}
	}
	for many := range 40 {
		word := strings.Repeat("9", many)
		if many != 16 {
			says(t, "new 1", "ok", "write 0 "+word, "error 3", "read 0", noughts)
		}
	}
	for _, word := range []string{"0123456789abcdef", "fedcba9876543210", "ffffffffffffffff", noughts, "00000000000000ff", "ff00000000000000"} {
		says(t, "new 1", "ok", "write 0 "+word, "0", "read 0", word, "barrier", "1", "read 0", word)
	}
	for _, word := range []string{"0123456789ABCDEF", "0123456789abcdeF", "FEDCBA9876543210", "0x00000000000000", "éééééééé", "０１２３４", "+100000000000000", "-100000000000000", "00000000_0000000"} {
		says(t, "new 1", "ok", "write 0 "+word, "error 3", "read 0", noughts)
	}
}

func TestCrashes(t *testing.T) {
	for _, word := range []string{"", "both", "First", "OTHER", "firs", "firstt", "other\r", "0", "1", "first\x00"} {
		asks(t, "", "crash "+word, "error 3")
		asks(t, "new 1\nbarrier\n", "crash "+word, "error 3")
	}
	says(t,
		"crash first", "error 5",
		"crash other", "error 5",
		"new 2", "ok",
		"write 0 "+one, "0",
		"crash other", "0",
		"read 0", one,
		"crash first", "0",
		"read 0", noughts,
		"write 0 "+one, "0",
		"barrier", "1",
		"write 0 "+two, "1",
		"crash other", "1",
		"read 0", two,
		"crash first", "1",
		"read 0", one,
		"crash first", "1",
		"read 0", one,
	)
}

// TestWithoutADevice: each line of the table, as it must be.
func TestWithoutADevice(t *testing.T) {
	for _, line := range tableLines() {
		for _, ahead := range []string{"", "tick\n", "new 0\n", "new 33\n", "new\n", "new 01\n", "new 1 1\n", "foo\n"} {
			asks(t, ahead, line, "error 5")
		}
	}
}

// tableLines: those that need a device, none of which is wrong with one of two blocks.
func tableLines() []string {
	return []string{"write 0 " + one, "trim 1", "read 1", "barrier", "tick", "deliver 0", "lose 7", "double 999999", "crash first", "crash other", "settle", "plan"}
}

// TestWhatIsToldFirst: lines with which several things are wrong.
func TestWhatIsToldFirst(t *testing.T) {
	full := "new 2\n" + strings.Repeat("barrier\n", api.MaxScript)
	for _, c := range []struct{ line, without, with, full string }{
		{"writes 9 zz", "bad", "bad", "bad"},
		{"write 09 zz 1", "bad", "bad", "bad"},
		{"write 09", "bad", "bad", "bad"},
		{"new 09 1", "bad", "bad", "bad"},
		{"crash both ways", "bad", "bad", "bad"},
		{"settle 01", "bad", "bad", "bad"},
		{"plan x", "bad", "bad", "bad"},
		{"write 09 zz", "error 3", "error 3", "error 3"},
		{"write 9 zz", "error 3", "error 3", "error 3"},
		{"write 09 " + one, "error 3", "error 3", "error 3"},
		{"trim 09", "error 3", "error 3", "error 3"},
		{"read x", "error 3", "error 3", "error 3"},
		{"deliver -1", "error 3", "error 3", "error 3"},
		{"lose 1000000", "error 3", "error 3", "error 3"},
		{"double ", "error 3", "error 3", "error 3"},
		{"crash both", "error 3", "error 3", "error 3"},
		{"new 00", "error 3", "error 3", "error 3"},
		{"new 033", "error 3", "error 3", "error 3"},
		{"new 33", "error 1", "error 1", "error 1"},
		{"new 0", "error 1", "error 1", "error 1"},
		{"write 9 " + one, "error 5", "error 1", "error 2"},
		{"trim 9", "error 5", "error 1", "error 2"},
		{"read 9", "error 5", "error 1", "error 2"},
		{"write 1 " + one, "error 5", "0", "error 2"},
		{"trim 1", "error 5", "0", "error 2"},
		{"read 1", "error 5", noughts, "error 2"},
		{"barrier", "error 5", "1", "error 2"},
		{"tick", "error 5", "0", "error 2"},
		{"deliver 9", "error 5", "0", "error 2"},
		{"lose 9", "error 5", "0", "error 2"},
		{"double 9", "error 5", "0", "error 2"},
		{"crash first", "error 5", "0", "error 2"},
		{"crash other", "error 5", "0", "error 2"},
		{"plan", "error 5", "", "error 2"},
		{"settle", "error 5", "0 " + top(0, 0), fmt.Sprint(api.MaxScript, " ", top(0, 0))},
		{"new 1", "ok", "ok", "ok"},
	} {
		asks(t, "", c.line, c.without)
		asks(t, "new 2\n", c.line, c.with)
		asks(t, full, c.line, c.full)
	}
}

// TestFullScript: MaxScript deeds, the last one of each kind, and one more; with one deed less there still is a plan.
func TestFullScript(t *testing.T) {
	for _, line := range tableLines()[:10] {
		ahead := "new 2\n" + line + "\n" + strings.Repeat("tick\n", api.MaxScript-2)
		if got := ask(ahead, "plan"); strings.HasPrefix(got, "error") {
			t.Errorf("Q1: plan, behind %s and ticks, %d deeds: %q", line, api.MaxScript-1, got)
		}
		asTheModel(t, ahead+"plan\nsettle\n"+line+"\nplan\nsettle\n"+line+"\nsettle\nnew 2\n"+line+"\n")
		asks(t, ahead+line+"\n", line, "error 2")
		asks(t, ahead+line+"\n", "plan", "error 2")
	}
}

// TestWrongDeedsAreNone: what was wrong takes no place in the script.
func TestWrongDeedsAreNone(t *testing.T) {
	wrong := "read 2\nread 02\nread\n\nwrite 2 " + one + "\nnew 0\nplan\nsettle\n"
	text := "new 1\n" + strings.Repeat(wrong, 20) + strings.Repeat("barrier\n", api.MaxScript-1)
	asks(t, text, "read 1", "error 1")
	asks(t, text, "read 0", noughts)
	asks(t, text+"read 0\n", "read 0", "error 2")
	asks(t, text+"read 1\n", "barrier", "300")
	asks(t, text+"barrier\n", "barrier", "error 2")
	asks(t, text+"barrier\nbarrier\n", "settle", "300 "+top(0))
}

// TestErrorsChangeNothing: with lines that are wrong among them all others answer as they do without.
func TestErrorsChangeNothing(t *testing.T) {
	d := die(301)
	wrong := []string{"", " ", "foo", "new", "new 0", "new 33", "new 03", "new 1000000", "write 0", "write 6 " + one, "write 0 0", "write 00 " + one, "write 0 " + strings.ToUpper("abcdef0123456789"), "trim 6", "trim -1", "read 99", "read", "deliver", "deliver 01", "lose x", "double 1 1", "barrier 1", "tick tick", "crash", "crash both", "crash First", "settle 1", "plan 1", "garble 0"}
	for range 60 {
		plain, mixed, isWrong := "new 6\n", "new 6\n", []bool{false}
		for range 30 {
			for d.n(2) == 0 {
				mixed += wrong[d.n(len(wrong))] + "\n"
				isWrong = append(isWrong, true)
			}
			line := someLine(&d, 6, 1<<30) + "\n"
			plain += line
			mixed += line
			isWrong = append(isWrong, false)
		}
		var kept []string
		for i, answer := range strings.Split(strings.TrimSuffix(console.Session(mixed), "\n"), "\n") {
			if !isWrong[i] {
				kept = append(kept, answer)
			} else if answer != "bad" && !strings.HasPrefix(answer, "error ") {
				t.Fatalf("Q1: %q: answer %d, to what is wrong: %q", mixed, i, answer)
			}
		}
		if got := strings.Join(kept, "\n") + "\n"; got != console.Session(plain) {
			t.Fatalf("Q1: %q: %q; without what is wrong: %q", mixed, got, console.Session(plain))
		}
	}
}

func TestSecondNew(t *testing.T) {
	says(t,
		"new 2", "ok",
		"write 1 "+one, "0",
		"barrier", "1",
		"write 0 "+two, "1",
		"tick", "1",
		"new 2", "ok",
		"read 1", noughts,
		"read 0", noughts,
		"plan", "",
		"settle", "0 "+top(0, 0),
		"barrier", "1",
		"settle", "1 "+top(0, 0),
		"new 5", "ok",
		"write 4 "+one, "0",
		"new 1", "ok",
		"read 4", "error 1",
		"barrier", "1",
		"write 0 "+one, "1",
		"new 0", "error 1",
		"new 33", "error 1",
		"new 01", "error 3",
		"new", "bad",
		"new 1 1", "bad",
		"read 0", one,
		"read 1", "error 1",
		"barrier", "2",
		"settle", "2 "+top(1),
	)
}

func TestSettleAndPlanAtAnEmptyScript(t *testing.T) {
	for n := 1; n <= api.MaxBlocks; n++ {
		says(t,
			fmt.Sprintf("new %d", n), "ok",
			"settle", "0 "+top(make([]byte, n)...),
			"plan", "",
			"settle", "0 "+top(make([]byte, n)...),
			"barrier", "1",
		)
	}
}

func TestSettle(t *testing.T) {
	says(t,
		"new 5", "ok",
		"write 0 "+one, "0",
		"settle", "0 "+top(0, 0, 0, 0, 0),
		"barrier", "1",
		"settle", "1 "+top(1, 0, 0, 0, 0),
		"write 4 "+two, "1",
		"settle", "1 "+top(1, 0, 0, 0, 0),
		"barrier", "2",
		"tick", "2",
		"lose 0", "2",
		"settle", "2 "+top(1, 0, 0, 0, 2),
		"crash other", "2",
		"settle", "2 "+top(1, 0, 0, 0, 2),
		"trim 0", "2",
		"crash first", "2",
		"settle", "2 "+top(1, 0, 0, 0, 2),
		"trim 0", "2",
		"barrier", "3",
		"crash first", "3",
		"crash other", "3",
		"tick", "3",
		"double 0", "3",
		"deliver 1", "3",
		"lose 1", "3",
		"settle", "3 "+top(0, 0, 0, 0, 2),
		"read 4", two,
	)
}

func TestPlan(t *testing.T) {
	says(t,
		"new 12", "ok",
		"write 11 "+one, "0",
		"write 3 "+one, "0",
		"write 7 "+noughts, "0",
		"plan", "3 3 0 "+one+"|11 3 0 "+one,
		"write 3 "+two, "0",
		"plan", "3 3 0 "+two+"|11 3 0 "+one,
		"barrier", "1",
		"plan", "",
		"write 3 "+two, "1",
		"plan", "",
		"write 3 "+one, "1",
		"write 0 "+one, "1",
		"write 1 "+two, "1",
		"trim 11", "1",
		"write 2 abcdef0123456789", "1",
		"plan", "0 1 11|1 1 3|2 3 0 abcdef0123456789|3 1 11|11 0 0",
		"tick", "1",
		"lose 0", "1",
		"crash other", "1",
		"plan", "0 1 11|1 1 3|2 3 0 abcdef0123456789|3 1 11|11 0 0",
		"crash first", "1",
		"plan", "",
		"trim 3", "1",
		"plan", "3 0 0",
		"barrier", "2",
		"tick", "2",
		"double 0", "2",
		"deliver 1", "2",
		"lose 0", "2",
		"plan", "",
		"write 3 "+two, "2",
		"plan", "3 3 0 "+two,
	)
}

// TestSettleAndPlanAreNoDeeds: behind as many of them as there is room for, all is as it was, and so is how many deeds may follow.
func TestSettleAndPlanAreNoDeeds(t *testing.T) {
	text, want := "new 1\nwrite 0 "+one+"\n", "ok\n0\n"
	for range 20 {
		text += "plan\nsettle\n"
		want += "0 3 0 " + one + "\n0 " + top(0) + "\n"
	}
	for i := range api.MaxScript - 1 {
		text += "barrier\n"
		want += fmt.Sprintln(i + 1)
		if i%100 == 0 {
			text += "plan\nsettle\nplan\n"
			want += "\n" + fmt.Sprintln(i+1, top(1)) + "\n"
		}
	}
	whole(t, text+"barrier\n", want+"error 2\n")
}

// TestReadIsADeed: of the script, as all others are.
func TestReadIsADeed(t *testing.T) {
	asks(t, "new 1\n"+strings.Repeat("read 0\n", api.MaxScript-1), "read 0", noughts)
	asks(t, "new 1\n"+strings.Repeat("read 0\n", api.MaxScript), "read 0", "error 2")
}

// TestSessionsKeepNothing: what another session said, or says at the same time, is not seen.
func TestSessionsKeepNothing(t *testing.T) {
	whole(t, "new 2\nbarrier\n", "ok\n1\n")
	whole(t, "barrier\n", "error 5\n")
	d := die(302)
	var running sync.WaitGroup
	for range 16 {
		text := "new 4\n"
		for range 25 {
			text += someLine(&d, 4, 10) + "\n"
		}
		want := wanted(text)
		for range 3 {
			running.Go(func() {
				if got := console.Session(text); got != want {
					t.Errorf("Z2: %q: %q; wanted is %q", text, got, want)
				}
			})
		}
	}
	running.Wait()
}
