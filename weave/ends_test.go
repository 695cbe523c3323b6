package weave_test

import (
	"math"
	"runtime"
	"slices"
	"strings"
	"testing"

	"weave/weave"
)

const mostStates = 20000

// Of these the states were counted by the oracle, and are counted again below.
func exactlyMostStates() []string {
	return []string{
		"rbz;wxa;raz;wza;rbz;zb4;rbz;-bb|=a8;wza;raz;wxa;raz;wza;wza;wyb|wzb;raz;rbx;=c4;wzb;rbx;wxa;=b3",
		"ray;wyb;+ba;rax;wza;wxb;rbx;zb1|ray;rby;wzb;ray;wxb;wza;wxb;rax|=b5;wyb;ray;wxb;raz;+ba;ray;-aa",
		"ray;rby;wyb;+ba;wzb;+ba;wyb;j0|=b9;wyb;wyb;zb3;wxb;ray;rby;lm|wya;rby;zb1;wya;ln;rby;za2;wza",
	}
}

func oneStateMore() []string {
	return []string{
		"ray;rby;wyb;-ab;zb1;-ab;wyb;wya|wya;ray;wxa;rby;+ba;-ab;ray;wza|=a5;wya;rby;wxa;wyb;wza;=d2;+ba",
		"rbx;+bb;lm;wxb;wxa;zb0;rby;wyb|rax;wzb;rbx;za0;+ba;raz;=a8|=a3;wxa;rbx;zb0;rbx;wya;+ab;wza",
	}
}

// farTooMany has some hundred thousand states.
const farTooMany = "=a1;wxa;rbx;+ab;wya;rcy;+ac;wza|=a2;wxa;rbx;+ab;wya;rcy;+ac;wza|=a3;wxa;rbx;+ab;wya;rcy;+ac;wza"

func expectEnds(t *testing.T, program string, fuel int, want ...string) {
	t.Helper()
	got, errno, place := weave.Ends(program, fuel)
	if !slices.Equal(got, want) || errno != weave.OK || place != 0 {
		t.Errorf("Ends(%q, %d) = %q %d %d, want %q", program, fuel, got, errno, place, want)
	}
}

// expectRefusal asks that Ends and Show answer the same error, and nothing
// beside it.
func expectRefusal(t *testing.T, program string, fuel int, wantErrno weave.Errno, wantPlace int) {
	t.Helper()
	all, errno, place := weave.Ends(program, fuel)
	if len(all) != 0 || errno != wantErrno || place != wantPlace {
		t.Errorf("Ends(%.160q, %d) = %q %d %d, want none %d %d", program, fuel, all, errno, place, wantErrno, wantPlace)
	}
	for _, end := range []string{"", "EEE:000", "?" + strings.Repeat("E", 1<<16)} {
		row, errno, place := weave.Show(program, fuel, end)
		if row != "" || errno != wantErrno || place != wantPlace {
			t.Errorf("Show(%.160q, %d, %.80q) = %q %d %d, want none %d %d", program, fuel, end, row, errno, place, wantErrno, wantPlace)
		}
	}
}

// expectShown asks that Show's row is one that Play takes, and leads there.
func expectShown(t *testing.T, program string, fuel int, end string) {
	t.Helper()
	row, errno, place := weave.Show(program, fuel, end)
	if errno != weave.OK || place != 0 {
		t.Errorf("Show(%q, %d, %q) = %q %d %d", program, fuel, end, row, errno, place)
	}
	played, playErrno, playPlace := weave.Play(program, fuel, row)
	if played != end || playErrno != weave.OK || playPlace != 0 {
		t.Errorf("Show(%q, %d, %q) = %q, which leads to %q %d %d", program, fuel, end, row, played, playErrno, playPlace)
	}
}

func expectNone(t *testing.T, program string, fuel int, end string) {
	t.Helper()
	row, errno, place := weave.Show(program, fuel, end)
	if row != "" || errno != weave.ErrNone || place != 0 {
		t.Errorf("Show(%q, %d, %.80q) = %q %d %d, want ErrNone", program, fuel, end, row, errno, place)
	}
}

func TestP5OneThread(t *testing.T) {
	expectEnds(t, "", 8, "E:000")
	expectEnds(t, "=a7;wya", 8, "E:070")
	expectEnds(t, "=a7;wya", 1, "O1:000")
	expectEnds(t, "=a7;um", 8, "F1:000")
	expectEnds(t, "=a7;!b", 8, "W1:000")
	expectEnds(t, "ln;ln", 8, "B1:000")
	expectEnds(t, "wxa;j0", 8, "O0:000")
	expectEnds(t, "=a1;j0", 7, "O1:000")
	expectEnds(t, "j1", 8, "E:000")
}

func TestP5NoTurnAtAll(t *testing.T) {
	expectEnds(t, "||", 8, "EEE:000")
	expectEnds(t, "||", 0, "EEE:000")
	expectEnds(t, "=a1||lm", 0, "O0EO0:000")
}

// TestP5FirstTurns: only the last thread may make the first turn, only one of
// several, and each of them decides by going first.
func TestP5FirstTurns(t *testing.T) {
	expectEnds(t, "||=a1;wza", 8, "EEE:001")
	expectEnds(t, "|lm|lm", 8, "EB0E:000", "EEB0:000")
	expectEnds(t, "lm|lm|lm", 8, "B0B0E:000", "B0EB0:000", "EB0B0:000")
	expectEnds(t, "=a1;wxa|rax;wya", 8, "EE:100", "EE:110")
	expectEnds(t, "rax;wya|=a1;wxa", 8, "EE:100", "EE:110")
}

func TestP5EveryLetter(t *testing.T) {
	expectEnds(t, "lm;um|um", 8, "EF0:000")
	expectEnds(t, "rax;!a;wya|=a1;wxa", 8, "EE:110", "W1E:100")
	expectEnds(t, "lm;ln|ln;lm", 8, "B0E:000", "B1B1:000", "EB0:000")
	expectEnds(t, "lm;=a1|lm", 1, "B0E:000", "O1B0:000")
	expectEnds(t, "rax;za0|=a1;wxa", 6, "EE:100", "O0E:100")
}

// TestP5EachOnce: many states, which differ in numbers and fuel alone, are one
// way to end.
func TestP5EachOnce(t *testing.T) {
	expectEnds(t, "rax;rbx;rcx|=a1;wxa;=a2;wxa;=a3;wxa", 8, "EE:300")
	expectEnds(t, "rax;za3;j3|=a1;wxa", 8, "EE:100")
}

// TestP5Rising: by the texts, in which a digit goes ahead of a letter, and the
// letters as they do in the alphabet.
func TestP5Rising(t *testing.T) {
	expectEnds(t, "rax;!a;rax;-ab;um|=b1;wxb", 8, "F4E:100", "W1E:100")
	expectEnds(t, "lm;=a9;wxa;um|lm;=a5;wxa;um|lm;rax;wya", 8,
		"B0B0E:000", "B0EE:550", "EB0E:990", "EEE:550", "EEE:990")
	for _, program := range somePrograms(200) {
		all, _, _ := weave.Ends(program, 5)
		for at := 1; at < len(all); at++ {
			if all[at-1] >= all[at] {
				t.Errorf("Ends(%q, 5) = %q", program, all)
			}
		}
	}
}

// TestP5AsOracle holds Ends against another search, written apart from it.
func TestP5AsOracle(t *testing.T) {
	several := 0
	for at, program := range somePrograms(1000) {
		fuel := 8 - at%4
		count, want := explore(program, fuel, mostStates)
		if count > mostStates {
			expectRefusal(t, program, fuel, weave.ErrMany, 0)
			continue
		}
		expectEnds(t, program, fuel, want...)
		if len(want) > 1 {
			several++
		}
	}
	if several < 200 {
		t.Errorf("only %d of the programs have several ways to end: too few to tell much", several)
	}
}

// TestP5AsRows: all ways to end of which Play tells by some row, and no more.
func TestP5AsRows(t *testing.T) {
	for _, program := range []string{
		"=a1;wxa|rax;wya|", "lm;ln|ln;lm", "rax;!a|=a1;wxa", "um|lm;um|=a1", "za0|=a1", "rax;=b1;+ab;wxa|rax;=b1;+ab;wxa",
	} {
		for fuel := 0; fuel <= 4; fuel++ {
			found := map[string]int{}
			walk(t, program, fuel, "", found)
			var want []string
			for end := range found {
				want = append(want, end)
			}
			slices.Sort(want)
			expectEnds(t, program, fuel, want...)
		}
	}
}

func TestP5MaxStates(t *testing.T) {
	for _, program := range exactlyMostStates() {
		count, want := explore(program, 8, mostStates)
		if count != mostStates {
			t.Fatalf("%q has %d states: this test needs %d", program, count, mostStates)
		}
		expectEnds(t, program, 8, want...)
		for _, end := range want {
			expectShown(t, program, 8, end)
		}
	}
	for _, program := range oneStateMore() {
		count, _ := explore(program, 8, 2*mostStates)
		if count != mostStates+1 {
			t.Fatalf("%q has %d states: this test needs %d", program, count, mostStates+1)
		}
		expectRefusal(t, program, 8, weave.ErrMany, 0)
	}
	expectRefusal(t, farTooMany, 8, weave.ErrMany, 0)
}

func TestP5FuelThatMayNotBe(t *testing.T) {
	for _, fuel := range []int{-1, 9, 256, 264, math.MinInt, math.MaxInt, math.MinInt32, math.MaxInt32} {
		expectRefusal(t, "=a1", fuel, weave.ErrFuel, 0)
	}
	for fuel := 1; fuel <= 8; fuel++ {
		expectEnds(t, "=a1", fuel, "E:000")
	}
}

// TestP5WhichErrorFirst: Check's errors, ErrFuel, ErrMany; behind them, with
// Show, ErrNone.
func TestP5WhichErrorFirst(t *testing.T) {
	expectRefusal(t, strings.Repeat("j9;", 51), -1, weave.ErrLong, 0)
	expectRefusal(t, "j9;?", -1, weave.ErrText, 3)
	expectRefusal(t, "=a1;j3", 9, weave.ErrJump, 5)
	expectRefusal(t, "=a1;j3", 8, weave.ErrJump, 5)
	expectRefusal(t, farTooMany+";", 9, weave.ErrText, 95)
	expectRefusal(t, farTooMany, 9, weave.ErrFuel, 0)
	expectRefusal(t, farTooMany, -1, weave.ErrFuel, 0)
	expectRefusal(t, farTooMany, 8, weave.ErrMany, 0)
}

func TestP6Rows(t *testing.T) {
	for at, program := range somePrograms(400) {
		fuel := at % 9
		all, errno, _ := weave.Ends(program, fuel)
		if errno == weave.ErrMany {
			continue
		}
		for _, end := range all {
			expectShown(t, program, fuel, end)
		}
		expectNone(t, program, fuel, "E:777")
	}
}

// TestP6OnlyRow: where one row alone leads to an end, that is the answer.
func TestP6OnlyRow(t *testing.T) {
	for _, c := range []struct {
		program string
		fuel    int
		end     string
		row     string
	}{
		{"", 8, "E:000", ""},
		{"||", 0, "EEE:000", ""},
		{"=a1", 0, "O0:000", ""},
		{"=a1;wxa", 8, "E:100", "00"},
		{"=a1;wxa|rax;wya", 8, "EE:110", "0011"},
		{"rax;wya|=a1;wxa", 8, "EE:110", "1100"},
		{"lm|lm|lm", 8, "B0EB0:000", "1"},
		{"lm;ln|ln;lm", 8, "B0E:000", "11"},
		{"||j0", 8, "EEO0:000", "22222222"},
		{"|rax;wza|=a4;wxa", 8, "EEE:404", "2211"},
	} {
		row, errno, place := weave.Show(c.program, c.fuel, c.end)
		if row != c.row || errno != weave.OK || place != 0 {
			t.Errorf("Show(%q, %d, %q) = %q %d %d, want %q", c.program, c.fuel, c.end, row, errno, place, c.row)
		}
	}
}

// TestP6NoSuchEnd: texts that are no way to end, ways to end of other programs
// or with other fuel, and what is one but for a sign.
func TestP6NoSuchEnd(t *testing.T) {
	for _, end := range []string{
		"", " ", ":", "E", "E:", "E:000", "EE:000", "EE:010", "EEE:100", "EE:1000", "EE:10", "EE:100 ", " EE:100",
		"ee:100", "EE:11\x00", "EE:100\x00", "\xff", "EE：100", "O2E:100", "B0E:100", "E2E2:100", "E E:100", "EE:100EE:110",
		"0011", strings.Repeat("EE:100", 1<<18),
	} {
		expectNone(t, "=a1;wxa|rax;wya", 8, end)
	}
	expectShown(t, "=a1;wxa|rax;wya", 8, "EE:100")
	expectShown(t, "=a1;wxa|rax;wya", 1, "O1O1:000")
	expectNone(t, "=a1;wxa|rax;wya", 1, "EE:100")
	expectNone(t, "=a1;wxa|rax;wya", 8, "O1O1:000")
	expectNone(t, "=a1", 0, "")
}

// TestP2ListIsTheCallers writes into a list and behind it, and asks again.
func TestP2ListIsTheCallers(t *testing.T) {
	const program = "=a1;wxa|=a2;wxa|=a3;wxa"
	want := []string{"EEE:100", "EEE:200", "EEE:300"}
	first, _, _ := weave.Ends(program, 8)
	second, _, _ := weave.Ends(program, 8)
	for at := range first {
		first[at] = "?"
	}
	_ = append(first[:0], "!", "!", "!", "!")
	if !slices.Equal(second, want) {
		t.Errorf("to write into one answer made another one %q", second)
	}
	expectEnds(t, program, 8, want...)
}

// TestP2HoweverGoroutinesRun asks on one processor, and on more of them.
func TestP2HoweverGoroutinesRun(t *testing.T) {
	const program = "rax;=b1;+ab;wxa|rax;=b2;+ab;wxa|rax;wya;lm"
	all, _, _ := weave.Ends(program, 8)
	first := map[string]string{}
	for _, end := range all {
		first[end], _, _ = weave.Show(program, 8, end)
	}
	defer runtime.GOMAXPROCS(runtime.GOMAXPROCS(0))
	for _, processors := range []int{1, 2, 3, 8} {
		runtime.GOMAXPROCS(processors)
		for range 5 {
			expectEnds(t, program, 8, all...)
			for _, end := range all {
				if row, _, _ := weave.Show(program, 8, end); row != first[end] {
					t.Errorf("Show(%q, 8, %q) = %q, and then %q", program, end, first[end], row)
				}
			}
		}
	}
}

// TestP2NoGoroutineStays: what a call began has ended when it answers. (One
// that has told that it is done may need a moment to be gone.)
func TestP2NoGoroutineStays(t *testing.T) {
	before := runtime.NumGoroutine()
	for range 5 {
		weave.Ends(farTooMany, 8)
		weave.Ends("lm;um|lm;um|lm;um", 8)
		weave.Show("lm;um|lm;um|lm;um", 8, "?")
	}
	for range 1 << 20 {
		if runtime.NumGoroutine() <= before {
			return
		}
		runtime.Gosched()
	}
	t.Errorf("there were %d goroutines, and there are %d", before, runtime.NumGoroutine())
}
