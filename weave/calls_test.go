package weave_test

import (
	"fmt"
	"math"
	"slices"
	"strings"
	"sync"
	"testing"

	"weave/weave"
)

// strangeTexts are wrong wherever a program, a row or an end is asked for, or
// right only in some of these places.
func strangeTexts() []string {
	return []string{
		"", "|", "||", "|||", ";", "0", "012", "E:000", "j1", "j9", "lm|lm", "za2;wxa;j0",
		"=a1|wxa;ray|lm;un", "\x00", "\xff\xfe", "é", "=a\xc3", "０", strings.Repeat("0", 25),
		strings.Repeat("j0;", 8), strings.Repeat("|", 150), strings.Repeat("|", 151), strings.Repeat("0", 1<<20),
	}
}

func strangeNumbers() []int {
	return []int{math.MinInt, -256, -1, 0, 1, 8, 9, 255, 256, 264, math.MaxInt}
}

// answers writes down what every call answers to these arguments.
func answers(program string, fuel int, text string) string {
	checkErrno, checkPlace := weave.Check(program)
	playEnd, playErrno, playPlace := weave.Play(program, fuel, text)
	allEnds, endsErrno, endsPlace := weave.Ends(program, fuel)
	row, showErrno, showPlace := weave.Show(program, fuel, text)
	count, classesErrno, classesPlace := weave.Classes(program, fuel)
	return fmt.Sprintf("%d %d, %q %d %d, %q %d %d, %q %d %d, %d %d %d",
		checkErrno, checkPlace, playEnd, playErrno, playPlace, allEnds, endsErrno, endsPlace,
		row, showErrno, showPlace, count, classesErrno, classesPlace)
}

func forAllStrange(do func(program string, fuel int, text string)) {
	for _, program := range strangeTexts() {
		for _, fuel := range strangeNumbers() {
			for _, text := range strangeTexts() {
				do(program, fuel, text)
			}
		}
	}
}

// TestP1NothingPanics: a panic of any call ends the test.
func TestP1NothingPanics(t *testing.T) {
	forAllStrange(func(program string, fuel int, text string) {
		answers(program, fuel, text)
	})
}

// TestP1BesideErrors: which places may stand beside which errors, and that
// nothing else stands beside one.
func TestP1BesideErrors(t *testing.T) {
	forAllStrange(func(program string, fuel int, row string) {
		errno, place := weave.Check(program)
		if place < 0 || place > len(program) || place != 0 && errno != weave.ErrText && errno != weave.ErrJump {
			t.Errorf("Check(%.80q) = %d %d", program, errno, place)
		}
		end, playErrno, playPlace := weave.Play(program, fuel, row)
		if (end == "") != (playErrno != weave.OK) {
			t.Errorf("Play(%.80q, %d, %.80q) = %q %d %d", program, fuel, row, end, playErrno, playPlace)
		}
		if errno != weave.OK && (playErrno != errno || playPlace != place) {
			t.Errorf("Play(%.80q, %d, %.80q) = %q %d %d, Check = %d %d", program, fuel, row, end, playErrno, playPlace, errno, place)
		}
		if errno == weave.OK && playErrno != weave.ErrTurn && playPlace != 0 {
			t.Errorf("Play(%.80q, %d, %.80q) = %q %d %d", program, fuel, row, end, playErrno, playPlace)
		}
		expectBesideSearch(t, program, fuel, row)
	})
}

// expectBesideSearch asks of Ends, Show and Classes that they answer an error of
// Check as Check does, no place beside another one, and nothing else beside any.
func expectBesideSearch(t *testing.T, program string, fuel int, end string) {
	t.Helper()
	errno, place := weave.Check(program)
	all, endsErrno, endsPlace := weave.Ends(program, fuel)
	if (len(all) == 0) != (endsErrno != weave.OK) || endsPlace != place || errno != weave.OK && endsErrno != errno {
		t.Errorf("Ends(%.80q, %d) = %q %d %d, Check = %d %d", program, fuel, all, endsErrno, endsPlace, errno, place)
	}
	row, showErrno, showPlace := weave.Show(program, fuel, end)
	if showErrno != weave.OK && row != "" || showPlace != place || endsErrno != weave.OK && showErrno != endsErrno {
		t.Errorf("Show(%.80q, %d, %.80q) = %q %d %d, Ends = %d", program, fuel, end, row, showErrno, showPlace, endsErrno)
	}
	if isEnd := slices.Contains(all, end); endsErrno == weave.OK && isEnd != (showErrno == weave.OK) {
		t.Errorf("Show(%.80q, %d, %.80q) = %q %d %d, Ends = %q", program, fuel, end, row, showErrno, showPlace, all)
	}
	count, classesErrno, classesPlace := weave.Classes(program, fuel)
	if (count <= 0) != (classesErrno != weave.OK) || count < 0 || classesPlace != place || errno != weave.OK && classesErrno != errno {
		t.Errorf("Classes(%.80q, %d) = %d %d %d, Check = %d %d", program, fuel, count, classesErrno, classesPlace, errno, place)
	}
	if (classesErrno == weave.ErrFuel) != (endsErrno == weave.ErrFuel) {
		t.Errorf("Classes(%.80q, %d) = %d %d %d, Ends = %d", program, fuel, count, classesErrno, classesPlace, endsErrno)
	}
}

// TestP2SameAnswers asks again, from many goroutines at once.
func TestP2SameAnswers(t *testing.T) {
	cases := []struct {
		program string
		fuel    int
		row     string
	}{
		{"=a1;wxa|rax;wya", 8, "0011"},
		{"=a1;wxa|rax;wya", 8, "1100"},
		{"lm|lm", 8, "01"},
		{"lm|lm", 8, ""},
		{"um|!a|j0", 2, "0122"},
		{"=a1;wxa|rax;wya", 8, "EE:100"},
		{"lm;um|lm;um|lm", 8, "EEE:000"},
		{"lm;ln|ln;lm", 8, "B1B1:000"},
		{"wxa;wxa|rax;rbx|wxa;wya", 8, "001122"},
		{"wxa;wxa;wxa;wxa|wxa;wxa;wxa;wxa|wxa", 8, "EEE:000"},
		{"j9", 8, ""},
		{"lm;", 8, ""},
		{"lm", 9, ""},
	}
	first := make([]string, len(cases))
	for i, c := range cases {
		first[i] = answers(c.program, c.fuel, c.row)
	}
	var all sync.WaitGroup
	for range 16 {
		all.Add(1)
		go func() {
			defer all.Done()
			for range 20 {
				for i, c := range cases {
					if again := answers(c.program, c.fuel, c.row); again != first[i] {
						t.Errorf("%q, %d, %q: %s, and then %s", c.program, c.fuel, c.row, first[i], again)
					}
				}
			}
		}()
	}
	all.Wait()
}

// FuzzCalls: `go test` runs the seeds; `go test -fuzz=FuzzCalls ./weave` looks
// further.
func FuzzCalls(f *testing.F) {
	f.Add("=a1;wxa|rax;wya", 8, "0011")
	f.Add("za2;wxa;j0", 5, "00000")
	f.Add("lm;ln|ln;um", 3, "01")
	f.Add("j9;", -1, "\x00")
	f.Fuzz(func(t *testing.T, program string, fuel int, row string) {
		expectAsPattern(t, program)
		end, errno, _ := weave.Play(program, fuel, row)
		if (end == "") != (errno != weave.OK) {
			t.Errorf("Play(%q, %d, %q) = %q %d", program, fuel, row, end, errno)
		}
		expectBesideSearch(t, program, fuel, end)
		all, errno, _ := weave.Ends(program, fuel)
		for _, end := range all {
			expectShown(t, program, fuel, end)
		}
		if errno == weave.OK {
			_, want := explore(program, fuel, mostStates)
			expectEnds(t, program, fuel, want...)
			if counted := classesByPasts(program, fuel, 5000); counted >= 0 {
				expectAsCounted(t, program, fuel, counted)
			}
		}
	})
}
