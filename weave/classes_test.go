package weave_test

import (
	"fmt"
	"math"
	"strings"
	"testing"

	"weave/weave"
)

const mostClasses = 300

func expectClasses(t *testing.T, program string, fuel, want int) {
	t.Helper()
	got, errno, place := weave.Classes(program, fuel)
	if got != want || errno != weave.OK || place != 0 {
		t.Errorf("Classes(%q, %d) = %d %d %d, want %d", program, fuel, got, errno, place, want)
	}
}

func expectNoClasses(t *testing.T, program string, fuel int, wantErrno weave.Errno, wantPlace int) {
	t.Helper()
	got, errno, place := weave.Classes(program, fuel)
	if got != 0 || errno != wantErrno || place != wantPlace {
		t.Errorf("Classes(%.160q, %d) = %d %d %d, want 0 %d %d", program, fuel, got, errno, place, wantErrno, wantPlace)
	}
}

// expectAsCounted asks for what an oracle counted, however many.
func expectAsCounted(t *testing.T, program string, fuel, counted int) {
	t.Helper()
	if counted > mostClasses {
		expectNoClasses(t, program, fuel, weave.ErrMany, 0)
		return
	}
	expectClasses(t, program, fuel, counted)
}

// TestP7OneRun: where there is one row of turns alone, be it the empty one,
// there is one class.
func TestP7OneRun(t *testing.T) {
	for _, program := range []string{"", "|", "||", "=a1", "lm;lm", "um", "!a", "j0", "||=a1;wxa", "|lm;um|"} {
		for fuel := 0; fuel <= 8; fuel++ {
			expectClasses(t, program, fuel, 1)
		}
	}
	expectClasses(t, "wxa|wxa|wxa", 0, 1)
	expectClasses(t, "lm|lm|lm", 0, 1)
}

// everyStep is every text of a step of a thread that has no other.
func everyStep() []string {
	all := []string{"lm", "ln", "um", "un", "j0", "j1"}
	for _, number := range strings.Split("abcd", "") {
		all = append(all, "!"+number, "z"+number+"0", "z"+number+"1")
		for _, cell := range strings.Split("xyz", "") {
			all = append(all, "r"+number+cell, "w"+cell+number)
		}
		for _, other := range strings.Split("abcd", "") {
			all = append(all, "+"+number+other, "-"+number+other)
		}
		for digit := range 10 {
			all = append(all, fmt.Sprint("=", number, digit))
		}
	}
	return all
}

// TestP7TwoSteps: of any two steps of two threads, the order makes two classes
// if they have to do with one another, and one if not.
func TestP7TwoSteps(t *testing.T) {
	for _, one := range everyStep() {
		for _, other := range everyStep() {
			want := 1
			if related(oracleTurn{0, one}, oracleTurn{1, other}) {
				want = 2
			}
			expectClasses(t, one+"|"+other, 8, want)
			expectClasses(t, "|"+one+"|"+other, 1, want)
		}
	}
}

// TestP7WhatHasToDo says the edges of the table above by hand.
func TestP7WhatHasToDo(t *testing.T) {
	expectClasses(t, "wxa|wxa", 8, 2)
	expectClasses(t, "wxa|rbx", 8, 2)
	expectClasses(t, "rbx|wxa", 8, 2)
	expectClasses(t, "rax|rax", 8, 1)
	expectClasses(t, "wxa|wya", 8, 1)
	expectClasses(t, "wxa|raz", 8, 1)
	expectClasses(t, "lm|lm", 8, 2)
	expectClasses(t, "lm|um", 8, 2)
	expectClasses(t, "um|um", 8, 2)
	expectClasses(t, "lm|ln", 8, 1)
	expectClasses(t, "um|un", 8, 1)
	expectClasses(t, "wxa|lm", 8, 1)
	expectClasses(t, "=a1|=a1", 8, 1)
	expectClasses(t, "!a|!a", 8, 1)
}

// TestP7ThreeThreads: turns of a third thread stand between two that have to
// do with one another, or with both of which it has to do.
func TestP7ThreeThreads(t *testing.T) {
	expectClasses(t, "=a1|=b1|=c1", 8, 1)
	expectClasses(t, "wxa|=b1|wxa", 8, 2)
	expectClasses(t, "wxa|rax|=b1", 8, 2)
	expectClasses(t, "rax|wxa|rax", 8, 4)
	expectClasses(t, "wxa|rax;wya|ray", 8, 4)
	expectClasses(t, "wxa|rax;ray|wya", 8, 4)
	expectClasses(t, "wxa|wxa|wxa", 8, 6)
	expectClasses(t, "lm;um|lm;um|lm;um", 8, 6)
	expectClasses(t, "wxa;rax|ray;wya|lm;um", 8, 1)
	expectClasses(t, "=a1;=a1;=a1;=a1;=a1;=a1;=a1;=a1|j0|za0", 8, 1)
}

// TestP7HowThreadsStop: runs that end early, by what a thread read or by a lock
// that it waits for or does not have.
func TestP7HowThreadsStop(t *testing.T) {
	expectClasses(t, "lm;ln;um;un|ln;lm;un;um", 8, 3)
	expectClasses(t, "lm|lm|lm", 8, 3)
	expectClasses(t, "lm|lm|um", 8, 4)
	expectClasses(t, "um|lm;um", 8, 3)
	expectClasses(t, "um;wxa|wxa", 8, 1)
	expectClasses(t, "!a;wxa|wxa", 8, 1)
	expectClasses(t, "rax;!a;wya|=a1;wxa;wya", 8, 3)
	expectClasses(t, "rax;za3;wya|=a1;wxa|wya", 8, 3)
	expectClasses(t, "za2;wxa|wxa", 8, 1)
	expectClasses(t, "=a1;za3;wxa|wxa", 8, 2)
	expectClasses(t, "j2;wxa|wxa", 8, 1)
}

// TestP7SameEnds: runs that lead to the same state, but are not alike.
func TestP7SameEnds(t *testing.T) {
	expectEnds(t, "wxa;wxa|wxa;wxa", 8, "EE:000")
	expectClasses(t, "wxa;wxa|wxa;wxa", 8, 6)
	expectEnds(t, "lm;um|lm;um", 8, "EE:000")
	expectClasses(t, "lm;um|lm;um", 8, 2)
	expectClasses(t, "rax;rax|wxa;wxa", 8, 6)
}

func TestP7Fuel(t *testing.T) {
	for fuel, want := range []int{1, 6, 90, 90, 90, 90, 90, 90, 90} {
		expectClasses(t, "wxa;wxa|wxa;wxa|wxa;wxa", fuel, want)
	}
	for fuel, want := range []int{1, 1, 2, 3, 4, 5, 6, 7, 8} {
		expectClasses(t, "=b1;rax;rax;rax;rax;rax;rax;rax|=b1;wxa", fuel, want)
	}
}

// TestP7Products: the order of the turns on x and that of those on y are chosen
// each on its own, so their numbers are multiplied.
func TestP7Products(t *testing.T) {
	turns := func(on string, count int) []string { return strings.Split(strings.Repeat(on+" ", count), " ")[:count] }
	thread := func(onX, onY int) string { return strings.Join(append(turns("wxa", onX), turns("wya", onY)...), ";") }
	for first := 0; first <= 4; first++ {
		for second := 0; second <= 4; second++ {
			for onY := 0; onY <= 4; onY++ {
				program := thread(first, onY) + "|" + thread(second, 3)
				expectAsCounted(t, program, 8, choose(first+second, first)*choose(onY+3, 3))
			}
		}
	}
}

func choose(all, some int) int {
	ways := 1
	for at := 1; at <= some; at++ {
		ways = ways * (all - some + at) / at
	}
	return ways
}

// exactlyMostClasses: 3 turns among 6 on x, 2 among 6 on y: 20*15.
const exactlyMostClasses = "wxa;wxa;wxa;wya;wya|wxa;wxa;wxa;wya;wya;wya;wya"

// oneClassMore: as many, if the first thread reads x behind the third one's
// turn, and if not, it ends at once.
const oneClassMore = "rax;za7;wya;wya;wya;wza;wza|wya;wya;wya;wza;wza;wza;wza|=a1;wxa"

func TestP7MaxClasses(t *testing.T) {
	if counted := classesByPasts(oneClassMore, 8, math.MaxInt); counted != mostClasses+1 {
		t.Fatalf("%q has %d classes: this test needs %d", oneClassMore, counted, mostClasses+1)
	}
	expectClasses(t, exactlyMostClasses, 8, mostClasses)
	expectNoClasses(t, oneClassMore, 8, weave.ErrMany, 0)
	expectNoClasses(t, exactlyMostClasses+"|wza;lm;rbx", 8, weave.ErrMany, 0)
	expectNoClasses(t, farTooMany, 8, weave.ErrMany, 0)
	expectNoClasses(t, "lm;um;lm;um;lm;um;lm;um|lm;um;lm;um;lm;um;lm;um|lm;um;lm;um;lm;um;lm;um", 8, weave.ErrMany, 0)
}

// TestP7ManyRunsFewClasses: billions of runs, and those few classes that the
// turns on one cell make, ahead of the others or behind them.
func TestP7ManyRunsFewClasses(t *testing.T) {
	const alone = "=a1;=a2;=a3;=a4;=a5;=a6"
	expectClasses(t, alone+"|"+alone+"|"+alone, 8, 1)
	expectClasses(t, alone+";wxa;wxa|"+alone+";wxa;wxa|"+alone+";wxa;wxa", 8, 90)
	expectClasses(t, "wxa;wxa;"+alone+"|wxa;wxa;"+alone+"|wxa;wxa;"+alone, 8, 90)
	expectClasses(t, "wxa;"+alone+";wya|wxa;"+alone+";wya|wxa;"+alone+";wya", 8, 36)
}

// TestP7NotBoundByStates: MaxStates bounds Ends and Show alone.
func TestP7NotBoundByStates(t *testing.T) {
	const program = "=a1;rbx;rdx;wza;rbx;+aa;+aa;+aa|=a2;rdz;wxa;rbx;rcx;+aa;+aa;+aa|=a3;wza;wxa;+aa;+aa;+aa;+aa;+aa"
	expectRefusal(t, program, 8, weave.ErrMany, 0)
	expectClasses(t, program, 8, 144)
}

// TestP7AsSwaps holds Classes against the document's own words, where there are
// not too many runs for that.
func TestP7AsSwaps(t *testing.T) {
	several := 0
	for at, program := range somePrograms(800) {
		fuel := 2 + at%7
		counted := classesBySwaps(program, fuel, 3000)
		if counted < 0 {
			continue
		}
		expectAsCounted(t, program, fuel, counted)
		if counted > 1 {
			several++
		}
	}
	if several < 200 {
		t.Errorf("only %d of the programs have several classes: too few to tell much", several)
	}
}

// TestP7AsPasts holds it against another count, where there may be many runs.
func TestP7AsPasts(t *testing.T) {
	many, tooMany := 0, 0
	for at, program := range append(somePrograms(500), crowdedPrograms(300)...) {
		fuel := 8 - at%4
		counted := classesByPasts(program, fuel, 10000)
		if counted < 0 {
			continue
		}
		expectAsCounted(t, program, fuel, counted)
		if counted > mostClasses {
			tooMany++
		} else if counted > 20 {
			many++
		}
	}
	if many < 100 || tooMany < 10 {
		t.Errorf("%d of the programs have more than 20 classes, %d too many: too few to tell much", many, tooMany)
	}
}

// TestP7BesideEnds: runs that are alike lead to one state, so there cannot be
// more ways to end than classes.
func TestP7BesideEnds(t *testing.T) {
	for at, program := range somePrograms(600) {
		fuel := at % 9
		all, endsErrno, _ := weave.Ends(program, fuel)
		count, errno, _ := weave.Classes(program, fuel)
		if endsErrno == weave.OK && errno == weave.OK && len(all) > count {
			t.Errorf("%q, %d: there are %d ways to end, and %d classes", program, fuel, len(all), count)
		}
	}
}

// TestP7OrderOfThreads: which thread has which number changes no count.
func TestP7OrderOfThreads(t *testing.T) {
	for at, program := range somePrograms(600) {
		threads := strings.Split(program, "|")
		want, wantErrno, _ := weave.Classes(program, 3+at%6)
		for range threads {
			threads = append(threads[1:], threads[0])
			turned := strings.Join(threads, "|")
			if got, errno, _ := weave.Classes(turned, 3+at%6); got != want || errno != wantErrno {
				t.Errorf("Classes(%q, %d) = %d %d, and of %q %d %d", program, 3+at%6, want, wantErrno, turned, got, errno)
			}
		}
	}
}

func TestP7FuelThatMayNotBe(t *testing.T) {
	for _, fuel := range []int{-1, 9, 256, 264, math.MinInt, math.MaxInt, math.MinInt32, math.MaxInt32} {
		expectNoClasses(t, "=a1", fuel, weave.ErrFuel, 0)
		expectNoClasses(t, "", fuel, weave.ErrFuel, 0)
	}
}

// TestP7WhichErrorFirst: Check's errors with their places, ErrFuel, ErrMany.
func TestP7WhichErrorFirst(t *testing.T) {
	expectNoClasses(t, strings.Repeat("j9;", 51), -1, weave.ErrLong, 0)
	expectNoClasses(t, strings.Repeat("?", 1<<20), 8, weave.ErrLong, 0)
	expectNoClasses(t, "j9;?", -1, weave.ErrText, 3)
	expectNoClasses(t, "x", 8, weave.ErrText, 0)
	expectNoClasses(t, "=a1;", 8, weave.ErrText, 4)
	expectNoClasses(t, "=a1;j3", 9, weave.ErrJump, 5)
	expectNoClasses(t, "=a1;j3", 8, weave.ErrJump, 5)
	expectNoClasses(t, oneClassMore+";?", 9, weave.ErrText, len(oneClassMore)+1)
	expectNoClasses(t, oneClassMore, 9, weave.ErrFuel, 0)
	expectNoClasses(t, oneClassMore, -1, weave.ErrFuel, 0)
	expectNoClasses(t, oneClassMore, 8, weave.ErrMany, 0)
}
