package weave_test

import (
	"regexp"
	"sort"
	"strings"
	"testing"

	"weave/weave"
)

type checkCase struct {
	program string
	errno   weave.Errno
	place   int
}

func runCheck(t *testing.T, cases []checkCase) {
	t.Helper()
	for _, c := range cases {
		errno, place := weave.Check(c.program)
		if errno != c.errno || place != c.place {
			t.Errorf("Check(%.160q) = %d %d, want %d %d", c.program, errno, place, c.errno, c.place)
		}
	}
}

// steps is a thread of so many steps.
func steps(count int) string {
	return strings.TrimSuffix(strings.Repeat("=a1;", count), ";")
}

func TestErrnoValues(t *testing.T) {
	for want, errno := range []weave.Errno{
		weave.OK, weave.ErrLong, weave.ErrText, weave.ErrJump, weave.ErrFuel,
		weave.ErrMany, weave.ErrTurn, weave.ErrEarly, weave.ErrNone,
	} {
		if int(errno) != want {
			t.Errorf("the Errno at place %d of the document's list is %d", want, int(errno))
		}
	}
}

func TestP3Programs(t *testing.T) {
	runCheck(t, []checkCase{
		{"", weave.OK, 0},
		{"|", weave.OK, 0},
		{"||", weave.OK, 0},
		{"=a0;=b1;=c8;=d9", weave.OK, 0},
		{"+ad;-da;+bb;-cc", weave.OK, 0},
		{"rax;rby;rcz;rdx", weave.OK, 0},
		{"wxa;wyb;wzc;wxd", weave.OK, 0},
		{"lm;un|ln;um", weave.OK, 0},
		{"za0;zb1;zc2;zd3|j0|!a;!b;!c;!d", weave.OK, 0},
		{"|lm|", weave.OK, 0},
		{steps(8) + "|" + steps(8) + "|" + steps(8), weave.OK, 0},
	})
}

func TestP3Long(t *testing.T) {
	runCheck(t, []checkCase{
		{strings.Repeat("?", 150), weave.ErrText, 0},
		{strings.Repeat("?", 151), weave.ErrLong, 0},
		{steps(38)[:150], weave.ErrText, 31},
		{steps(38), weave.ErrLong, 0},
		{"j9" + strings.Repeat(" ", 148), weave.ErrText, 2},
		{"j9" + strings.Repeat(" ", 149), weave.ErrLong, 0},
		{strings.Repeat("é", 75), weave.ErrText, 0},
		{strings.Repeat("é", 76), weave.ErrLong, 0},
		{strings.Repeat("|", 1<<20), weave.ErrLong, 0},
	})
}

func TestP3TextPlaces(t *testing.T) {
	runCheck(t, []checkCase{
		{";", weave.ErrText, 0},
		{"lm;", weave.ErrText, 3},
		{"lm;;lm", weave.ErrText, 3},
		{"lm;|", weave.ErrText, 3},
		{"|;lm", weave.ErrText, 1},
		{"lm ", weave.ErrText, 2},
		{" lm", weave.ErrText, 0},
		{"lmm", weave.ErrText, 2},
		{"=", weave.ErrText, 1},
		{"=a", weave.ErrText, 2},
		{"=a10", weave.ErrText, 3},
		{"=aa", weave.ErrText, 2},
		{"w", weave.ErrText, 1},
		{"wx", weave.ErrText, 2},
		{"wx;", weave.ErrText, 2},
		{"lo", weave.ErrText, 1},
		{"ja", weave.ErrText, 1},
		{"j-1", weave.ErrText, 1},
		{"za", weave.ErrText, 2},
		{"!x", weave.ErrText, 1},
		{"L", weave.ErrText, 0},
		{"\x00", weave.ErrText, 0},
		{"lm\x00", weave.ErrText, 2},
		{"lm\xff", weave.ErrText, 2},
		{"l\xc3\xa9", weave.ErrText, 1},
		{"lm;é", weave.ErrText, 3},
		{"|||", weave.ErrText, 2},
		{"lm|lm|lm|lm", weave.ErrText, 8},
		{steps(9), weave.ErrText, 31},
		{steps(8) + ";", weave.ErrText, 31},
		{"|" + steps(9), weave.ErrText, 32},
		{steps(8) + "|" + steps(8) + "|" + steps(8) + "|", weave.ErrText, 95},
	})
}

func TestP3Jumps(t *testing.T) {
	runCheck(t, []checkCase{
		{"j0", weave.OK, 0},
		{"j1", weave.OK, 0},
		{"j2", weave.ErrJump, 1},
		{"za2", weave.ErrJump, 2},
		{"lm;za2", weave.OK, 0},
		{"lm;za3", weave.ErrJump, 5},
		{"lm;lm;lm|j2", weave.ErrJump, 10},
		{"j2|lm;lm", weave.ErrJump, 1},
		{"=a9", weave.OK, 0},
		{"j8;" + steps(7), weave.OK, 0},
		{"j9;" + steps(7), weave.ErrJump, 1},
		{"lm;j8;za9", weave.ErrJump, 4},
		{"j1|za7|j9", weave.ErrJump, 5},
	})
}

// TestP3TextAheadOfJump: ErrText is named ahead of ErrJump, wherever it is.
func TestP3TextAheadOfJump(t *testing.T) {
	runCheck(t, []checkCase{
		{"j9;", weave.ErrText, 3},
		{"j9;q", weave.ErrText, 3},
		{"j9|lm|?", weave.ErrText, 6},
		{"j9|||", weave.ErrText, 4},
	})
}

const stepPattern = `(?:[=z][a-d][0-9]|[-+][a-d][a-d]|r[a-d][x-z]|w[x-z][a-d]|[lu][mn]|j[0-9]|![a-d])`
const threadPattern = `(?:` + stepPattern + `(?:;` + stepPattern + `){0,7})?`

// programPattern is the document's program, but for where z and j go.
var programPattern = regexp.MustCompile(`^` + threadPattern + `(?:\|` + threadPattern + `){0,2}$`)

// canBecomeProgram asks by the document's words, without a scanner: some text
// behind this one makes it a program. What ends a step or begins one is enough
// to try.
func canBecomeProgram(text string) bool {
	for _, behind := range []string{"", "a", "x", "m", "0", "a0", "aa", "ax", "xa", "lm"} {
		if programPattern.MatchString(text + behind) {
			return true
		}
	}
	return false
}

// expectCheck is P3 by patterns.
func expectCheck(text string) (weave.Errno, int) {
	if len(text) > 150 {
		return weave.ErrLong, 0
	}
	if !programPattern.MatchString(text) {
		place := sort.Search(len(text), func(place int) bool { return !canBecomeProgram(text[:place+1]) })
		return weave.ErrText, place
	}
	place := 0
	for _, thread := range strings.Split(text, "|") {
		all := strings.Split(thread, ";")
		for _, step := range all {
			digit := place + len(step) - 1
			if step != "" && strings.Contains("zj", step[:1]) && int(text[digit]-'0') > len(all) {
				return weave.ErrJump, digit
			}
			place += len(step) + 1
		}
	}
	return weave.OK, 0
}

func expectAsPattern(t *testing.T, text string) {
	t.Helper()
	wantErrno, wantPlace := expectCheck(text)
	errno, place := weave.Check(text)
	if errno != wantErrno || place != wantPlace {
		t.Errorf("Check(%q) = %d %d, want %d %d", text, errno, place, wantErrno, wantPlace)
	}
}

// TestP3ShortTexts goes over all texts of up to four of the signs that mean
// something, and one that does not.
func TestP3ShortTexts(t *testing.T) {
	signs := "=+-rwluzj!adxymn019|;?"
	texts := []string{""}
	for length := 0; length <= 4; length++ {
		var longer []string
		for _, text := range texts {
			expectAsPattern(t, text)
			if length == 4 {
				continue
			}
			for _, sign := range signs {
				longer = append(longer, text+string(sign))
			}
		}
		texts = longer
	}
}

// TestP3ChangedPrograms puts every byte at every place of some programs, in
// the stead of what is there and ahead of it, and cuts them everywhere.
func TestP3ChangedPrograms(t *testing.T) {
	for _, program := range []string{
		"=a1;+bc|rdx;wya;lm|un;zb2;!d;j0",
		steps(8) + "|j8;" + steps(7) + "|" + steps(8),
		"||za1;j2",
	} {
		for place := 0; place <= len(program); place++ {
			expectAsPattern(t, program[:place])
			expectAsPattern(t, program[place:])
			for value := 0; value < 256; value++ {
				sign := string([]byte{byte(value)})
				expectAsPattern(t, program[:place]+sign+program[place:])
				if place < len(program) {
					expectAsPattern(t, program[:place]+sign+program[place+1:])
				}
			}
		}
	}
}
