package weave_test

import (
	"math"
	"strconv"
	"strings"
	"testing"

	"weave/weave"
)

type playCase struct {
	program string
	fuel    int
	row     string
	end     string
	errno   weave.Errno
	place   int
}

func runPlay(t *testing.T, cases []playCase) {
	t.Helper()
	for _, c := range cases {
		end, errno, place := weave.Play(c.program, c.fuel, c.row)
		if end != c.end || errno != c.errno || place != c.place {
			t.Errorf("Play(%.160q, %d, %.80q) = %q %d %d, want %q %d %d",
				c.program, c.fuel, c.row, end, errno, place, c.end, c.errno, c.place)
		}
	}
}

// ends is a case in which the row leads to an end.
func ends(program string, fuel int, row, end string) playCase {
	return playCase{program, fuel, row, end, weave.OK, 0}
}

// refuses is a case in which the answer is an error.
func refuses(program string, fuel int, row string, errno weave.Errno, place int) playCase {
	return playCase{program, fuel, row, "", errno, place}
}

func TestP4NumbersAndCells(t *testing.T) {
	runPlay(t, []playCase{
		ends("=a7;wxa", 8, "00", "E:700"),
		ends("=a0;=b9;wyb;wza", 8, "0000", "E:090"),
		ends("=a4;=b5;+ab;wxa;wyb", 8, "00000", "E:950"),
		ends("=a4;=b6;+ab;wxa;wyb", 8, "00000", "E:060"),
		ends("=a9;+aa;wxa", 8, "000", "E:800"),
		ends("=a5;=b3;-ab;wxa;wyb", 8, "00000", "E:230"),
		ends("=a3;=b5;-ab;wxa;wyb", 8, "00000", "E:850"),
		ends("=b9;-ab;wxa", 8, "000", "E:100"),
		ends("=a9;-aa;wxa", 8, "000", "E:000"),
		ends("=c3;=d4;wzc;wyd;raz;wxa", 8, "000000", "E:343"),
		ends("rax;wya", 8, "00", "E:000"),
	})
}

// TestP4OwnAndShared: numbers are a thread's own, cells are everyone's.
func TestP4OwnAndShared(t *testing.T) {
	runPlay(t, []playCase{
		ends("=a5|wxa", 8, "01", "EE:000"),
		ends("=a5;wxa|rbx;wyb|rcx;wzc", 8, "001122", "EEE:555"),
		ends("=a5;wxa|rbx;wyb|rcx;wzc", 8, "012012", "EEE:500"),
		ends("=a5;wxa|=a6;wxa", 8, "0011", "EE:600"),
		ends("=a5;wxa|=a6;wxa", 8, "0110", "EE:500"),
	})
}

func TestP4Locks(t *testing.T) {
	runPlay(t, []playCase{
		ends("lm;um;lm", 8, "000", "E:000"),
		ends("lm;lm", 8, "0", "B1:000"),
		ends("lm;ln", 8, "00", "E:000"),
		ends("lm|ln", 8, "01", "EE:000"),
		ends("lm|lm", 8, "1", "B0E:000"),
		ends("lm;ln|ln;lm", 8, "01", "B1B1:000"),
		ends("lm;ln|ln;lm", 8, "00", "EB0:000"),
		ends("lm;um|lm|", 8, "001", "EEE:000"),
		ends("lm|lm|lm", 8, "2", "B0B0E:000"),
		refuses("lm;um|lm", 8, "01", weave.ErrTurn, 1),
		refuses("lm;lm", 8, "00", weave.ErrTurn, 1),
	})
}

// TestP4LockOfOneThatStopped: who stops with a lock keeps it.
func TestP4LockOfOneThatStopped(t *testing.T) {
	runPlay(t, []playCase{
		ends("lm;un|lm", 8, "00", "F1B0:000"),
		ends("lm;!a|lm", 8, "00", "W1B0:000"),
		ends("lm;=a1|lm", 1, "0", "O1B0:000"),
	})
}

func TestP4Failed(t *testing.T) {
	runPlay(t, []playCase{
		ends("um", 8, "0", "F0:000"),
		ends("=a1;un;wxa", 8, "00", "F1:000"),
		ends("lm;un", 8, "00", "F1:000"),
		ends("lm;um;um", 8, "000", "F2:000"),
		ends("lm|um", 8, "01", "EF0:000"),
		ends("|lm|um", 8, "12", "EEF0:000"),
		ends("lm|um;lm|lm", 8, "01", "EF0B0:000"),
		ends("=a1;=a1;=a1;=a1;=a1;=a1;=a1;um", 8, "00000000", "F7:000"),
		refuses("um;=a1", 8, "00", weave.ErrTurn, 1),
	})
}

func TestP4Wrong(t *testing.T) {
	runPlay(t, []playCase{
		ends("!a", 8, "0", "W0:000"),
		ends("=a1;!a;!b;wxa", 8, "000", "W2:000"),
		ends("=d9;!d;wxd", 8, "000", "E:900"),
		refuses("!a;=a1", 8, "00", weave.ErrTurn, 1),
	})
}

func TestP4Jumps(t *testing.T) {
	runPlay(t, []playCase{
		ends("j1", 8, "0", "E:000"),
		ends("za1", 8, "0", "E:000"),
		ends("j2;!a;=a3;wxa", 8, "000", "E:300"),
		ends("za2;!b;=a3;wxa", 8, "000", "E:300"),
		ends("=a1;za4;=b2;wxb", 8, "0000", "E:200"),
		ends("=a1;za4;wxa;j4", 8, "0000", "E:100"),
		ends("j0", 3, "000", "O0:000"),
		ends("=a2;=b1;-ab;za5;j2", 8, "0000000", "E:000"),
		ends("j8;!a;!a;!a;!a;!a;!a;!a", 8, "0", "E:000"),
	})
}

func TestP4Fuel(t *testing.T) {
	runPlay(t, []playCase{
		ends("", 0, "", "E:000"),
		ends("||", 0, "", "EEE:000"),
		ends("=a1|", 0, "", "O0E:000"),
		ends("=a1;=a1", 1, "0", "O1:000"),
		ends("=a1", 1, "0", "E:000"),
		ends("um", 1, "0", "F0:000"),
		ends("!a", 1, "0", "W0:000"),
		ends("lm|lm", 0, "", "O0O0:000"),
		ends("=a1;lm|lm", 1, "01", "O1E:000"),
		ends("=a1;lm|lm", 2, "01", "B1E:000"),
		ends("j0|j0", 8, strings.Repeat("01", 8), "O0O0:000"),
		refuses("=a1;=a1", 1, "00", weave.ErrTurn, 1),
		refuses("=a1", 0, "0", weave.ErrTurn, 0),
		refuses("j0", 8, strings.Repeat("0", 7), weave.ErrEarly, 0),
		refuses("j0", 8, strings.Repeat("0", 9), weave.ErrTurn, 8),
	})
}

func TestP4FuelThatMayNotBe(t *testing.T) {
	for _, fuel := range []int{-1, 9, 256, 264, math.MinInt, math.MaxInt, math.MinInt32, math.MaxInt32} {
		runPlay(t, []playCase{refuses("=a1", fuel, "0", weave.ErrFuel, 0)})
	}
	for fuel := 1; fuel <= 8; fuel++ {
		runPlay(t, []playCase{ends("=a1", fuel, "0", "E:000")})
	}
}

func TestP4Turns(t *testing.T) {
	runPlay(t, []playCase{
		refuses("", 8, "0", weave.ErrTurn, 0),
		refuses("=a1|=a1", 8, "2", weave.ErrTurn, 0),
		refuses("=a1|=a1", 8, "02", weave.ErrTurn, 1),
		refuses("=a1|=a1|=a1", 8, "0123", weave.ErrTurn, 3),
		refuses("=a1|=a1", 8, "01 ", weave.ErrTurn, 2),
		refuses("=a1", 8, "00", weave.ErrTurn, 1),
		refuses("=a1", 8, "/", weave.ErrTurn, 0),
		refuses("=a1", 8, "\x00", weave.ErrTurn, 0),
		refuses("=a1", 8, "\xff", weave.ErrTurn, 0),
		refuses("=a1;=a1", 8, "0\xc3\xa9", weave.ErrTurn, 1),
		refuses("=a1;=a1", 8, "0\uff10", weave.ErrTurn, 1),
		refuses("=a1;=a1", 8, "0"+strings.Repeat("9", 1<<20), weave.ErrTurn, 1),
		refuses("=a1|=a1|=a1", 8, "9\x00", weave.ErrTurn, 0),
	})
}

func TestP4Early(t *testing.T) {
	runPlay(t, []playCase{
		refuses("=a1", 8, "", weave.ErrEarly, 0),
		refuses("=a1;=a1", 8, "0", weave.ErrEarly, 0),
		refuses("=a1||=a1", 8, "0", weave.ErrEarly, 0),
		refuses("lm;um|lm", 8, "0", weave.ErrEarly, 0),
	})
}

// TestP4WhichErrorFirst: Check's errors, ErrFuel, ErrTurn, ErrEarly.
func TestP4WhichErrorFirst(t *testing.T) {
	runPlay(t, []playCase{
		refuses(strings.Repeat("j9;", 51), -1, "?", weave.ErrLong, 0),
		refuses("j9;?", -1, "?", weave.ErrText, 3),
		refuses("=a1;j3", 9, "?", weave.ErrJump, 5),
		refuses("=a1", 9, "?", weave.ErrFuel, 0),
		refuses("=a1", 9, "", weave.ErrFuel, 0),
		refuses("=a1|=a1", 8, "0?", weave.ErrTurn, 1),
		refuses("=a1|=a1", 8, "00", weave.ErrTurn, 1),
	})
}

// walk goes over all rows that can be played, sign by sign, asks at each that
// Play keeps to its promise with the row and all it may go on with, and counts
// the ends.
func walk(t *testing.T, program string, fuel int, row string, found map[string]int) {
	t.Helper()
	if len(row) > 3*fuel {
		t.Fatalf("Play(%q, %d, %q) takes more turns than there is fuel", program, fuel, row)
	}
	goesOn := false
	for sign := 0; sign < 256; sign++ {
		longer := row + string([]byte{byte(sign)})
		end, errno, place := weave.Play(program, fuel, longer)
		if errno == weave.ErrTurn {
			if end != "" || place != len(row) {
				t.Fatalf("Play(%q, %d, %q) = %q %d %d", program, fuel, longer, end, errno, place)
			}
			continue
		}
		goesOn = true
		walk(t, program, fuel, longer, found)
	}
	end, errno, place := weave.Play(program, fuel, row)
	if place != 0 || goesOn && (errno != weave.ErrEarly || end != "") || !goesOn && (errno != weave.OK || end == "") {
		t.Fatalf("Play(%q, %d, %q) = %q %d %d, and it goes on: %v", program, fuel, row, end, errno, place, goesOn)
	}
	if !goesOn {
		found[end]++
	}
}

// TestP4AllRows: how many runs there are to each end was counted by hand.
func TestP4AllRows(t *testing.T) {
	for _, c := range []struct {
		program string
		fuel    int
		want    map[string]int
	}{
		{"||", 8, map[string]int{"EEE:000": 1}},
		{"=a1;=a1|=a1;=a1", 8, map[string]int{"EE:000": 6}},
		{"=a1|=a1|=a1", 8, map[string]int{"EEE:000": 6}},
		{"=a1;=a1|=a1;=a1", 1, map[string]int{"O1O1:000": 2}},
		{"=a1;=a1|=a1;=a1", 0, map[string]int{"O0O0:000": 1}},
		{"=a1;wxa|rax;wya", 8, map[string]int{"EE:110": 1, "EE:100": 5}},
		{"lm;um|lm;um", 8, map[string]int{"EE:000": 2}},
		{"lm;ln|ln;lm", 8, map[string]int{"EB0:000": 1, "B0E:000": 1, "B1B1:000": 2}},
		{"lm|um", 8, map[string]int{"EF0:000": 2}},
		{"=a1;wxa|rax;!a", 8, map[string]int{"EE:100": 1, "EW1:100": 5}},
		{"j0|j0", 3, map[string]int{"O0O0:000": 20}},
		{"rax;=b1;+ab;wxa|rax;=b1;+ab;wxa", 8, map[string]int{"EE:200": 2, "EE:100": 68}},
	} {
		found := map[string]int{}
		walk(t, c.program, c.fuel, "", found)
		for end, count := range found {
			if c.want[end] != count {
				t.Errorf("%q with fuel %d: %d runs to %q, want %d", c.program, c.fuel, count, end, c.want[end])
			}
		}
		if len(found) != len(c.want) {
			t.Errorf("%q with fuel %d: %d ends, want %d", c.program, c.fuel, len(found), len(c.want))
		}
	}
}

// TestP4DigitTables: + and - of all pairs of digits.
func TestP4DigitTables(t *testing.T) {
	for a := 0; a <= 9; a++ {
		for b := 0; b <= 9; b++ {
			head := "=b" + strconv.Itoa(a) + ";=c" + strconv.Itoa(b) + ";"
			sum, less := strconv.Itoa((a+b)%10), strconv.Itoa((a-b+10)%10)
			runPlay(t, []playCase{
				ends(head+"+bc;wxb", 8, "0000", "E:"+sum+"00"),
				ends(head+"-bc;wxb", 8, "0000", "E:"+less+"00"),
			})
		}
	}
}
