// Package weave: all that threads can do: see DOC.md.
package weave

// Errno is what a call answers: OK or the reason for a refusal.
type Errno int

const (
	OK       Errno = 0
	ErrLong  Errno = 1 // a text above its bound
	ErrText  Errno = 2 // no program
	ErrJump  Errno = 3 // a step to which one cannot go
	ErrFuel  Errno = 4 // fuel that may not be
	ErrMany  Errno = 5 // too many states, or classes
	ErrTurn  Errno = 6 // a turn that may not be made
	ErrEarly Errno = 7 // some thread may still go on
	ErrNone  Errno = 8 // no such way to end
)

// Check tells whether a text is a program (P3).
func Check(program string) (errno Errno, place int) {
	defer func() {
		errno, place = refused(recover())
	}()
	read(program)
	return OK, 0
}

// Play tells where a row of turns leads (P4).
func Play(program string, fuel int, row string) (end string, errno Errno, place int) {
	defer func() {
		errno, place = refused(recover())
	}()
	m := read(program)
	return m.play(m.start(fuel), row), OK, 0
}

// Ends tells all ways to end (P5).
func Ends(program string, fuel int) (ends []string, errno Errno, place int) {
	defer func() {
		errno, place = refused(recover())
	}()
	m := read(program)
	return m.ends(m.search(m.start(fuel))), OK, 0
}

// Show tells a row of turns that leads to an end (P6).
func Show(program string, fuel int, end string) (row string, errno Errno, place int) {
	defer func() {
		errno, place = refused(recover())
	}()
	m := read(program)
	return m.show(m.search(m.start(fuel)), end), OK, 0
}

// Classes tells how many runs there are of which no two are alike (P7).
func Classes(program string, fuel int) (count int, errno Errno, place int) {
	defer func() {
		errno, place = refused(recover())
	}()
	m := read(program)
	return m.classes(m.start(fuel), nil, 0), OK, 0
}
