package weave

const (
	maxText    = 150
	maxThreads = 3
	maxSteps   = 8
)

// step is a step as its text says it. What its sign has no use for stays 0.
type step struct {
	sign   byte
	number uint8
	second uint8 // the second number of + and -
	cell   uint8
	lock   uint8
	digit  uint8
	place  int // the digit's, which ErrJump tells
}

// machine is a program that was read, with the table of what its steps do.
type machine struct {
	threads [][]step
	deeds   map[byte]deed
}

// read makes a machine of a program's text, or gives up.
func read(text string) machine {
	if len(text) > maxText {
		panic(refusal{ErrLong, 0})
	}
	r := reader{text: text}
	m := machine{threads: r.readThreads(), deeds: deeds()}
	for _, steps := range m.threads {
		checkJumps(steps)
	}
	return m
}

// checkJumps runs behind the reading, because a thread's steps can be counted
// only then, and because every ErrText goes ahead of an ErrJump.
func checkJumps(steps []step) {
	for _, s := range steps {
		if (s.sign == 'z' || s.sign == 'j') && int(s.digit) > len(steps) {
			panic(refusal{ErrJump, s.place})
		}
	}
}

// reader goes over a text, and gives up at the first byte that cannot stand
// behind those ahead of it, never later: that place is the one ErrText tells.
type reader struct {
	text  string
	place int
}

// atEnd is no byte's value, so that a 0 byte is not taken for the end.
const atEnd = -1

func (r *reader) peek() int {
	if r.place == len(r.text) {
		return atEnd
	}
	return int(r.text[r.place])
}

// take reads one byte from first to last, and tells how far from first it is.
func (r *reader) take(first, last byte) uint8 {
	next := r.peek()
	if next < int(first) || next > int(last) {
		panic(refusal{ErrText, r.place})
	}
	r.place++
	return uint8(next) - first
}

func (r *reader) takeNumber() uint8 { return r.take('a', 'd') }
func (r *reader) takeCell() uint8   { return r.take('x', 'z') }
func (r *reader) takeLock() uint8   { return r.take('m', 'n') }
func (r *reader) takeDigit() uint8  { return r.take('0', '9') }

// readThreads counts as it goes: a sign that would begin a step or a thread
// too many is itself the one with which no program goes on.
func (r *reader) readThreads() [][]step {
	var threads [][]step
	var steps []step
thread:
	steps = nil
	if next := r.peek(); next == atEnd || next == '|' {
		goto behindThread
	}
step:
	steps = append(steps, r.readStep())
	if r.peek() == ';' && len(steps) < maxSteps {
		r.place++
		goto step
	}
behindThread:
	threads = append(threads, steps)
	if r.peek() == '|' && len(threads) < maxThreads {
		r.place++
		goto thread
	}
	if r.peek() != atEnd {
		panic(refusal{ErrText, r.place})
	}
	return threads
}

// readStep goes by a step's sign to the label of what must follow it.
func (r *reader) readStep() step {
	sign := r.peek()
	s := step{sign: byte(sign)}
	r.place++
	switch sign {
	case '=', 'z':
		goto numberDigit
	case '+', '-':
		goto numberNumber
	case 'r':
		goto numberCell
	case 'w':
		goto cellNumber
	case 'l', 'u':
		goto lock
	case 'j':
		goto digit
	case '!':
		goto number
	}
	panic(refusal{ErrText, r.place - 1})

numberDigit:
	s.number = r.takeNumber()
digit:
	s.place = r.place
	s.digit = r.takeDigit()
	return s
numberNumber:
	s.number = r.takeNumber()
	s.second = r.takeNumber()
	return s
numberCell:
	s.number = r.takeNumber()
	s.cell = r.takeCell()
	return s
cellNumber:
	s.cell = r.takeCell()
number:
	s.number = r.takeNumber()
	return s
lock:
	s.lock = r.takeLock()
	return s
}
