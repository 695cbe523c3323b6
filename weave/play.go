package weave

import "strings"

// start is the state ahead of all turns. Only the program's own threads get
// fuel, so that those it does not have are alike in all its states.
func (m machine) start(fuel int) state {
	if fuel < 0 || fuel > maxFuel {
		panic(refusal{ErrFuel, 0})
	}
	var st state
	for who := range m.threads {
		st.threads[who].fuel = uint8(fuel)
	}
	return st
}

func (m machine) hasEnded(st state, who int) bool {
	return int(st.threads[who].next) == len(m.threads[who])
}

func (m machine) nextStep(st state, who int) step {
	return m.threads[who][st.threads[who].next]
}

func (m machine) waits(st state, who int) bool {
	s := m.nextStep(st, who)
	return s.sign == 'l' && st.owners[s.lock] != free
}

func (m machine) mayGoOn(st state, who int) bool {
	t := st.threads[who]
	return t.fate == going && !m.hasEnded(st, who) && t.fuel > 0 && !m.waits(st, who)
}

func (m machine) someMayGoOn(st state) bool {
	for who := range m.threads {
		if m.mayGoOn(st, who) {
			return true
		}
	}
	return false
}

// turn makes the next step of a thread that may go on. It goes to the step
// behind it first: those that go elsewhere then say so.
func (m machine) turn(st state, who int) state {
	s := m.nextStep(st, who)
	st.threads[who].fuel--
	st.threads[who].next++
	return m.deeds[s.sign](st, who, s)
}

// play makes the turns of a row and tells the end to which it leads, or gives
// up.
func (m machine) play(st state, row string) string {
	for place, sign := range row {
		who := int(sign) - '0'
		if who < 0 || who >= len(m.threads) || !m.mayGoOn(st, who) {
			panic(refusal{ErrTurn, place})
		}
		st = m.turn(st, who)
	}
	if m.someMayGoOn(st) {
		panic(refusal{ErrEarly, 0})
	}
	return m.end(st)
}

// end writes the way to end of a state in which no thread may go on.
func (m machine) end(st state) string {
	var text strings.Builder
	for who := range m.threads {
		letter := m.endLetter(st, who)
		text.WriteByte(letter)
		if letter != 'E' {
			text.WriteByte('0' + st.threads[who].next)
		}
	}
	text.WriteByte(':')
	for _, value := range st.cells {
		text.WriteByte('0' + value)
	}
	return text.String()
}

func (m machine) endLetter(st state, who int) byte {
	t := st.threads[who]
	switch {
	case t.fate == failed:
		return 'F'
	case t.fate == wrong:
		return 'W'
	case m.hasEnded(st, who):
		return 'E'
	case t.fuel == 0:
		return 'O'
	}
	return 'B'
}
