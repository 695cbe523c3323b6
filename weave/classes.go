package weave

const maxClasses = 300

// made is a turn that was made: whose, and of which step.
type made struct {
	who int
	s   step
}

// classes counts, behind a row of turns, the runs that are the least by their
// texts of those alike with them: one of each class. It adds them to those
// counted so far, and gives up as soon as they are too many.
//
// That takes little time, however many runs there are: a row that is gone
// through begins some run, and the least one alike with that is behind the same
// row, or is less and has been counted. So the rows that are left behind are
// beginnings of classes that were counted, no two of them alike, and a class
// has at most 9*9*9 such beginnings: 0 to 8 turns of each thread.
func (m machine) classes(st state, row []made, count int) int {
	if !m.someMayGoOn(st) {
		if count == maxClasses {
			panic(refusal{ErrMany, 0})
		}
		return count + 1
	}
	for who := range m.threads {
		if !m.mayGoOn(st, who) {
			continue
		}
		next := made{who, m.nextStep(st, who)}
		if staysLeast(row, next) {
			// append may write over what is behind the row: that is of the
			// threads ahead of this one, with which the count is done.
			count = m.classes(m.turn(st, who), append(row, next), count)
		}
	}
	return count
}

// staysLeast tells whether a row that is the least of those alike with it is
// so with one more turn, too: not, if that turn could as well be made ahead of
// one of a thread with a greater number.
func staysLeast(row []made, next made) bool {
	for at := len(row) - 1; at >= 0 && !row[at].hasToDoWith(next); at-- {
		if row[at].who > next.who {
			return false
		}
	}
	return true
}

func (t made) hasToDoWith(other made) bool {
	switch {
	case t.who == other.who:
		return true
	case t.s.isOfCell() && other.s.isOfCell():
		return t.s.cell == other.s.cell && (t.s.sign == 'w' || other.s.sign == 'w')
	case t.s.isOfLock() && other.s.isOfLock():
		return t.s.lock == other.s.lock
	}
	return false
}

func (s step) isOfCell() bool { return s.sign == 'r' || s.sign == 'w' }

func (s step) isOfLock() bool { return s.sign == 'l' || s.sign == 'u' }
