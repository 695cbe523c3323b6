package weave

const maxFuel = 8

// fate is how a thread stands, as far as its next step does not tell it.
type fate uint8

const (
	going fate = iota
	failed
	wrong
)

// thread is what is a thread's own in a state.
type thread struct {
	numbers [4]uint8
	next    uint8
	fuel    uint8
	fate    fate
}

// state is a value, all of it, so that two states can be held against each
// other and can be keys of a map.
type state struct {
	threads [maxThreads]thread
	cells   [3]uint8
	owners  [2]uint8 // of a lock: free, or the thread's number and 1 more
}

const free = 0

func owner(who int) uint8 { return uint8(who) + 1 }

// deed is what a step does: it makes of a state the one behind the step.
type deed func(before state, who int, s step) state

// deeds is the table from a step's first sign to what it does.
func deeds() map[byte]deed {
	return map[byte]deed{
		'=': state.set,
		'+': state.add,
		'-': state.subtract,
		'r': state.readCell,
		'w': state.writeCell,
		'l': state.takeLock,
		'u': state.letLockGo,
		'z': state.goIfZero,
		'j': state.goTo,
		'!': state.claim,
	}
}

func (st state) set(who int, s step) state {
	st.threads[who].numbers[s.number] = s.digit
	return st
}

func (st state) add(who int, s step) state {
	numbers := &st.threads[who].numbers
	numbers[s.number] = (numbers[s.number] + numbers[s.second]) % 10
	return st
}

// subtract adds 10 first, because the numbers have no sign.
func (st state) subtract(who int, s step) state {
	numbers := &st.threads[who].numbers
	numbers[s.number] = (numbers[s.number] + 10 - numbers[s.second]) % 10
	return st
}

func (st state) readCell(who int, s step) state {
	st.threads[who].numbers[s.number] = st.cells[s.cell]
	return st
}

func (st state) writeCell(who int, s step) state {
	st.cells[s.cell] = st.threads[who].numbers[s.number]
	return st
}

// takeLock does not ask whether the lock is free: a step that waits is no
// turn, so it is not made.
func (st state) takeLock(who int, s step) state {
	st.owners[s.lock] = owner(who)
	return st
}

func (st state) letLockGo(who int, s step) state {
	if st.owners[s.lock] != owner(who) {
		return st.stop(who, failed)
	}
	st.owners[s.lock] = free
	return st
}

func (st state) goIfZero(who int, s step) state {
	if st.threads[who].numbers[s.number] == 0 {
		return st.goTo(who, s)
	}
	return st
}

func (st state) goTo(who int, s step) state {
	st.threads[who].next = s.digit
	return st
}

func (st state) claim(who int, s step) state {
	if st.threads[who].numbers[s.number] == 0 {
		return st.stop(who, wrong)
	}
	return st
}

// stop goes back to the step that was just made, because that is the one
// which the way to end names.
func (st state) stop(who int, f fate) state {
	st.threads[who].fate = f
	st.threads[who].next--
	return st
}
