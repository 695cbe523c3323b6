package weave

import "slices"

const maxStates = 20000

// find is a state to which a search came, and the row of turns by which.
type find struct {
	st  state
	row string
}

// trail is what is kept of a state that was met.
type trail struct {
	row string
}

// search comes to all states to which some turns lead, and keeps of each the
// least row, by its text, that leads there; or it gives up, but only when all
// its goroutines are done, so that none outlives the call.
func (m machine) search(begin state) map[state]trail {
	// Neither channel holds anything back: so what a goroutine found has been
	// taken when it tells that it is done.
	found, done := make(chan find), make(chan struct{})
	running := 0
	for _, first := range m.onward(find{st: begin}) {
		running++
		go m.searchFrom(first, found, done)
	}
	met := map[state]trail{begin: {}}
	for running > 0 {
		select {
		case f := <-found:
			keepLeast(met, f)
		case <-done:
			running--
		}
	}
	if len(met) > maxStates {
		panic(refusal{ErrMany, 0})
	}
	return met
}

// keepLeast makes what is kept the same, whichever goroutine tells first.
func keepLeast(met map[state]trail, f find) {
	if kept, known := met[f.st]; !known || f.row < kept.row {
		met[f.st] = trail{f.row}
	}
}

// searchFrom tells every state to which turns lead from the first one on, each
// once, by the least row: all rows to a state are of one length, since each
// turn takes fuel, and those of one length come up in the order of their
// texts. It stops at maxStates of them: with the beginning they are too many.
func (m machine) searchFrom(first find, found chan<- find, done chan<- struct{}) {
	met := map[state]struct{}{first.st: {}}
	queue := []find{first}
	for at := 0; at < len(queue) && at < maxStates; at++ {
		found <- queue[at]
		for _, next := range m.onward(queue[at]) {
			if _, known := met[next.st]; !known {
				met[next.st] = struct{}{}
				queue = append(queue, next)
			}
		}
	}
	done <- struct{}{}
}

// onward is where one more turn leads, in the order of the threads.
func (m machine) onward(from find) []find {
	var all []find
	for who := range m.threads {
		if m.mayGoOn(from.st, who) {
			all = append(all, find{m.turn(from.st, who), from.row + string(rune('0'+who))})
		}
	}
	return all
}

// ends lists the ways to end among the states that were met.
func (m machine) ends(met map[state]trail) []string {
	var all []string
	for st := range met {
		if !m.someMayGoOn(st) {
			all = append(all, m.end(st))
		}
	}
	slices.Sort(all)
	return slices.Compact(all)
}

// show tells the least row of those that lead to an end, whatever the numbers
// and the fuel with which the threads come there; or it gives up.
func (m machine) show(met map[state]trail, end string) string {
	least, shown := "", false
	for st, way := range met {
		if m.someMayGoOn(st) || m.end(st) != end {
			continue
		}
		if !shown || way.row < least {
			least, shown = way.row, true
		}
	}
	if !shown {
		panic(refusal{ErrNone, 0})
	}
	return least
}
