package weave_test

import (
	"fmt"
	"math/rand"
	"strings"
)

// oracleTurn is a turn in the oracle's words: whose, and the step's text.
type oracleTurn struct {
	who  int
	step string
}

// related is the document's sentence on two turns, over the steps' texts.
func related(one, other oracleTurn) bool {
	if one.who == other.who {
		return true
	}
	switch one.step[:1] + other.step[:1] {
	case "rw":
		return one.step[2] == other.step[1]
	case "wr":
		return one.step[1] == other.step[2]
	case "ww", "ll", "uu", "lu", "ul":
		return one.step[1] == other.step[1]
	}
	return false
}

// runs writes down all runs by their rows, up to a few more than most.
func (o oracle) runs(w world, row string, turns []oracleTurn, most int, all map[string][]oracleTurn) {
	goesOn := false
	for who := range o.threads {
		if len(all) > most {
			return
		}
		if o.letter(w, who) != "G" {
			continue
		}
		goesOn = true
		turn := oracleTurn{who, o.threads[who][w.next[who]]}
		o.runs(o.turn(w, who), row+fmt.Sprint(who), append(turns[:len(turns):len(turns)], turn), most, all)
	}
	if !goesOn {
		all[row] = turns
	}
}

// classesBySwaps does what the document says: it changes the order of two
// turns, again and again, and counts what hangs together; -1, if there are
// more runs than most.
func classesBySwaps(program string, fuel, most int) int {
	o := newOracle(program)
	all := map[string][]oracleTurn{}
	o.runs(world{fuel: [3]int{fuel, fuel, fuel}}, "", nil, most, all)
	if len(all) > most {
		return -1
	}
	count := 0
	met := map[string]bool{}
	for row := range all {
		if met[row] {
			continue
		}
		count++
		met[row] = true
		for stack := []string{row}; len(stack) > 0; {
			last := stack[len(stack)-1]
			stack = stack[:len(stack)-1]
			for _, alike := range swaps(last, all[last]) {
				if all[alike] == nil {
					panic(program + ": " + alike + " is no run, but alike with " + last)
				}
				if !met[alike] {
					met[alike] = true
					stack = append(stack, alike)
				}
			}
		}
	}
	return count
}

// swaps is what becomes of a run's row by one change of the order.
func swaps(row string, turns []oracleTurn) []string {
	var all []string
	for at := 1; at < len(turns); at++ {
		if !related(turns[at-1], turns[at]) {
			all = append(all, row[:at-1]+row[at:at+1]+row[at-1:at]+row[at+1:])
		}
	}
	return all
}

// past is how many turns of each thread cannot come behind a turn, itself
// counted.
type past [3]int

// beginning is some turns, whatever the order of those that have nothing to do
// with one another.
type beginning struct {
	w     world
	turns []oracleTurn
	pasts []past
}

// name is one for all beginnings that become each other, and for no others.
func (b beginning) name() string {
	var of [3]strings.Builder
	for at, turn := range b.turns {
		fmt.Fprint(&of[turn.who], turn.step, b.pasts[at])
	}
	return of[0].String() + "|" + of[1].String() + "|" + of[2].String()
}

func (b beginning) with(o oracle, who int) beginning {
	turn := oracleTurn{who, o.threads[who][b.w.next[who]]}
	var ahead past
	for at, other := range b.turns {
		if !related(other, turn) {
			continue
		}
		for which, count := range b.pasts[at] {
			ahead[which] = max(ahead[which], count)
		}
	}
	ahead[who]++
	size := len(b.turns)
	return beginning{o.turn(b.w, who), append(b.turns[:size:size], turn), append(b.pasts[:size:size], ahead)}
}

// classesByPasts takes one beginning of each name a turn further, again and
// again, so it can count where there are far too many runs to write them down;
// -1, if there are more beginnings than most.
func classesByPasts(program string, fuel, most int) int {
	o := newOracle(program)
	level := map[string]beginning{"": {w: world{fuel: [3]int{fuel, fuel, fuel}}}}
	count, met := 0, 0
	for len(level) > 0 {
		if met += len(level); met > most {
			return -1
		}
		next := map[string]beginning{}
		for _, b := range level {
			goesOn := false
			for who := range o.threads {
				if o.letter(b.w, who) == "G" {
					goesOn = true
					further := b.with(o, who)
					next[further.name()] = further
				}
			}
			if !goesOn {
				count++
			}
		}
		level = next
	}
	return count
}

// crowdedPrograms makes programs of few steps, nearly all of which have to do
// with those of other threads. The source is the same at every run of the
// tests.
func crowdedPrograms(count int) []string {
	source := rand.New(rand.NewSource(2))
	steps := []string{"wxa", "wxb", "rax", "rbx", "wya", "ray", "wxa", "wyb", "rby", "lm;um", "=b1", "um"}
	var programs []string
	for range count {
		threads := make([]string, 2+source.Intn(2))
		for who := range threads {
			var all []string
			for range 3 + source.Intn(3) {
				all = append(all, steps[source.Intn(len(steps))])
			}
			threads[who] = strings.Join(all, ";")
		}
		programs = append(programs, strings.Join(threads, "|"))
	}
	return programs
}
