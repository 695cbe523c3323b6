package weave_test

import (
	"fmt"
	"math/rand"
	"slices"
	"strings"
)

// world is a state by the document's words, made apart from the package's own:
// the tests hold what the package tells against what is found by it.
type world struct {
	numbers [3][4]int
	next    [3]int
	fuel    [3]int
	stopped [3]string // "F", "W", or neither
	cells   [3]int
	holders [2]string // the thread's number, or nothing
}

// oracle is a program as its texts.
type oracle struct {
	threads [][]string
}

func newOracle(program string) oracle {
	var o oracle
	for _, text := range strings.Split(program, "|") {
		o.threads = append(o.threads, strings.FieldsFunc(text, func(sign rune) bool { return sign == ';' }))
	}
	return o
}

// letter is how a thread stands: that of a way to end, or G if it may go on.
func (o oracle) letter(w world, who int) string {
	if w.stopped[who] != "" {
		return w.stopped[who]
	}
	if w.next[who] >= len(o.threads[who]) {
		return "E"
	}
	if w.fuel[who] == 0 {
		return "O"
	}
	step := o.threads[who][w.next[who]]
	if step[0] == 'l' && w.holders[step[1]-'m'] != "" {
		return "B"
	}
	return "G"
}

func (o oracle) end(w world) string {
	text := ""
	for who := range o.threads {
		letter := o.letter(w, who)
		text += letter
		if letter != "E" {
			text += fmt.Sprint(w.next[who])
		}
	}
	return text + fmt.Sprintf(":%d%d%d", w.cells[0], w.cells[1], w.cells[2])
}

func (o oracle) turn(w world, who int) world {
	step := o.threads[who][w.next[who]]
	numbers := &w.numbers[who]
	first := &numbers[max(0, strings.IndexByte("abcd", step[1]))] // of use only where the step begins with a number
	behind := step[len(step)-1]
	goesTo := w.next[who] + 1
	w.fuel[who]--
	switch step[0] {
	case '=':
		*first = int(behind - '0')
	case '+':
		*first = (*first + numbers[behind-'a']) % 10
	case '-':
		*first = (*first - numbers[behind-'a'] + 10) % 10
	case 'r':
		*first = w.cells[behind-'x']
	case 'w':
		w.cells[step[1]-'x'] = numbers[behind-'a']
	case 'l':
		w.holders[behind-'m'] = fmt.Sprint(who)
	case 'u':
		if w.holders[behind-'m'] != fmt.Sprint(who) {
			w.stopped[who] = "F"
			return w
		}
		w.holders[behind-'m'] = ""
	case 'z':
		if *first == 0 {
			goesTo = int(behind - '0')
		}
	case 'j':
		goesTo = int(behind - '0')
	case '!':
		if *first == 0 {
			w.stopped[who] = "W"
			return w
		}
	}
	w.next[who] = goesTo
	return w
}

// explore tells how many states there are, up to a few more than most, and all
// ways to end.
func explore(program string, fuel, most int) (int, []string) {
	o := newOracle(program)
	begin := world{fuel: [3]int{fuel, fuel, fuel}}
	met := map[world]bool{begin: true}
	ends := map[string]bool{}
	stack := []world{begin}
	for len(stack) > 0 && len(met) <= most {
		w := stack[len(stack)-1]
		stack = stack[:len(stack)-1]
		goesOn := false
		for who := range o.threads {
			if o.letter(w, who) != "G" {
				continue
			}
			goesOn = true
			if next := o.turn(w, who); !met[next] {
				met[next] = true
				stack = append(stack, next)
			}
		}
		if !goesOn {
			ends[o.end(w)] = true
		}
	}
	var all []string
	for end := range ends {
		all = append(all, end)
	}
	slices.Sort(all)
	return len(met), all
}

// somePrograms makes programs whose threads are much in each other's way, and
// seldom stop early. The source is the same at every run of the tests.
func somePrograms(count int) []string {
	source := rand.New(rand.NewSource(1))
	pick := func(all ...string) string { return all[source.Intn(len(all))] }
	step := func(steps int) string {
		first, second := pick("a", "b"), pick("a", "b")
		cell, lock := pick("x", "y"), pick("m", "n")
		target := fmt.Sprint(source.Intn(steps + 1))
		return pick("="+first+pick("1", "7"), "r"+first+cell, "w"+cell+first, "r"+first+"z", "wz"+first,
			"r"+first+cell, "w"+cell+first, "+"+first+second, "-"+first+second, "z"+first+target,
			pick("l"+lock, "u"+lock, "u"+lock, "j"+target, "!"+first))
	}
	var programs []string
	for range count {
		threads := make([]string, 1+min(source.Intn(6), 2))
		for who := range threads {
			all := make([]string, min(source.Intn(12), 8))
			for at := range all {
				all[at] = step(len(all))
			}
			if len(all) > 0 {
				all[0] = pick(all[0], "=a3", "lm")
			}
			threads[who] = strings.Join(all, ";")
		}
		programs = append(programs, strings.Join(threads, "|"))
	}
	return programs
}
