package spec

import (
	"evenkeel/api"
	"evenkeel/seq"
)

// An earlier names what the word of that number was ahead of one of the times that it was put, which are numbered from 0 on.
type earlier struct {
	number int64
	time   int
}

// puts has for each word, by its number, how often it was put.
type puts [seq.MaxWords]int

// A place is where a run that is ahead of time comes back to.
type place struct {
	state seq.State
	puts  puts
}

// A runner does the steps of a machine, but that it guesses as the script says.
type runner struct {
	seq.Machine
	// script has the choices that are left.
	script []int
	// were has what words were. Only the times that puts counts are asked for, so that who sets puts back takes back what was put since.
	were  map[earlier]int64
	puts  puts
	ahead bool
	// back and until say, of a run that is ahead of time, where it comes back to, and behind which step at the latest.
	back  place
	until int
}

// goesOn tells whether another step is to be done; where no instruction is left ahead of time, one is found by coming back.
func (r *runner) goesOn() bool {
	if r.ahead && r.HasFuel() && !r.HasNext() {
		r.takeBack()
	}
	return r.GoesOn()
}

func (r *runner) step() {
	i := r.Begin()
	switch i.Op {
	case api.IIf:
		r.branch(i)
	case api.ILoad, api.ILoadK:
		r.take(i)
	case api.IPut, api.IPutK:
		r.put(i)
	case api.IHalt:
		r.halt(i)
	default:
		r.Do(i)
	}
	if r.ahead && r.endsAhead(i) {
		r.takeBack()
	}
}

// choice takes the next number of the script.
func (r *runner) choice() int {
	if len(r.script) == 0 {
		return 0
	}
	c := r.script[0]
	r.script = r.script[1:]
	return c
}

func (r *runner) branch(i api.Ins) {
	other := r.Next
	if !r.Holds(i) {
		other = int(i.N)
	}
	r.Do(i)
	if r.choice() != 0 {
		r.goAhead()
		r.Next = other
	}
}

func (r *runner) take(i api.Ins) {
	number, reached := r.reach(i, seq.Takes)
	if !reached {
		return
	}
	if !r.HasWord(number) {
		r.Registers[i.A] = 0
		return
	}
	// The word itself is taken first, since that is what the run comes back to.
	r.Registers[i.A] = r.Words[number]
	if was, found := r.was(number, r.choice()); found {
		r.goAhead()
		r.Registers[i.A] = was
	}
}

func (r *runner) put(i api.Ins) {
	number, reached := r.reach(i, seq.Puts)
	if !reached || !r.HasWord(number) {
		return
	}
	r.were[earlier{number, r.puts[number]}] = r.Words[number]
	r.puts[number]++
	r.Words[number] = r.Registers[i.A]
}

// reach shows the word that i means, be it there or, ahead of time, not; else the run ends.
func (r *runner) reach(i api.Ins, how int64) (int64, bool) {
	number, there := r.Number(i)
	if !there && !r.ahead {
		r.Finish(api.EndFault)
		return 0, false
	}
	r.Show(api.SeeWord, number, how)
	return number, true
}

// was gives what a word was ahead of the c-th last time that it was put, if it was put so often.
func (r *runner) was(number int64, c int) (int64, bool) {
	times := r.puts[number]
	if c == 0 || c > times {
		return 0, false
	}
	return r.were[earlier{number, times - c}], true
}

func (r *runner) halt(i api.Ins) {
	if !r.ahead {
		r.Do(i)
	}
}

// goAhead makes the run be ahead of time from here on, if it is not already.
func (r *runner) goAhead() {
	if r.ahead {
		return
	}
	r.ahead = true
	r.back = place{state: r.State, puts: r.puts}
	r.until = r.Steps + api.Window
}

// endsAhead tells whether it is taken back behind i, a step that was done ahead of time.
func (r *runner) endsAhead(i api.Ins) bool {
	return i.Op == api.IFence || i.Op == api.IHalt || r.Steps == r.until
}

func (r *runner) takeBack() {
	r.Show(api.SeeBack, 0, 0)
	r.comeBack()
}

func (r *runner) comeBack() {
	r.State, r.puts = r.back.state, r.back.puts
	r.ahead = false
}

// told gives what the run has shown; what is put ahead of time is never told as memory.
func (r *runner) told() api.Shown {
	if r.ahead {
		r.comeBack()
	}
	return r.Told()
}
