package find

import (
	"slices"
	"strconv"
	"testing"

	"evenkeel/api"
	"evenkeel/check"
)

// In the programs here the register 1 is an index, 2 what it is held against, 3 what is loaded, 4 secret.

// far is the index, from open on, of the word of hidden whose words differ in the memories here.
const far = 6

// apart gives two memories with the same public words, of which the first word of open is first.
func apart(first int64, one, two int64) (a, b [][]int64) {
	return [][]int64{{first, 2, 3, 0}, {5, 6, one, 8}}, [][]int64{{first, 2, 3, 0}, {5, 6, two, 8}}
}

// guards gives for each condition, either way round, what lets only an index below 4 on to the instruction behind it, else to out.
// It is to stand at the number at.
func guards(at, out int64) map[string][]api.Ins {
	bound := set(2, 3)
	return map[string][]api.Ins{
		"not less":            {bound, when(1, api.CondMost, 2, out)},
		"less":                {bound, when(1, api.CondLess, 2, at+3), jump(out)},
		"less, the other way": {bound, when(2, api.CondLess, 1, out)},
		"most, the other way": {bound, when(2, api.CondMost, 1, at+3), jump(out)},
		"the same":            {bound, when(1, api.CondSame, 2, at+3), jump(out)},
		"another":             {bound, when(1, api.CondOther, 2, out)},
	}
}

// showers gives what lets who watches see something of the register 3, without fault as long as it is not secret.
func showers(out int64) map[string][]api.Ins {
	return map[string][]api.Ins{
		"an IIf":             {when(3, api.CondSame, 0, out)},
		"what is divided":    {op(api.OpDiv, 5, 3, 2)},
		"by what":            {op(api.OpMod, 5, 2, 3)},
		"a load":             {mask(3, 4), load(5, 3, open, 0)},
		"a put":              {mask(3, 4), put(5, 3, hidden, 0)},
		"a word":             {putK(3, open, 1), loadK(5, open, 1), op(api.OpDiv, 5, 5, 2)},
		"a guarded load":     {when(3, api.CondMost, 2, out), load(5, 3, open, 0)},
		"what is made of it": {op(api.OpShl, 5, 3, 3), op(api.OpXor, 5, 5, 2), op(api.OpMod, 5, 5, 5)},
	}
}

// A leak is a program without fault that tells two memories apart by what it does ahead of time.
type leak struct {
	name string
	p    api.Program
	a, b [][]int64
}

// end is where the programs of loads and puts end.
const end = 20

// filled has code, and what does nothing up to its end.
func filled(code ...api.Ins) api.Program {
	for len(code) < end {
		code = append(code, set(6, 1))
	}
	return program(append(code, halt(0))...)
}

// loads has programs that load past a bound, and then show what they loaded.
func loads() []leak {
	var out []leak
	a, b := apart(far, 0, 1)
	for name, guard := range guards(1, end) {
		for how, show := range showers(end) {
			p := filled(slices.Concat([]api.Ins{loadK(1, open, 0)}, guard, []api.Ins{load(3, 1, open, 0)}, show)...)
			out = append(out, leak{"load, " + name + ", shown by " + how, p, a, b})
		}
	}
	return out
}

// puts has programs that put a secret past a bound of the secret region, onto a public word, and then show that word.
// The index is below 0 there: it is a great one from 0 on.
func puts() []leak {
	var out []leak
	a, b := apart(-3, 0, 1) // 3 ahead of hidden is the word 1 of open
	for name, guard := range guards(2, end) {
		for how, show := range showers(end) {
			first := []api.Ins{loadK(4, hidden, 2), loadK(1, open, 0)}
			p := filled(slices.Concat(first, guard, []api.Ins{put(4, 1, hidden, 0), loadK(3, open, 1)}, show)...)
			out = append(out, leak{"put, " + name + ", shown by " + how, p, a, b})
		}
	}
	return out
}

// others has programs that need several wrong guesses, or words as they were, or both.
func others() []leak {
	a, b := apart(far, 0, 1)
	c, d := apart(1, 0, 1)
	past, shown, bound := load(3, 1, open, 0), op(api.OpDiv, 3, 3, 2), set(2, 3)
	less := api.CondLess
	return []leak{
		{"three guesses", program(loadK(1, open, 0), bound, when(2, less, 1, 7), when(2, less, 1, 7), when(2, less, 1, 7), past, shown, halt(0)), a, b},
		{"guesses that lead to guesses", program(loadK(1, open, 0), bound, when(1, less, 2, 4), jump(8), when(1, less, 2, 6), jump(8), past, shown, halt(0)), a, b},
		{"a word as it was, and a guess", program(set(1, far), putK(1, open, 1), set(1, 2), putK(1, open, 1),
			loadK(1, open, 1), bound, when(2, less, 1, 9), past, shown, halt(0)), c, d},
		{"a word as it was long ago, and a guess", program(set(1, far), putK(1, open, 1), set(1, 9), putK(1, open, 1), set(1, 2), put(1, 0, open, 1),
			load(1, 0, open, 1), bound, when(2, less, 1, 11), past, shown, halt(0)), c, d},
		{"a loop that goes on too long", program(bound, set(1, 2), past, op(api.OpMod, 3, 3, 2), add(1, 1, 1), when(2, api.CondMost, 1, 2), halt(1)), [][]int64{{1, 2, 3, 4}, {5, 6, 7, 8}}, [][]int64{{1, 2, 3, 4}, {6, 6, 7, 8}}},
		{"secret words as they were", program(loadK(4, hidden, 2), putK(4, hidden, 0), add(4, 4, 1), putK(4, hidden, 0), loadK(4, hidden, 0),
			loadK(1, open, 0), bound, when(2, less, 1, 9), put(4, 1, hidden, 0), loadK(3, open, 1), op(api.OpDiv, 3, 3, 2), halt(0)), secretPut(0), secretPut(1)},
	}
}

// secretPut has an index that leads from hidden to the word 1 of open.
func secretPut(word int64) [][]int64 { return [][]int64{{-3, 2, 3, 0}, {5, 6, word, 8}} }

func leaks() []leak { return slices.Concat(loads(), puts(), others()) }

// Neither hardened nor fenced, they tell by some script what differs, and what is found is the first of it; made so, they tell nothing.
func TestK2AheadOfTime(t *testing.T) {
	for _, l := range leaks() {
		all := made(t, l.name, l.p)
		told := 0
		for _, script := range slices.Concat(scripts(6, 2), scripts(4, 3)) {
			findsNothing(t, l.name, all, l.a, l.b, script, enough)
			findsNothing(t, l.name, all, l.b, l.a, script, enough)
			if right(t, l.name, l.p, l.a, l.b, script, enough).found {
				told++
			}
		}
		if told == 0 {
			t.Errorf("%s: tells nothing as it is, so that nothing was tried", l.name)
		}
		bothWays(t, l.name, l.p, l.a, l.b, nil, enough, nothing)
		findsNothing(t, l.name, all, l.a, l.b, nil, enough)
	}
}

// All fuels, so that some runs end ahead of time.
func TestK2EachFuel(t *testing.T) {
	for _, l := range leaks() {
		all := made(t, l.name, l.p)
		for _, script := range [][]int{{1, 1, 1, 1}, {0, 1}, {0, 0, 1}, {2, 1}} {
			for fuel := range 40 {
				findsNothing(t, l.name, all, l.a, l.b, script, fuel)
				right(t, l.name, l.p, l.a, l.b, script, fuel)
			}
		}
	}
}

// What is found of some of them as they are, by hand.
func TestK1WhatIsFoundAheadOfTime(t *testing.T) {
	a, b := apart(far, 0, 1)
	c, d := apart(1, 0, 1)
	past, shown, bound := load(3, 1, open, 0), op(api.OpDiv, 3, 3, 2), set(2, 3)
	one := program(loadK(1, open, 0), bound, when(2, api.CondLess, 1, 5), past, shown, halt(0))
	// step 0, word 0, step 1, step 2, step 3, word 6, step 4, what is divided
	bothWays(t, "one guess", one, a, b, []int{0, 1}, enough, at(7))
	bothWays(t, "one guess, an index that is there", one, c, d, []int{0, 1}, enough, nothing)
	two := program(loadK(1, open, 0), bound, when(2, api.CondLess, 1, 6), when(2, api.CondLess, 1, 6), past, shown, halt(0))
	bothWays(t, "two guesses", two, a, b, []int{0, 1, 1}, enough, at(8))
	bothWays(t, "only the first of them", two, a, b, []int{0, 1}, enough, nothing)
	bothWays(t, "only the second of them", two, a, b, []int{0, 0, 1}, enough, nothing)
	was := program(set(1, far), putK(1, open, 1), set(1, 2), putK(1, open, 1), loadK(1, open, 1), bound, when(2, api.CondLess, 1, 9), past, shown, halt(0))
	// 6 things by the puts, step 4, word 1, step 5, step 6, step 7, word 6, step 8, what is divided
	bothWays(t, "as it was, and a guess", was, c, d, []int{1, 1}, enough, at(13))
	bothWays(t, "only as it was", was, c, d, []int{1}, enough, nothing)
	bothWays(t, "only a guess", was, c, d, []int{0, 1}, enough, nothing)
	// The way of an IIf, ahead of time: step 4 is the IIf, behind which is step 5, or step 6.
	way := program(loadK(1, open, 0), bound, when(2, api.CondLess, 1, 6), past, when(3, api.CondSame, 0, 6), set(6, 1), halt(0))
	bothWays(t, "a way", way, a, b, []int{0, 1}, enough, at(7))
}

// What is shown by the Window-th step behind the guess is found, and what would be shown by the one behind it is not.
func TestK1UpToTheWindow(t *testing.T) {
	a, b := apart(far, 0, 1)
	for pad := range api.Window + 4 {
		code := []api.Ins{loadK(1, open, 0), set(2, 3), when(2, api.CondLess, 1, int64(pad)+5)}
		code = append(code, slices.Repeat([]api.Ins{add(6, 6, 1)}, pad)...)
		p := program(append(code, load(3, 1, open, 0), op(api.OpDiv, 3, 3, 2), halt(0))...)
		want := nothing
		if pad+2 <= api.Window {
			want = at(pad + 7)
		}
		bothWays(t, strconv.Itoa(pad)+" steps between", p, a, b, []int{0, 1}, enough, want)
		findsNothing(t, "padded", made(t, "padded", p), a, b, []int{0, 1}, enough)
	}
}

// The longest script and the most fuel, on programs that go on and on.
func TestK2LongRuns(t *testing.T) {
	a, b := apart(far, 0, 1)
	p := program(loadK(1, open, 0), set(2, 3), when(2, api.CondLess, 1, 0), load(3, 1, open, 0), when(3, api.CondSame, 0, 0), putK(3, open, 1), jump(0))
	all := made(t, "long", p)
	for _, part := range [][]int{{1}, {0, 1}, {1, 0, 2}, {0, 1, 1, 0, 3}} {
		script := slices.Repeat(part, api.MaxScript)[:api.MaxScript]
		findsNothing(t, "long", all, a, b, script, api.MaxFuel)
		right(t, "long", p, a, b, script, api.MaxFuel)
	}
	if got := right(t, "long", p, a, b, []int{0, 1}, api.MaxFuel); !got.found {
		t.Error("tells nothing as it is")
	}
}

// What is made of a program with a fault is no program, so that nothing is found of it.
func TestK2ProgramsWithFaults(t *testing.T) {
	for name, code := range map[string][]api.Ins{
		"a secret is told":     {loadK(1, hidden, 2), halt(1)},
		"a secret is an index": {loadK(1, hidden, 2), mask(1, 4), load(2, 1, open, 0), halt(0)},
		"no such word":         {loadK(1, open, 0), load(2, 1, open, 0), halt(0)},
		"no instruction left":  {loadK(1, hidden, 2), op(api.OpDiv, 2, 1, 1)},
		"no program":           nil,
	} {
		if check.Check(program(code...)).Code == api.OK {
			t.Fatalf("%s: not what is to be tried", name)
		}
		for _, m := range makers() {
			h, _ := m.make(program(code...))
			a, b := apart(1, 0, 1)
			bothWays(t, name+", "+m.name, h, a, b, nil, 9, refused(api.ErrForm))
			bothWays(t, name+", "+m.name, h, nil, nil, []int{1}, -1, refused(api.ErrForm))
		}
	}
}

// Errors are told of what was made as of all others: nothing is found then.
func TestK2WithErrors(t *testing.T) {
	for _, l := range others() {
		for _, h := range made(t, l.name, l.p) {
			bothWays(t, l.name, h, l.a, l.b, []int{-1}, 9, refused(api.ErrRange))
			bothWays(t, l.name, h, l.a, l.b, nil, -1, refused(api.ErrRange))
			bothWays(t, l.name, h, l.a, l.b, nil, api.MaxFuel+1, refused(api.ErrRange))
			bothWays(t, l.name, h, l.a, l.b[:1], nil, 9, refused(api.ErrForm))
			bothWays(t, l.name, h, l.a, l.b, nil, 0, nothing)
		}
	}
}

// With other public words something is found, also of what was made: they may be told.
func TestK2OtherPublicWords(t *testing.T) {
	p := program(loadK(1, open, 0), op(api.OpDiv, 3, 1, 1), halt(0))
	a, _ := apart(1, 0, 1)
	b, _ := apart(2, 0, 1)
	for _, h := range made(t, "public", p) {
		bothWays(t, "public", h, a, b, nil, 9, at(3))
	}
}
