package spec

import (
	"math"
	"reflect"
	"slices"
	"testing"

	"evenkeel/api"
	"evenkeel/num"
	"evenkeel/seq"
)

const (
	least    = math.MinInt64
	greatest = math.MaxInt64
	last     = api.Regs + 1 // the last register of a hardened program
)

func step(at int64) api.See { return api.See{Kind: api.SeeStep, A: at} }

func take(number int64) api.See { return api.See{Kind: api.SeeWord, A: number} }

func put(number int64) api.See { return api.See{Kind: api.SeeWord, A: number, B: 1} }

func div(a, b int64) api.See { return api.See{Kind: api.SeeDiv, A: a, B: b} }

func back() api.See { return api.See{Kind: api.SeeBack} }

func set(a int, n int64) api.Ins { return api.Ins{Op: api.ISet, A: a, N: n} }

func halt(a int) api.Ins { return api.Ins{Op: api.IHalt, A: a} }

func jump(n int64) api.Ins { return api.Ins{Op: api.IJump, N: n} }

func fence() api.Ins { return api.Ins{Op: api.IFence} }

// stays goes on at n, but if it is guessed wrong, with the next one.
func stays(n int64) api.Ins { return api.Ins{Op: api.IIf, C: api.CondSame, N: n} }

// passes goes on with the next one, but if it is guessed wrong, at n.
func passes(n int64) api.Ins { return api.Ins{Op: api.IIf, C: api.CondOther, N: n} }

// tells shows what a is by dividing it by register 0.
func tells(a int) api.Ins { return api.Ins{Op: api.IOp + api.OpMod, A: a, B: a} }

func loadK(a, c int, n int64) api.Ins { return api.Ins{Op: api.ILoadK, A: a, C: c, N: n} }

func putK(a, c int, n int64) api.Ins { return api.Ins{Op: api.IPutK, A: a, C: c, N: n} }

func load(a, b, c int, n int64) api.Ins { return api.Ins{Op: api.ILoad, A: a, B: b, C: c, N: n} }

func putAt(a, b, c int, n int64) api.Ins { return api.Ins{Op: api.IPut, A: a, B: b, C: c, N: n} }

// sized has regions of the given Logs, and every word its own number plus 100.
func sized(code []api.Ins, logs ...int) (api.Program, [][]int64) {
	p := api.Program{Code: code}
	memory := [][]int64{}
	next := int64(100)
	for c, log := range logs {
		p.Regions = append(p.Regions, api.Region{Log: log, Secret: c%2 == 1})
		words := []int64{}
		for range 1 << log {
			words = append(words, next)
			next++
		}
		memory = append(memory, words)
	}
	return p, memory
}

func deep(memory [][]int64) [][]int64 {
	out := make([][]int64, len(memory))
	for c := range memory {
		out[c] = slices.Clone(memory[c])
	}
	return out
}

// with is memory with one other word.
func with(memory [][]int64, c int, index int, n int64) [][]int64 {
	out := deep(memory)
	out[c][index] = n
	return out
}

func sameMemory(a, b [][]int64) bool {
	return slices.EqualFunc(a, b, func(x, y []int64) bool { return slices.Equal(x, y) })
}

func same(a, b api.Shown) bool {
	return a.End == b.End && a.Value == b.Value && a.Steps == b.Steps &&
		slices.Equal(a.Seen, b.Seen) && sameMemory(a.Memory, b.Memory)
}

// runs holds what a run answers against want, and sees that all that was handed in stays as it was, and what lies behind the script is not read.
func runs(t *testing.T, name string, p api.Program, memory [][]int64, script []int, fuel int, want api.Shown) {
	t.Helper()
	regions, code, before := slices.Clone(p.Regions), slices.Clone(p.Code), deep(memory)
	long := append(slices.Clone(script), 1, -1)
	got, e := Run(p, memory, long[:len(script)], fuel)
	if e != api.OK || !same(got, want) {
		t.Errorf("%s: script %v, fuel %d:\n got %+v, %v\nwant %+v", name, script, fuel, got, e, want)
	}
	if !slices.Equal(regions, p.Regions) || !slices.Equal(code, p.Code) || !sameMemory(before, memory) ||
		!slices.Equal(long, append(slices.Clone(script), 1, -1)) {
		t.Errorf("%s: what was handed in was changed", name)
	}
}

func refused(t *testing.T, name string, p api.Program, memory [][]int64, script []int, fuel int, want api.Errno) {
	t.Helper()
	got, e := Run(p, memory, script, fuel)
	if e != want || !reflect.DeepEqual(got, api.Shown{}) {
		t.Errorf("%s: got %+v, %v; want nothing, %v", name, got, e, want)
	}
}

// at is a script of n zeros but for one number.
func at(n, place, number int) []int {
	out := make([]int, n)
	out[place] = number
	return out
}

func TestD1WrongInputs(t *testing.T) {
	good, memory := sized([]api.Ins{halt(0)}, 1, 2)
	bad := api.Program{Regions: good.Regions, Code: []api.Ins{halt(last + 1)}}
	wide, _ := sized([]api.Ins{halt(0)}, api.MaxLog+1)
	many, manyWords := sized([]api.Ins{halt(0)}, 0, 0, 0, 0, 0, 0, 0)
	long := make([]int, api.MaxScript+1)
	below := []int{-1}
	for _, c := range []struct {
		name   string
		p      api.Program
		memory [][]int64
		script []int
		fuel   int
		want   api.Errno
	}{
		{"no program", api.Program{}, nil, nil, 1, api.ErrForm},
		{"a register too many", bad, memory, nil, 1, api.ErrForm},
		{"too long", api.Program{Code: slices.Repeat([]api.Ins{fence()}, api.MaxHard+1)}, nil, nil, 1, api.ErrForm},
		{"a region too large", wide, [][]int64{make([]int64, 128)}, nil, 1, api.ErrForm},
		{"too many regions", many, manyWords, nil, 1, api.ErrForm},
		{"no memory", good, nil, nil, 1, api.ErrForm},
		{"a list too many", good, append(deep(memory), []int64{1}), nil, 1, api.ErrForm},
		{"a word too few", good, [][]int64{{1, 2}, {3, 4, 5}}, nil, 1, api.ErrForm},
		{"a word too many", good, [][]int64{{1, 2, 3}, {3, 4, 5, 6}}, nil, 1, api.ErrForm},
		{"fuel below 0", good, memory, nil, -1, api.ErrRange},
		{"the least fuel", good, memory, nil, math.MinInt, api.ErrRange},
		{"fuel above MaxFuel", good, memory, nil, api.MaxFuel + 1, api.ErrRange},
		{"the greatest fuel", good, memory, nil, math.MaxInt, api.ErrRange},
		{"a choice too many", good, memory, long, 1, api.ErrRange},
		{"many choices too many", good, memory, make([]int, 3*api.MaxScript), 1, api.ErrRange},
		{"a choice too many, and no fuel", good, memory, long, 0, api.ErrRange},
		{"below 0 alone", good, memory, below, 1, api.ErrRange},
		{"below 0 alone, and no fuel", good, memory, below, 0, api.ErrRange},
		{"below 0 first", good, memory, at(9, 0, -1), 1, api.ErrRange},
		{"below 0 between", good, memory, at(9, 4, -7), 1, api.ErrRange},
		{"below 0 last", good, memory, at(9, 8, -1), 1, api.ErrRange},
		{"below 0 as the last one that may be", good, memory, at(api.MaxScript, api.MaxScript-1, -1), 1, api.ErrRange},
		{"the least choice", good, memory, []int{math.MinInt}, 1, api.ErrRange},
		{"below 0 in too many", good, memory, at(api.MaxScript+1, 0, -1), 1, api.ErrRange},
		{"fuel below 0, and a choice below 0", good, memory, below, -1, api.ErrRange},
		{"not hard, and fuel below 0", bad, memory, nil, -1, api.ErrForm},
		{"not hard, and a choice below 0", bad, memory, below, 1, api.ErrForm},
		{"not hard, and a choice too many", bad, memory, long, 1, api.ErrForm},
		{"memory that does not fit, and fuel above MaxFuel", good, nil, nil, api.MaxFuel + 1, api.ErrForm},
		{"memory that does not fit, and a choice below 0", good, memory[1:], below, 1, api.ErrForm},
		{"memory that does not fit, and a choice too many", good, memory[:1], long, -1, api.ErrForm},
	} {
		refused(t, c.name, c.p, c.memory, c.script, c.fuel, c.want)
	}
}

func TestD1ScriptsThatMayBe(t *testing.T) {
	p, memory := sized([]api.Ins{halt(0)}, 1)
	done := api.Shown{End: api.EndDone, Steps: 1, Seen: []api.See{step(0)}, Memory: memory}
	none := api.Shown{End: api.EndFuel, Memory: memory}
	for _, script := range [][]int{
		nil, {}, {0}, {1}, {math.MaxInt},
		make([]int, api.MaxScript-1), make([]int, api.MaxScript),
		slices.Repeat([]int{7}, api.MaxScript), at(api.MaxScript, api.MaxScript-1, math.MaxInt),
	} {
		runs(t, "halts", p, memory, script, api.MaxFuel, done)
		runs(t, "no fuel", p, memory, script, 0, none)
	}
}

// Choices are taken in order, the last one that may be too; behind it all are 0.
func TestD1ChoicesInOrder(t *testing.T) {
	p, memory := sized([]api.Ins{passes(2), jump(0), fence()})
	for _, n := range []int{0, 1, 2, 5, api.MaxScript} {
		script := slices.Repeat([]int{1, 0, 3}, api.MaxScript)[:n]
		var seen []api.See
		steps, fuel := 0, n*3+20
		for c := 0; steps+3 <= fuel; c++ {
			seen = append(seen, step(0))
			if c < n && c%3 != 1 {
				seen = append(seen, step(2), back())
				steps++
			}
			seen = append(seen, step(1))
			steps += 2
		}
		runs(t, "in order", p, memory, script, steps, api.Shown{Steps: steps, Seen: seen})
	}
}

// Guessed wrong either way, whatever the condition is, and whatever the choice above 0.
func TestD2IfEitherWay(t *testing.T) {
	numbers := []int64{0, 1, 2, -1, least, greatest}
	for cond := api.CondSame; cond <= api.CondMost; cond++ {
		for _, a := range numbers {
			for _, b := range numbers {
				p, memory := sized([]api.Ins{set(8, a), set(9, b), {Op: api.IIf, A: 8, B: 9, C: cond, N: 5}, set(8, 30), halt(8), set(9, 50), halt(9)})
				way, other, value := int64(3), int64(5), int64(30)
				if num.Holds(cond, a, b) {
					way, other, value = 5, 3, 50
				}
				right := []api.See{step(0), step(1), step(2), step(way), step(way + 1)}
				runs(t, "as it should", p, memory, []int{0}, 99, api.Shown{End: api.EndDone, Value: value, Steps: 5, Seen: right})
				wrong := []api.See{step(0), step(1), step(2), step(other), step(other + 1), back(), step(way), step(way + 1)}
				for _, c := range []int{1, 2, math.MaxInt} {
					runs(t, "the other way", p, memory, []int{c}, 99, api.Shown{End: api.EndDone, Value: value, Steps: 7, Seen: wrong})
				}
			}
		}
	}
}

// Both ways may lead to one place: it is ahead of time all the same.
func TestD2IfBothWaysTheSame(t *testing.T) {
	for _, i := range []api.Ins{stays(1), passes(1)} {
		p, memory := sized([]api.Ins{i, halt(0)})
		seen := []api.See{step(0), step(1), back(), step(1)}
		runs(t, "one place", p, memory, []int{1}, 9, api.Shown{End: api.EndDone, Steps: 3, Seen: seen})
	}
}

// putThrice puts 7, 8 and 9 to the word 1 of the region 1, which is the word 3 of all, and takes and tells it by i.
func putThrice(i api.Ins) (api.Program, [][]int64, []api.See) {
	p, memory := sized([]api.Ins{
		set(1, 7), putK(1, 1, 1),
		set(1, 8), putAt(1, 0, 1, 1),
		set(1, 9), putK(1, 1, 1),
		i, tells(2), halt(2),
	}, 1, 2)
	seen := []api.See{step(0), step(1), put(3), step(2), step(3), put(3), step(4), step(5), put(3), step(6), take(3), step(7)}
	return p, memory, seen
}

func TestD2WhatAWordWas(t *testing.T) {
	for _, i := range []api.Ins{loadK(2, 1, 1), load(2, 0, 1, 1), load(2, 1, 1, -8)} {
		p, memory, start := putThrice(i)
		after := with(memory, 1, 1, 9)
		for c, was := range map[int]int64{1: 8, 2: 7, 3: 103} {
			seen := append(slices.Clone(start), div(was, 0), step(8), back(), step(7), div(9, 0), step(8))
			runs(t, "as it was", p, memory, []int{c}, 99, api.Shown{End: api.EndDone, Value: 9, Steps: 11, Seen: seen, Memory: after})
		}
		// A choice of more than the times that it was put, or of 0, takes the word, and is not ahead of time.
		for _, c := range []int{0, 4, 5, 1000, math.MaxInt} {
			seen := append(slices.Clone(start), div(9, 0), step(8))
			runs(t, "as it is", p, memory, []int{c}, 99, api.Shown{End: api.EndDone, Value: 9, Steps: 9, Seen: seen, Memory: after})
		}
	}
}

// What a word was may be the same as it is: that it is found is what counts.
func TestD2TheSameAsItIs(t *testing.T) {
	p, memory := sized([]api.Ins{loadK(1, 0, 0), putK(1, 0, 0), loadK(2, 0, 0), halt(2)}, 0)
	seen := []api.See{step(0), take(0), step(1), put(0), step(2), take(0), step(3), back(), step(3)}
	runs(t, "the same", p, memory, []int{5, 1}, 9, api.Shown{End: api.EndDone, Value: 100, Steps: 5, Seen: seen, Memory: memory})
}

// A word that another one was put beside was not put itself, also where an index is the same in another region.
func TestD2OtherWordsAreNotPut(t *testing.T) {
	for _, i := range []api.Ins{loadK(2, 0, 0), loadK(2, 1, 1), load(2, 0, 2, 0)} {
		p, memory := sized([]api.Ins{set(1, 7), putK(1, 1, 0), i, passes(4), halt(2)}, 1, 1, 1)
		got, e := Run(p, memory, []int{1, 1}, 99)
		want := memory[i.C][i.N]
		if e != api.OK || got.Value != want || got.Steps != 6 || got.Seen[6] != step(4) || got.Seen[7] != back() {
			t.Errorf("%+v: got %+v, %v", i, got, e)
		}
	}
}

// Only IIf, ILoad and ILoadK take choices: a choice that is left is for the IIf that stands behind all others.
func TestD2WhoTakesChoices(t *testing.T) {
	others := []api.Ins{
		set(1, 1), {Op: api.IMove, A: 2, B: 1}, {Op: api.IAdd, A: 2, B: 1, N: 1}, putAt(1, 0, 0, 1), putK(1, 0, 0),
		jump(1), {Op: api.IMask, A: 1, N: 2}, fence(), {Op: api.IOp + api.OpAdd, A: 1, B: 1, C: 1}, tells(1),
	}
	takers := []api.Ins{passes(1), stays(1), load(1, 0, 0, 0), loadK(1, 0, 1)}
	run := func(i api.Ins, script []int) api.Shown {
		p, memory := sized([]api.Ins{i, passes(3), halt(5), set(5, 3), halt(5)}, 1)
		got, e := Run(p, memory, script, 99)
		if e != api.OK || got.End != api.EndDone || got.Value != 0 {
			t.Errorf("%+v: script %v: got %+v, %v", i, script, got, e)
		}
		return got
	}
	for _, i := range others {
		if got := run(i, []int{1}); got.Steps != 5 || !slices.Contains(got.Seen, back()) {
			t.Errorf("%+v took a choice: %+v", i, got)
		}
	}
	for _, i := range takers {
		if got := run(i, []int{0, 1}); got.Steps != 5 || !slices.Contains(got.Seen, back()) {
			t.Errorf("%+v took no choice, or more: %+v", i, got)
		}
	}
}

// What was put ahead of time counts ahead of time, and not any more when it was taken back.
func TestD2PutAheadOfTimeAndTakenBack(t *testing.T) {
	p, memory := sized([]api.Ins{
		set(1, 7), putK(1, 0, 1), // the word 1 was 101
		stays(8),
		set(1, 8), putK(1, 0, 1), loadK(2, 0, 1), tells(2), fence(), // ahead of time
		loadK(2, 0, 1), tells(2), fence(),
		set(1, 9), putK(1, 0, 1), loadK(2, 0, 1), tells(2), halt(2),
	}, 1)
	ahead := func(is int64) []api.See {
		return []api.See{step(0), step(1), put(1), step(2), step(3), step(4), put(1), step(5), take(1), step(6), div(is, 0), step(7), back()}
	}
	// second has what is shown by the load behind, whose word is what was put first; third by the one behind the third put.
	second := func(was int64) []api.See {
		return []api.See{step(8), take(1), step(9), div(was, 0), step(10), back(), step(9), div(7, 0), step(10)}
	}
	plainSecond := []api.See{step(8), take(1), step(9), div(7, 0), step(10)}
	third := func(was int64) []api.See {
		return []api.See{step(11), step(12), put(1), step(13), take(1), step(14), div(was, 0), step(15), back(), step(14), div(9, 0), step(15)}
	}
	plainThird := []api.See{step(11), step(12), put(1), step(13), take(1), step(14), div(9, 0), step(15)}
	for _, c := range []struct {
		script []int
		steps  int
		seen   []api.See
	}{
		{[]int{1, 0, 0, 0}, 16, slices.Concat(ahead(8), plainSecond, plainThird)},
		{[]int{1, 1, 1, 1}, 20, slices.Concat(ahead(7), second(101), third(7))},
		{[]int{1, 2, 2, 2}, 18, slices.Concat(ahead(101), plainSecond, third(101))},
		{[]int{1, 3, 3, 3}, 16, slices.Concat(ahead(8), plainSecond, plainThird)},
	} {
		runs(t, "put ahead", p, memory, c.script, 99, api.Shown{End: api.EndDone, Value: 9, Steps: c.steps, Seen: c.seen, Memory: [][]int64{{100, 9}}})
	}
}

// Registers, words, what they were, and the next instruction are as with a choice of 0.
func TestD3ThePlaceToComeBackTo(t *testing.T) {
	var code []api.Ins
	var seen []api.See
	add := func(i api.Ins, shown ...api.See) {
		seen = append(append(seen, step(int64(len(code)))), shown...)
		code = append(code, i)
	}
	for r := range last + 1 {
		add(set(r, int64(r)))
	}
	add(putK(5, 1, 1), put(2))
	add(stays(24))
	for r := range last + 1 {
		add(set(r, -1)) // all of it ahead of time
	}
	add(putK(1, 0, 0), put(0))
	add(putK(1, 1, 1), put(2))
	seen = append(seen, back())
	for r := range last + 1 {
		add(tells(r), div(int64(r), 0))
	}
	add(loadK(1, 0, 0), take(0)) // was not put: the choice finds nothing
	add(tells(1), div(100, 0))
	add(loadK(2, 1, 1), take(2)) // was put once
	add(tells(2), div(102, 0))
	add(halt(2))
	seen = append(seen, back(), step(37), div(5, 0), step(38))
	p, memory := sized(code, 0, 1)
	want := api.Shown{End: api.EndDone, Value: 5, Steps: len(code) + 2, Seen: seen, Memory: with(memory, 1, 1, 5)}
	runs(t, "all of it", p, memory, []int{1, 1, 1}, 99, want)
}

// The place behind a load that took what a word was has the word itself in the register, also where the index was in it.
func TestD3ThePlaceBehindALoad(t *testing.T) {
	p, memory := sized([]api.Ins{
		set(1, 1), putAt(1, 1, 0, 0), load(1, 1, 0, 0), putAt(1, 0, 0, 2), tells(1), fence(), halt(1),
	}, 2)
	seen := []api.See{
		step(0), step(1), put(1), step(2), take(1), step(3), put(2), step(4), div(101, 0), step(5), back(),
		step(3), put(2), step(4), div(1, 0), step(5), step(6),
	}
	want := api.Shown{End: api.EndDone, Value: 1, Steps: 10, Seen: seen, Memory: [][]int64{{100, 1, 1, 103}}}
	runs(t, "into its index", p, memory, []int{1}, 99, want)
}

// A choice that is taken ahead of time neither moves the place to come back to, nor makes it last longer.
func TestD3AheadOfTimeAlready(t *testing.T) {
	code := []api.Ins{set(1, 7), putK(1, 0, 0), stays(15), passes(6), fence(), fence(), loadK(1, 0, 0), tells(1), stays(9)}
	for range 15 - len(code) {
		code = append(code, set(2, 1))
	}
	p, memory := sized(append(code, halt(1)), 0)
	start := []api.See{step(0), step(1), put(0), step(2), step(3), step(6), take(0), step(7)}
	end := []api.See{step(9), step(10), step(11), step(12), step(13), step(14), step(15), back(), step(15)}
	for _, c := range []struct {
		script []int
		is     int64
	}{
		{[]int{1, 1, 0, 0}, 7},
		{[]int{1, 1, 1, 0}, 100},
		{[]int{1, 2, 1, 1}, 100},
		{[]int{9, 1, 2, 1}, 7},
	} {
		seen := slices.Concat(start, []api.See{div(c.is, 0), step(8)}, end)
		runs(t, "already", p, memory, c.script, 99, api.Shown{End: api.EndDone, Value: 7, Steps: 15, Seen: seen, Memory: [][]int64{{7}}})
	}
}

// The window is counted from the choice that was taken first, however many are taken behind it.
func TestD3WindowOfTheFirstChoice(t *testing.T) {
	p, memory := sized([]api.Ins{stays(2), jump(0), halt(0)})
	for n := 1; n <= 9; n++ {
		// Each choice of 1 goes on to the jump, and so to the IIf again, until the 12th step behind the first one, which is an IIf.
		turns := min(n, api.Window/2)
		seen := slices.Repeat([]api.See{step(0), step(1)}, turns)
		seen = append(seen, step(0))
		steps := 2*turns + 2
		if n < api.Window/2 {
			seen = append(seen, step(2))
			steps++
		}
		seen = append(seen, back(), step(2))
		runs(t, "turns", p, memory, slices.Repeat([]int{1}, n), 99, api.Shown{End: api.EndDone, Steps: steps, Seen: seen})
	}
}

// notThere runs i ahead of time, and tells the registers 1 and 2 and the words 0, 2 and 5 behind it, still ahead of time.
func notThere(t *testing.T, name string, base int64, i api.Ins, script []int, shown api.See, told [5]int64) {
	t.Helper()
	p, memory := sized([]api.Ins{
		set(1, 55), set(2, base), stays(13), i, tells(1), tells(2),
		loadK(3, 0, 0), tells(3), loadK(3, 1, 0), tells(3), loadK(3, 2, 0), tells(3), fence(),
		halt(1),
	}, 1, 1, 2)
	seen := []api.See{
		step(0), step(1), step(2), step(3), shown, step(4), div(told[0], 0), step(5), div(told[1], 0),
		step(6), take(0), step(7), div(told[2], 0), step(8), take(2), step(9), div(told[3], 0), step(10), take(4), step(11), div(told[4], 0),
		step(12), back(), step(13),
	}
	runs(t, name, p, memory, append([]int{1}, script...), 99, api.Shown{End: api.EndDone, Value: 55, Steps: 14, Seen: seen, Memory: memory})
}

func TestD3AnotherRegionsWord(t *testing.T) {
	for number := range int64(8) {
		for c, start := range []int64{0, 2, 4} {
			index := number - start
			for _, base := range []int64{0, index, 7, least, greatest} {
				is := [5]int64{100 + number, base, 100, 102, 104}
				notThere(t, "taken", base, load(1, 2, c, index-base), nil, take(number), is)
				is[0] = 55
				switch number {
				case 0, 2, 4:
					is[2+number/2] = 55
				}
				notThere(t, "put", base, putAt(1, 2, c, index-base), nil, put(number), is)
			}
		}
	}
}

func TestD3NoWordAtAll(t *testing.T) {
	for c, start := range []int64{0, 2, 4} {
		for _, number := range []int64{-1, -2, 8, 9, 64, 383, 384, 1 << 32, 1<<32 + 1, least, greatest, least + 1, greatest - 1} {
			index := number - start // beyond 64 bits for some: the sum with start is the number again
			for _, base := range []int64{0, index, -9, least, greatest} {
				notThere(t, "taken", base, load(1, 2, c, index-base), nil, take(number), [5]int64{0, base, 100, 102, 104})
				notThere(t, "put", base, putAt(1, 2, c, index-base), nil, put(number), [5]int64{55, base, 100, 102, 104})
			}
		}
	}
}

// The index and the words ahead of its region, together, go beyond 64 bits.
func TestD3BeyondSixtyFourBits(t *testing.T) {
	told := [5]int64{0, greatest, 100, 102, 104}
	notThere(t, "above", greatest, load(1, 2, 1, 0), nil, take(least+1), told)
	notThere(t, "above", greatest, load(1, 2, 2, 0), nil, take(least+3), told)
	notThere(t, "above", greatest, load(1, 2, 2, -3), nil, take(least), told)
	notThere(t, "just not above", greatest, load(1, 2, 2, -4), nil, take(greatest), told)
	told[0] = 55
	notThere(t, "above, put", greatest, putAt(1, 2, 2, 0), nil, put(least+3), told)
	// The base and N together go beyond 64 bits, and mean a word again.
	told[0] = 101
	notThere(t, "another region's word", greatest, load(1, 2, 2, greatest-1), nil, take(1), told)
}

// Another region's word takes a choice, and is found by its number as it was.
func TestD3ChoicesOfAnotherRegionsWord(t *testing.T) {
	p, memory := sized([]api.Ins{
		set(1, 7), putK(1, 1, 1), stays(9),
		load(2, 0, 0, 3), tells(2), load(2, 0, 1, -1), tells(2), loadK(2, 1, 1), fence(),
		halt(1),
	}, 1, 1)
	start := []api.See{step(0), step(1), put(3), step(2), step(3), take(3), step(4)}
	end := []api.See{step(5), take(1), step(6), div(101, 0), step(7), take(3), step(8), back(), step(9)}
	for c, is := range map[int]int64{0: 7, 1: 103, 2: 7} {
		seen := slices.Concat(start, []api.See{div(is, 0)}, end)
		want := api.Shown{End: api.EndDone, Value: 7, Steps: 10, Seen: seen, Memory: with(memory, 1, 1, 7)}
		runs(t, "its choice", p, memory, []int{1, c}, 99, want)
	}
}

// A load that means no word takes no choice: the one that is left is for the load behind it.
func TestD3NoWordTakesNoChoice(t *testing.T) {
	for _, n := range []int64{-1, 4, least, greatest} {
		p, memory := sized([]api.Ins{
			set(1, 7), putK(1, 1, 1), stays(8),
			load(2, 0, 0, n), tells(2), loadK(2, 1, 1), tells(2), fence(),
			halt(1),
		}, 1, 1)
		seen := []api.See{
			step(0), step(1), put(3), step(2), step(3), take(n), step(4), div(0, 0),
			step(5), take(3), step(6), div(103, 0), step(7), back(), step(8),
		}
		want := api.Shown{End: api.EndDone, Value: 7, Steps: 9, Seen: seen, Memory: with(memory, 1, 1, 7)}
		runs(t, "no choice", p, memory, []int{1, 1, 0}, 99, want)
	}
}

// What is put to another region's word ahead of time is found there, and that it was put counts ahead of time.
func TestD3PutToAnotherRegionsWord(t *testing.T) {
	p, memory := sized([]api.Ins{
		set(1, 7), stays(9),
		putAt(1, 0, 0, 2), putAt(1, 0, 1, 99), loadK(2, 1, 0), tells(2), load(2, 0, 0, 2), tells(2), fence(),
		loadK(2, 1, 0), halt(2),
	}, 1, 1)
	start := []api.See{step(0), step(1), step(2), put(2), step(3), put(101), step(4), take(2), step(5)}
	for _, c := range []struct {
		script []int
		a, b   int64
	}{
		{[]int{1, 0, 0, 1}, 7, 7}, {[]int{1, 1, 0, 1}, 102, 7}, {[]int{1, 0, 1, 1}, 7, 102}, {[]int{1, 2, 1, 1}, 7, 102},
	} {
		seen := slices.Concat(start, []api.See{div(c.a, 0), step(6), take(2), step(7), div(c.b, 0), step(8), back(), step(9), take(2), step(10)})
		runs(t, "put elsewhere", p, memory, c.script, 99, api.Shown{End: api.EndDone, Value: 102, Steps: 11, Seen: seen, Memory: memory})
	}
}

// A word that is not there ends a run that is not ahead of time, whatever the script, also when it was ahead of time.
func TestD3NotThereWhenNotAhead(t *testing.T) {
	for _, i := range []api.Ins{load(1, 0, 0, 2), load(1, 0, 0, -1), putAt(1, 0, 1, -1), putAt(1, 0, 1, greatest)} {
		p, memory := sized([]api.Ins{i, halt(0)}, 1, 1)
		runs(t, "at once", p, memory, []int{1, 1}, 99, api.Shown{End: api.EndFault, Steps: 1, Seen: []api.See{step(0)}, Memory: memory})
		p.Code = []api.Ins{stays(3), fence(), halt(0), i, halt(0)}
		seen := []api.See{step(0), step(1), back(), step(3)}
		runs(t, "taken back", p, memory, []int{1, 1}, 99, api.Shown{End: api.EndFault, Steps: 3, Seen: seen, Memory: memory})
	}
}

func TestD4BehindFenceAndHalt(t *testing.T) {
	for _, i := range []api.Ins{fence(), halt(1)} {
		p, memory := sized([]api.Ins{set(1, 4), stays(5), set(1, 8), i, set(1, 9), halt(1)})
		seen := []api.See{step(0), step(1), step(2), step(3), back(), step(5)}
		done := api.Shown{End: api.EndDone, Value: 4, Steps: 5, Seen: seen}
		runs(t, "taken back", p, memory, []int{1}, 99, done)
		runs(t, "taken back", p, memory, []int{1}, 5, done)
		// The last step that there is fuel for takes back, too; one less does not.
		runs(t, "the last step", p, memory, []int{1}, 4, api.Shown{End: api.EndFuel, Steps: 4, Seen: seen[:5]})
		runs(t, "ahead still", p, memory, []int{1}, 3, api.Shown{End: api.EndFuel, Steps: 3, Seen: seen[:3]})
		runs(t, "the choice", p, memory, []int{1}, 2, api.Shown{End: api.EndFuel, Steps: 2, Seen: seen[:2]})
	}
}

// A fence or a halt that is not ahead of time takes nothing back.
func TestD4FenceAndHaltNotAhead(t *testing.T) {
	p, memory := sized([]api.Ins{fence(), passes(3), fence(), halt(0)})
	runs(t, "not ahead", p, memory, nil, 99, api.Shown{End: api.EndDone, Steps: 4, Seen: []api.See{step(0), step(1), step(2), step(3)}})
	seen := []api.See{step(0), step(1), step(3), back(), step(2), step(3)}
	runs(t, "once", p, memory, []int{2}, 99, api.Shown{End: api.EndDone, Steps: 5, Seen: seen})
}

// Just the Window-th step behind the choice is the last one ahead of time, of an IIf and of a load.
func TestD4Window(t *testing.T) {
	for _, first := range []api.Ins{stays(2), loadK(2, 0, 0)} {
		code := []api.Ins{putK(2, 0, 0), first}
		for r := range int64(20) {
			code = append(code, set(1, r))
		}
		p, memory := sized(append(code, halt(1)), 0)
		seen := []api.See{step(0), put(0), step(1)}
		if first.Op == api.ILoadK {
			seen = append(seen, take(0))
		}
		start := len(seen)
		for at := range int64(api.Window) {
			seen = append(seen, step(2+at))
		}
		seen = append(seen, back())
		for at := range int64(21) {
			seen = append(seen, step(2+at))
		}
		zero := [][]int64{{0}}
		done := api.Shown{End: api.EndDone, Value: 19, Steps: 2 + api.Window + 21, Seen: seen, Memory: zero}
		runs(t, "window", p, memory, []int{1}, 99, done)
		for ahead := range api.Window {
			runs(t, "within", p, memory, []int{1}, 2+ahead, api.Shown{Steps: 2 + ahead, Seen: seen[:start+ahead], Memory: zero})
		}
		full := api.Shown{Steps: 2 + api.Window, Seen: seen[:start+api.Window+1], Memory: zero}
		runs(t, "its last step", p, memory, []int{1}, 2+api.Window, full)
		full.Steps++
		full.Seen = seen[:start+api.Window+2]
		runs(t, "the step behind it", p, memory, []int{1}, 3+api.Window, full)
	}
}

// A fence as the Window-th step takes back once; a second guess has a window of its own.
func TestD4WindowEndsOnce(t *testing.T) {
	for _, i := range []api.Ins{fence(), halt(0), stays(0), load(1, 0, 0, greatest)} {
		code := slices.Repeat([]api.Ins{set(1, 1)}, api.Window+1)
		code[0], code[api.Window] = passes(1), i
		p, memory := sized(append(code, halt(0)), 0)
		seen := []api.See{step(0)}
		for at := 1; at <= api.Window; at++ {
			seen = append(seen, step(int64(at)))
		}
		if i.Op == api.ILoad {
			seen = append(seen, take(greatest))
		}
		seen = append(seen, back(), step(1))
		runs(t, "once", p, memory, []int{1, 1}, api.Window+2, api.Shown{Steps: api.Window + 2, Seen: seen, Memory: memory})
	}
	// Ahead of time the loop goes on: an IIf and a jump in turn, and six choices of 0.
	p, memory := sized([]api.Ins{passes(0), jump(0)})
	once := append([]api.See{step(0)}, slices.Repeat([]api.See{step(0), step(1)}, api.Window/2)...)
	once = append(once, back(), step(1))
	script := []int{1, 0, 0, 0, 0, 0, 0, 1}
	steps := 2 * (api.Window + 2)
	runs(t, "twice", p, memory, script, steps, api.Shown{Steps: steps, Seen: slices.Repeat(once, 2)})
}

// Where no instruction is left it is taken back only with fuel, and that is no step.
func TestD4NoInstructionLeft(t *testing.T) {
	p, memory := sized([]api.Ins{jump(3), fence(), halt(1), putK(1, 0, 0), stays(2)}, 0)
	seen := []api.See{step(0), step(3), put(0), step(4), back(), step(2)}
	zero := [][]int64{{0}}
	runs(t, "with fuel", p, memory, []int{1}, 99, api.Shown{End: api.EndDone, Steps: 4, Seen: seen, Memory: zero})
	runs(t, "with fuel for one", p, memory, []int{1}, 4, api.Shown{End: api.EndDone, Steps: 4, Seen: seen, Memory: zero})
	runs(t, "without", p, memory, []int{1}, 3, api.Shown{End: api.EndFuel, Steps: 3, Seen: seen[:4], Memory: zero})

	// A step ahead of time that is the last of the program.
	p.Code = append(slices.Clone(p.Code), set(1, 5))
	seen = []api.See{step(0), step(3), put(0), step(4), step(5), back(), step(2)}
	runs(t, "with fuel", p, memory, []int{1}, 5, api.Shown{End: api.EndDone, Steps: 5, Seen: seen, Memory: zero})
	runs(t, "without", p, memory, []int{1}, 4, api.Shown{End: api.EndFuel, Steps: 4, Seen: seen[:5], Memory: zero})

	// The place to come back to has no instruction either.
	p.Code = []api.Ins{putK(1, 0, 0), loadK(1, 0, 0)}
	seen = []api.See{step(0), put(0), step(1), take(0), back()}
	runs(t, "none there either", p, memory, []int{1}, 3, api.Shown{End: api.EndFault, Steps: 2, Seen: seen, Memory: zero})
	runs(t, "none there either", p, memory, []int{1}, 2, api.Shown{End: api.EndFuel, Steps: 2, Seen: seen[:4], Memory: zero})
	runs(t, "not ahead", p, memory, nil, 3, api.Shown{End: api.EndFault, Steps: 2, Seen: seen[:4], Memory: zero})
}

// A step that ends it, and behind which no instruction is left, takes back as part of the step, once, with fuel or without.
func TestD4LastStepAndNoInstructionLeft(t *testing.T) {
	for _, i := range []api.Ins{fence(), halt(0)} {
		p, memory := sized([]api.Ins{jump(2), halt(3), stays(1), i})
		seen := []api.See{step(0), step(2), step(3), back(), step(1)}
		runs(t, "with fuel", p, memory, []int{1}, 9, api.Shown{End: api.EndDone, Steps: 4, Seen: seen})
		runs(t, "without", p, memory, []int{1}, 3, api.Shown{End: api.EndFuel, Steps: 3, Seen: seen[:4]})
	}
	code := append([]api.Ins{jump(2), halt(3), stays(1)}, slices.Repeat([]api.Ins{set(3, 1)}, api.Window)...)
	p, memory := sized(code)
	seen := []api.See{step(0), step(2)}
	for at := range int64(api.Window) {
		seen = append(seen, step(3+at))
	}
	seen = append(seen, back(), step(1))
	runs(t, "window, with fuel", p, memory, []int{1}, 99, api.Shown{End: api.EndDone, Steps: 3 + api.Window, Seen: seen})
	runs(t, "window, without", p, memory, []int{1}, 2+api.Window, api.Shown{Steps: 2 + api.Window, Seen: seen[:len(seen)-1]})
	p.Code = code[:len(code)-1]
	seen = slices.Delete(seen, len(seen)-3, len(seen)-2)
	runs(t, "one less, with fuel", p, memory, []int{1}, 99, api.Shown{End: api.EndDone, Steps: 2 + api.Window, Seen: seen})
	runs(t, "one less, without", p, memory, []int{1}, 1+api.Window, api.Shown{Steps: 1 + api.Window, Seen: seen[:len(seen)-2]})
}

// Memory is that of the place to come back to, at each end that is ahead of time; what was put ahead of the choice stays.
func TestD4MemoryAtAnEndAheadOfTime(t *testing.T) {
	p, memory := sized([]api.Ins{
		set(1, 7), putK(1, 0, 0), stays(7), putK(1, 0, 1), set(1, 8), putK(1, 0, 0), putAt(1, 0, 0, 3), halt(1),
	}, 1, 1)
	seen := []api.See{
		step(0), step(1), put(0), step(2), step(3), put(1), step(4), step(5), put(0), step(6), put(3), step(7), back(), step(7),
	}
	after := with(memory, 0, 0, 7)
	shown := map[int]int{2: 3, 3: 4, 4: 6, 5: 7, 6: 9, 7: 11, 8: 13}
	for fuel, n := range shown {
		runs(t, "an end", p, memory, []int{1}, fuel, api.Shown{Steps: fuel, Seen: seen[:n], Memory: after})
	}
	runs(t, "done", p, memory, []int{1}, 9, api.Shown{End: api.EndDone, Value: 7, Steps: 9, Seen: seen, Memory: after})
}

// What is shown stands in the order of steps; divisions ahead of time are shown as always.
func TestD4OrderOfWhatIsShown(t *testing.T) {
	p, memory := sized([]api.Ins{
		set(1, 6), putK(1, 1, 0), loadK(2, 1, 0), {Op: api.IOp + api.OpDiv, A: 3, B: 2, C: 1}, load(4, 3, 0, 0), putAt(4, 3, 0, 1),
		passes(4), fence(), halt(3),
	}, 1, 0)
	seen := []api.See{
		step(0), step(1), put(2), step(2), take(2), step(3), div(102, 6), step(4), take(17), step(5), put(18), step(6),
		step(4), take(17), step(5), put(18), step(6), step(7), back(),
		step(3), div(6, 6), step(4), take(1), step(5),
	}
	runs(t, "order", p, memory, []int{1, 1}, 99, api.Shown{End: api.EndFault, Steps: 14, Seen: seen, Memory: with(memory, 1, 0, 6)})
}

// Answers share no memory with what was handed in, nor with each other.
func TestD4NewMemory(t *testing.T) {
	backing := []int64{1, 2, 3, 4, 5, 6, 7, 8}
	memory := [][]int64{backing[0:2], backing[0:4], backing[1:2]}
	p, _ := sized([]api.Ins{putK(0, 1, 1), passes(3), halt(0), putK(0, 1, 2), putK(0, 2, 0), fence()}, 1, 2, 0)
	want := [][]int64{{1, 2}, {1, 0, 3, 4}, {2}}
	seen := []api.See{step(0), put(3), step(1), step(3), put(4), step(4), put(6), step(5), back(), step(2)}
	runs(t, "one backing", p, memory, []int{1}, 9, api.Shown{End: api.EndDone, Steps: 6, Seen: seen, Memory: want})
	runs(t, "one backing, ahead", p, memory, []int{1}, 4, api.Shown{Steps: 4, Seen: seen[:7], Memory: want})
	if !slices.Equal(backing, []int64{1, 2, 3, 4, 5, 6, 7, 8}) {
		t.Errorf("what lies behind a list was written: %v", backing)
	}
	got, _ := Run(p, memory, []int{1}, 9)
	again, _ := Run(p, memory, []int{1}, 9)
	for c := range got.Memory {
		whole := got.Memory[c][:cap(got.Memory[c])]
		for n := range whole {
			whole[n] = -99
		}
		for other := c + 1; other < len(want); other++ {
			if !slices.Equal(got.Memory[other], want[other]) {
				t.Errorf("lists %d and %d share memory", c, other)
			}
		}
	}
	got.Seen[0] = api.See{}
	if !sameMemory(again.Memory, want) || !slices.Equal(again.Seen, seen) || backing[0] != 1 {
		t.Errorf("answers share memory: %+v, %v", again, backing)
	}
}

// As many steps as may be, with as many wrong guesses as may be, and a word put half the time.
func TestD4MaxFuelAndMaxScript(t *testing.T) {
	p, memory := sized([]api.Ins{{Op: api.IAdd, A: 1, B: 1, N: 1}, putK(1, 0, 0), loadK(2, 0, 0), jump(0)}, 0)
	for _, c := range []int{1, 2, api.MaxFuel} {
		script := slices.Repeat([]int{c}, api.MaxScript)
		want := runPlain(p, memory, script, api.MaxFuel)
		runs(t, "most", p, memory, script, api.MaxFuel, want)
	}
}

func TestD5ZerosAndNone(t *testing.T) {
	for _, c := range drawnCases(5, 3000) {
		want, e := seq.Run(c.p, c.memory, c.fuel)
		if e != api.OK {
			t.Fatal(e)
		}
		for _, script := range [][]int{nil, {}, {0}, make([]int, 7), make([]int, api.MaxScript)} {
			runs(t, "zeros", c.p, c.memory, script, c.fuel, want)
		}
	}
}
