package fence

import (
	"slices"
	"strconv"
	"testing"

	"evenkeel/api"
	"evenkeel/check"
)

// The programs here have regions of 4 words: open has the words 0 to 3, hidden 4 to 7.
// The register 1 is an index, 2 what it is held against, 3 what is loaded, 4 secret.

// far is the index, from open on, of the word of hidden whose words differ in the memories here.
const far = 6

// apart gives two memories with the same public words, of which the first word of open is first.
func apart(first int64, one, two int64) (a, b [][]int64) {
	return [][]int64{{first, 2, 3, 0}, {5, 6, one, 8}}, [][]int64{{first, 2, 3, 0}, {5, 6, two, 8}}
}

// guards gives for each condition, either way round, what lets only an index below 4 on to the instruction behind it, else to out.
// It is to stand at the number at.
func guards(at, out int64) map[string][]api.Ins {
	bound := set(2, 3)
	return map[string][]api.Ins{
		"not less":            {bound, when(1, api.CondMost, 2, out)},
		"less":                {bound, when(1, api.CondLess, 2, at+3), jump(out)},
		"less, the other way": {bound, when(2, api.CondLess, 1, out)},
		"most, the other way": {bound, when(2, api.CondMost, 1, at+3), jump(out)},
		"the same":            {bound, when(1, api.CondSame, 2, at+3), jump(out)},
		"another":             {bound, when(1, api.CondOther, 2, out)},
		"another, behind one": {bound, when(1, api.CondMost, 2, out), when(1, api.CondOther, 2, at+3)},
	}
}

// showers gives what lets who watches see something of the register 3, without fault as long as it is not secret.
func showers(out int64) map[string][]api.Ins {
	return map[string][]api.Ins{
		"an IIf":             {when(3, api.CondSame, 0, out)},
		"an IIf as B":        {when(0, api.CondLess, 3, out)},
		"what is divided":    {op(api.OpDiv, 5, 3, 2)},
		"by what":            {op(api.OpMod, 5, 2, 3)},
		"a load":             {mask(3, 4), load(5, 3, open, 0)},
		"a put":              {mask(3, 4), put(5, 3, hidden, 0)},
		"a sum as an index":  {mask(3, 2), load(5, 3, hidden, 1)},
		"a word":             {putK(3, open, 1), loadK(5, open, 1), op(api.OpDiv, 5, 5, 2)},
		"a guarded load":     {when(3, api.CondMost, 2, out), load(5, 3, open, 0)},
		"a guarded put":      {when(3, api.CondMost, 2, out), put(5, 3, open, 0)},
		"what is made of it": {op(api.OpShl, 5, 3, 3), op(api.OpXor, 5, 5, 2), op(api.OpMod, 5, 5, 5)},
	}
}

// A leak is a program without fault that tells a secret by what it does ahead of time.
type leak struct {
	name string
	p    api.Program
}

// end is where the programs of loads and puts end.
const end = 20

// filled has code, and what does nothing up to its end.
func filled(code ...api.Ins) api.Program {
	for len(code) < end {
		code = append(code, set(6, 1))
	}
	return program(2, append(code, halt(0))...)
}

// loads has programs that load past a bound, and then show what they loaded; head stands where the bound lets them on.
func loads(head ...api.Ins) []leak {
	var out []leak
	for name, guard := range guards(1, end) {
		for how, show := range showers(end) {
			p := filled(slices.Concat([]api.Ins{loadK(1, open, 0)}, guard, head, []api.Ins{load(3, 1, open, 0)}, show)...)
			out = append(out, leak{"load, " + name + ", shown by " + how, p})
		}
	}
	return out
}

// puts has programs that put a secret past a bound of the secret region, onto a public word, and then show that word.
// The index is below 0 there: it is a great one from 0 on.
func puts(head ...api.Ins) []leak {
	var out []leak
	for name, guard := range guards(2, end) {
		for how, show := range showers(end) {
			first := []api.Ins{loadK(4, hidden, 2), loadK(1, open, 0)}
			p := filled(slices.Concat(first, guard, head, []api.Ins{put(4, 1, hidden, 0), loadK(3, open, 1)}, show)...)
			out = append(out, leak{"put, " + name + ", shown by " + how, p})
		}
	}
	return out
}

// holdsBack sees that some of the scripts makes p tell the memories apart, and none makes the program that is made of it do so.
func holdsBack(t *testing.T, l leak, one, two [][]int64, scripts [][]int) {
	t.Helper()
	if fault := check.Check(l.p); fault.Code != api.OK {
		t.Fatalf("%s: %v", l.name, fault)
	}
	h := made(t, l.name, l.p)
	told := 0
	for _, script := range scripts {
		tellsNothing(t, l.name, l.p, h, one, two, script, 200)
		if tells(t, l.p, one, two, script, 200) {
			told++
		}
	}
	if told == 0 {
		t.Errorf("%s: tells nothing as it is, so that nothing was tried", l.name)
	}
}

func TestJ3LoadsPastABound(t *testing.T) {
	one, two := apart(far, 0, 1)
	for _, l := range loads() {
		holdsBack(t, l, one, two, scripts(6, 3))
	}
}

func TestJ3PutsPastABound(t *testing.T) {
	one, two := apart(-3, 0, 1) // 3 ahead of hidden is the word 1 of open
	for _, l := range puts() {
		holdsBack(t, l, one, two, scripts(6, 3))
	}
}

// Another instruction than the one that goes past the bound stands where an IIf leads, and right behind one: each kind of them.
func TestJ3WhatStandsBehindAnIf(t *testing.T) {
	for name, head := range map[string]api.Ins{
		"ILoad":   load(5, 0, open, 2),
		"ILoadK":  loadK(5, open, 2),
		"IPut":    put(0, 0, open, 2),
		"IPutK":   putK(0, open, 2),
		"a put":   put(4, 0, hidden, 1),
		"IIf":     when(0, api.CondOther, 0, end),
		"a loop":  when(0, api.CondOther, 0, 0),
		"IMask":   mask(5, 4),
		"ISet":    set(5, 9),
		"IMove":   move(5, 1),
		"IAdd":    add(5, 1, -1),
		"IOp":     op(api.OpXor, 5, 1, 2),
		"divided": op(api.OpDiv, 5, 1, 2),
	} {
		one, two := apart(far, 0, 1)
		for _, l := range loads(head) {
			holdsBack(t, leak{name + ", " + l.name, l.p}, one, two, scripts(5, 2))
		}
		one, two = apart(-3, 0, 1)
		for _, l := range puts(head) {
			holdsBack(t, leak{name + ", " + l.name, l.p}, one, two, scripts(6, 2))
		}
	}
}

// Fences of a program's own, wherever they stand, do not take the place of one that is needed elsewhere.
func TestJ3FencesOfItsOwn(t *testing.T) {
	told := 0
	try := func(l leak, one, two [][]int64) {
		for at := range 9 {
			p := with(l.p, at, fence())
			h := made(t, l.name, p)
			for _, script := range scripts(5, 2) {
				tellsNothing(t, l.name, p, h, one, two, script, 99)
				if tells(t, p, one, two, script, 99) {
					told++
				}
			}
		}
	}
	one, two := apart(far, 0, 1)
	for _, l := range loads() {
		try(l, one, two)
	}
	one, two = apart(-3, 0, 1)
	for _, l := range puts() {
		try(l, one, two)
	}
	if told < 1000 {
		t.Errorf("only %d of them tell as they are", told)
	}
}

// The chapter's example: the load that is guessed is not done, and the IFence of either way is the only step ahead of time.
func TestJ3TakenBackAtOnce(t *testing.T) {
	p := program(2, loadK(1, open, 0), set(2, 3), when(2, api.CondLess, 1, 5), load(3, 1, open, 0), op(api.OpDiv, 4, 3, 2), halt(1))
	for _, first := range []int64{1, far} {
		one, two := apart(first, 0, 1)
		h := made(t, "the example", p)
		tellsNothing(t, "the example", p, h, one, two, []int{0, 1}, 99)
		shown := runAhead(t, h, one, []int{0, 1}, 99)
		at := slices.Index(shown.Seen, api.See{Kind: api.SeeBack})
		if at < 2 {
			t.Fatalf("the word %d: nothing is taken back: %v", first, shown.Seen)
		}
		guess, last := shown.Seen[at-2], shown.Seen[at-1]
		if guess.Kind != api.SeeStep || h.Code[guess.A].Op != api.IIf || last.Kind != api.SeeStep || h.Code[last.A] != fence() {
			t.Errorf("the word %d: %v", first, shown.Seen)
		}
	}
}

// All fuels, so that some runs end ahead of time.
func TestJ3EndsAheadOfTime(t *testing.T) {
	one, two := apart(far, 0, 1)
	before, after := apart(-3, 0, 1)
	try := func(l leak, one, two [][]int64) {
		h := made(t, l.name, l.p)
		for _, script := range scripts(4, 2) {
			for fuel := range 50 {
				tellsNothing(t, l.name, l.p, h, one, two, script, fuel)
			}
		}
	}
	for _, l := range loads() {
		try(l, one, two)
	}
	for _, l := range puts() {
		try(l, before, after)
	}
}

// A public region of each Log, with a secret one of each Log behind it.
func TestJ3RegionsOfEachLog(t *testing.T) {
	for log := range api.MaxLog + 1 {
		words := int64(1) << log
		for other := range api.MaxLog + 1 {
			p := api.Program{
				Regions: []api.Region{{Log: log}, {Log: other, Secret: true}, {Log: 0}},
				Code: []api.Ins{
					loadK(1, 2, 0), set(2, words-1), when(2, api.CondLess, 1, 5),
					load(3, 1, 0, 0), op(api.OpDiv, 3, 3, 2), halt(0),
				},
			}
			// The first word behind the region, and the last one of the secret region.
			for _, index := range []int64{words, words + 1<<other - 1} {
				one, two := counted(p, 50), counted(p, 50)
				one[2][0], two[2][0] = index, index
				two[1][index-words] = 7
				holdsBack(t, leak{"Log " + strconv.Itoa(log), p}, one, two, scripts(2, 2))
			}
		}
	}
}

// Indexes that are far off, below 0, or go beyond 64 bits with N.
func TestJ3GreatIndexes(t *testing.T) {
	for _, index := range []int64{far - 1, -1, -2, -64, least, least + 1, greatest, greatest - 1, 1 << 32, 1<<32 + far} {
		for n := range int64(2) {
			for _, i := range []api.Ins{load(3, 1, open, n), put(4, 1, hidden, n)} {
				p := program(2, loadK(4, hidden, 2), loadK(1, open, 0), set(2, 1), when(2, api.CondLess, 1, 8),
					i, op(api.OpDiv, 5, 3, 2), loadK(3, open, 1), op(api.OpDiv, 5, 3, 2), halt(0))
				h := made(t, "a great index", p)
				one, two := apart(index, 0, 1)
				for _, script := range scripts(5, 2) {
					tellsNothing(t, "a great index", p, h, one, two, script, 99)
				}
				doesTheSame(t, "a great index", p, h, one, 99)
			}
		}
	}
}

// An N above 0 is a part of the index.
func TestJ3AnIndexWithN(t *testing.T) {
	for n := int64(1); n < 3; n++ {
		p := api.Program{
			Regions: []api.Region{{Log: 3}, {Log: 3, Secret: true}},
			Code: []api.Ins{
				loadK(1, open, 0), set(2, 3), when(2, api.CondLess, 1, 5),
				load(3, 1, open, n), op(api.OpDiv, 3, 3, 2), halt(0),
			},
		}
		for _, index := range []int64{8 - n, 8, 15 - n} {
			one, two := counted(p, 50), counted(p, 60)
			two[open] = slices.Clone(one[open])
			one[open][0], two[open][0] = index, index
			holdsBack(t, leak{"N " + strconv.FormatInt(n, 10), p}, one, two, scripts(3, 2))
		}
	}
}

// What is loaded takes the place of its index.
func TestJ3IntoItsIndex(t *testing.T) {
	one, two := apart(far, 0, 1)
	p := program(2, loadK(1, open, 0), set(2, 3), when(2, api.CondLess, 1, 5), load(1, 1, open, 0), op(api.OpDiv, 1, 1, 2), halt(0))
	holdsBack(t, leak{"into its index", p}, one, two, scripts(3, 2))
	again := program(2, loadK(1, open, 0), set(2, 3), when(2, api.CondLess, 1, 7),
		load(1, 1, open, 0), when(2, api.CondLess, 1, 7), load(1, 1, open, 0), op(api.OpDiv, 1, 1, 2), halt(0))
	holdsBack(t, leak{"into its index, twice", again}, one, two, scripts(5, 2))
}

// Only if all of several guesses in a row are wrong, the load is come to.
func TestJ3SeveralWrongGuesses(t *testing.T) {
	one, two := apart(far, 0, 1)
	for n := 1; n <= 7; n++ {
		code := []api.Ins{loadK(1, open, 0), set(2, 3)}
		out := int64(n + 4)
		for range n {
			code = append(code, when(2, api.CondLess, 1, out))
		}
		code = append(code, load(3, 1, open, 0), op(api.OpDiv, 3, 3, 2), halt(0))
		l := leak{strconv.Itoa(n) + " guesses", program(2, code...)}
		holdsBack(t, l, one, two, scripts(n+1, 2))
		// The first choice is the ILoadK's, which finds nothing, so that the last IIf goes on as it should.
		if tells(t, l.p, one, two, slices.Repeat([]int{1}, n), 99) {
			t.Errorf("%s: one less is enough", l.name)
		}
	}
}

// IIfs that lead to IIfs: only if all of them are guessed wrong, the load is come to.
func TestJ3IfsThatLeadToIfs(t *testing.T) {
	one, two := apart(far, 0, 1)
	for n := 1; n <= 7; n++ {
		code := []api.Ins{loadK(1, open, 0), set(2, 3)}
		out := int64(2*n + 4)
		for range n {
			code = append(code, when(1, api.CondLess, 2, int64(len(code))+2), jump(out))
		}
		code = append(code, load(3, 1, open, 0), op(api.OpDiv, 3, 3, 2), halt(0))
		holdsBack(t, leak{strconv.Itoa(n) + " IIfs", program(2, code...)}, one, two, scripts(n+1, 2))
	}
}

// Whichever of the IIfs is guessed wrong leads to the load.
func TestJ3SeveralIfsToOneInstruction(t *testing.T) {
	one, two := apart(far, 0, 1)
	p := program(2, loadK(1, open, 0), set(2, 3), when(1, api.CondLess, 2, 6), when(2, api.CondMost, 1, 6), when(1, api.CondSame, 2, 6), halt(0),
		load(3, 1, open, 0), op(api.OpDiv, 3, 3, 2), halt(0))
	for n := range 3 {
		script := make([]int, n+2)
		script[n+1] = 1
		holdsBack(t, leak{"the IIf " + strconv.Itoa(n), p}, one, two, [][]int{script})
	}
	holdsBack(t, leak{"all", p}, one, two, scripts(5, 2))
}

// The load stands behind an IIf, or where it leads: back, at the first instruction, by the last one, behind an IIf that leads to itself.
func TestJ3WhereIfsLead(t *testing.T) {
	one, two := apart(far, 0, 1)
	taken, bound, shown := loadK(1, open, 0), set(2, 3), op(api.OpDiv, 3, 3, 2)
	past, past2 := load(3, 1, open, 0), load(1, 1, open, 0)
	less, most := api.CondLess, api.CondMost
	for name, p := range map[string]api.Program{
		"to the first one":       program(2, past, shown, taken, bound, when(1, less, 2, 0), halt(0)),
		"to the first, an IIf":   program(2, when(0, api.CondOther, 0, 2), past, shown, taken, bound, when(1, less, 2, 0), halt(0)),
		"back":                   program(2, jump(4), past, shown, halt(0), taken, bound, when(1, less, 2, 1), halt(0)),
		"to the last one":        program(2, taken, bound, when(1, less, 2, 7), halt(0), past, shown, halt(0), jump(4)),
		"forward":                program(2, taken, bound, when(1, less, 2, 4), halt(0), past, shown, halt(0)),
		"to itself":              program(2, taken, bound, when(2, less, 1, 2), past, shown, halt(0)),
		"to itself, as the last": program(2, jump(3), past, halt(0), taken, bound, when(1, most, 2, 5), jump(7), past, shown, jump(1)),
		"by a jump":              program(2, taken, bound, when(1, less, 2, 4), halt(0), jump(6), halt(0), past, shown, halt(0)),
		"by jumps back":          program(2, jump(4), past, shown, halt(0), taken, bound, when(1, less, 2, 8), halt(0), jump(9), jump(1)),
		"into its index":         program(2, taken, bound, when(1, less, 2, 4), halt(0), past2, op(api.OpDiv, 3, 1, 2), halt(0)),
	} {
		holdsBack(t, leak{name, p}, one, two, scripts(6, 2))
	}
	// Both ways are the same one there, so that nothing is told even as it is.
	p := program(2, taken, mask(1, 4), bound, when(1, less, 2, 4), past, shown, halt(0))
	h := made(t, "to the next one", p)
	for _, script := range scripts(5, 3) {
		tellsNothing(t, "to the next one", p, h, one, two, script, 99)
	}
}

// As many steps behind the guess as there may be, and more: what is loaded is shown by the step pad + 2.
func TestJ3UpToTheWindowAndBeyond(t *testing.T) {
	one, two := apart(far, 0, 1)
	for pad := range api.Window + 4 {
		code := []api.Ins{loadK(1, open, 0), set(2, 3), when(2, api.CondLess, 1, int64(pad)+5)}
		code = append(code, slices.Repeat([]api.Ins{add(6, 6, 1)}, pad)...)
		code = append(code, load(3, 1, open, 0), op(api.OpDiv, 3, 3, 2), halt(0))
		p := program(2, code...)
		h := made(t, "padded", p)
		for _, script := range scripts(3, 3) {
			tellsNothing(t, "padded", p, h, one, two, script, 99)
		}
		if got := tells(t, p, one, two, []int{0, 1}, 99); got != (pad+2 <= api.Window) {
			t.Errorf("%d steps between: tells %v", pad, got)
		}
	}
}

// was has three numbers put onto one word of open, so that the index is far only as it was 2 puts ago, and no guess of an IIf alone is enough.
func was(taker api.Ins) api.Program {
	return program(2, set(1, far), putK(1, open, 1), set(1, 9), putK(1, open, 1), set(1, 2), put(1, 0, open, 1),
		taker, set(2, 3), when(2, api.CondLess, 1, 11), load(3, 1, open, 0), op(api.OpDiv, 3, 3, 2), halt(0))
}

func TestJ3WordsAsTheyWereAndWrongGuesses(t *testing.T) {
	one, two := apart(1, 0, 1)
	for name, taker := range map[string]api.Ins{"ILoadK": loadK(1, open, 1), "ILoad": load(1, 0, open, 1)} {
		l := leak{name, was(taker)}
		holdsBack(t, l, one, two, scripts(4, 5))
		for _, script := range scripts(4, 5) {
			// 9 is beyond all words; 2 is what the index is. Only as far the IIf's guess lets it on.
			if got := tells(t, l.p, one, two, script, 99); got != (script[0] == 2 && script[1] > 0) {
				t.Errorf("%s: script %v: tells %v as it is", name, script, got)
			}
		}
	}
}

// The index is far only as it was, and the load is let on only by a wrong guess so many steps behind that: it is shown by the step pad + 3.
func TestJ3WordsAsTheyWereUpToTheWindowAndBeyond(t *testing.T) {
	one, two := apart(1, 0, 1)
	for pad := range api.Window + 4 {
		code := []api.Ins{set(1, far), putK(1, open, 1), set(1, 2), putK(1, open, 1), set(2, 3), loadK(1, open, 1)}
		code = append(code, slices.Repeat([]api.Ins{add(6, 6, 1)}, pad)...)
		code = append(code, when(2, api.CondLess, 1, int64(len(code))+3), load(3, 1, open, 0), op(api.OpDiv, 3, 3, 2), halt(0))
		p := program(2, code...)
		h := made(t, "padded", p)
		for _, script := range scripts(4, 3) {
			tellsNothing(t, "padded", p, h, one, two, script, 99)
		}
		if got := tells(t, p, one, two, []int{1, 1}, 99); got != (pad+3 <= api.Window) {
			t.Errorf("%d steps between: tells %v", pad, got)
		}
	}
}

// Words of the secret region are put, and taken as they were, and put again: all of it stays secret.
func TestJ3SecretWordsAsTheyWere(t *testing.T) {
	one, two := apart(-3, 0, 1)
	p := program(2, loadK(4, hidden, 2), putK(4, hidden, 0), op(api.OpXor, 4, 4, 0), put(4, 0, hidden, 1), add(4, 4, 1), putK(4, hidden, 0),
		loadK(4, hidden, 0), load(5, 0, hidden, 1), op(api.OpMul, 4, 4, 5), putK(4, hidden, 3),
		loadK(1, open, 0), set(2, 3), when(2, api.CondLess, 1, 14), put(4, 1, hidden, 0), loadK(3, open, 1), op(api.OpDiv, 3, 3, 2), halt(3))
	holdsBack(t, leak{"secret words", p}, one, two, scripts(6, 3))
	h := made(t, "secret words", p)
	for _, c := range []int{4, 5, 1000, greatest} {
		for _, script := range [][]int{{c, c, c, c, c, c}, {0, c}, {1, c, 1}, {c, 0, 0, c}} {
			tellsNothing(t, "secret words", p, h, one, two, script, 200)
		}
	}
}

// A loop whose last round is guessed to be one more, and one more, reaches behind the region.
func TestJ3LoopsThatGoOnTooLong(t *testing.T) {
	p := program(2, set(2, 3), load(3, 1, open, 0), op(api.OpMod, 3, 3, 2), add(1, 1, 1), when(2, api.CondMost, 1, 1), halt(1))
	one, two := apart(1, 0, 1)
	two[hidden] = []int64{9, 10, 11, 12}
	holdsBack(t, leak{"a loop", p}, one, two, scripts(10, 2))
}

// The longest script that may be, on a program that goes on and on.
func TestJ3LongScripts(t *testing.T) {
	p := program(2, loadK(1, open, 0), set(2, 3), when(2, api.CondLess, 1, 0),
		load(3, 1, open, 0), when(3, api.CondSame, 0, 0), putK(3, open, 1), jump(0))
	one, two := apart(far, 0, 1)
	for _, part := range [][]int{{1}, {0, 1}, {1, 0, 2}, {0, 1, 1, 0, 3}} {
		script := slices.Repeat(part, api.MaxScript)[:api.MaxScript]
		holdsBack(t, leak{"long", p}, one, two, [][]int{{0, 1, 0, 1}, script})
		tellsNothing(t, "long", p, made(t, "long", p), one, two, script, api.MaxFuel)
	}
}

// Without a script nothing is guessed, and it is told as seq tells it.
func TestJ3WithoutGuesses(t *testing.T) {
	one, two := apart(far, 0, 1)
	for _, l := range append(loads(), puts()...) {
		h := made(t, l.name, l.p)
		tellsNothing(t, l.name, l.p, h, one, two, nil, 99)
		doesTheSame(t, l.name, l.p, h, one, 99)
		doesTheSame(t, l.name, l.p, h, two, 99)
	}
}
