package load

import (
	"slices"
	"strconv"
	"testing"

	"evenkeel/api"
	"evenkeel/check"
)

// The programs here have regions of 4 words: open has the words 0 to 3, hidden 4 to 7.
// The register 1 is an index, 2 what it is held against, 3 what is loaded, 4 secret.

// far is the index, from open on, of the word of hidden whose words differ in the memories here.
const far = 6

// apart gives two memories with the same public words, of which the first word of open is first.
func apart(first int64, one, two int64) (a, b [][]int64) {
	return [][]int64{{first, 2, 3, 0}, {5, 6, one, 8}}, [][]int64{{first, 2, 3, 0}, {5, 6, two, 8}}
}

// guards gives for each condition, either way round, what lets only an index below 4 on to the instruction behind it, else to out.
// It is to stand at the number at.
func guards(at, out int64) map[string][]api.Ins {
	bound := set(2, 3)
	return map[string][]api.Ins{
		"not less":            {bound, when(1, api.CondMost, 2, out)},
		"less":                {bound, when(1, api.CondLess, 2, at+3), jump(out)},
		"less, the other way": {bound, when(2, api.CondLess, 1, out)},
		"most, the other way": {bound, when(2, api.CondMost, 1, at+3), jump(out)},
		"the same":            {bound, when(1, api.CondSame, 2, at+3), jump(out)},
		"another":             {bound, when(1, api.CondOther, 2, out)},
		"another, behind one": {bound, when(1, api.CondMost, 2, out), when(1, api.CondOther, 2, at+3)},
	}
}

// showers gives what lets who watches see something of the register 3, without fault as long as it is not secret.
func showers(out int64) map[string][]api.Ins {
	return map[string][]api.Ins{
		"an IIf":             {when(3, api.CondSame, 0, out)},
		"an IIf as B":        {when(0, api.CondLess, 3, out)},
		"what is divided":    {op(api.OpDiv, 5, 3, 2)},
		"by what":            {op(api.OpMod, 5, 2, 3)},
		"a load":             {mask(3, 4), load(5, 3, open, 0)},
		"a put":              {mask(3, 4), put(5, 3, hidden, 0)},
		"a sum as an index":  {mask(3, 2), load(5, 3, hidden, 1)},
		"a word":             {putK(3, open, 1), loadK(5, open, 1), op(api.OpDiv, 5, 5, 2)},
		"a guarded load":     {when(3, api.CondMost, 2, out), load(5, 3, open, 0)},
		"a guarded put":      {when(3, api.CondMost, 2, out), put(5, 3, open, 0)},
		"what is made of it": {op(api.OpShl, 5, 3, 3), op(api.OpXor, 5, 5, 2), op(api.OpMod, 5, 5, 5)},
	}
}

// A leak is a program without fault that tells a secret by what it does ahead of time.
type leak struct {
	name string
	p    api.Program
}

// loads has programs that load past a bound, and then show what they loaded.
func loads() []leak {
	var out []leak
	const end = 20
	for name, guard := range guards(1, end) {
		for how, show := range showers(end) {
			code := slices.Concat([]api.Ins{loadK(1, open, 0)}, guard, []api.Ins{load(3, 1, open, 0)}, show)
			for len(code) < end {
				code = append(code, set(6, 1))
			}
			out = append(out, leak{"load, " + name + ", shown by " + how, program(2, append(code, halt(0))...)})
		}
	}
	return out
}

// puts has programs that put a secret past a bound of the secret region, onto a public word, and then show that word.
// The index is below 0 there: it is a great one from 0 on.
func puts() []leak {
	var out []leak
	const end = 20
	for name, guard := range guards(2, end) {
		for how, show := range showers(end) {
			code := slices.Concat([]api.Ins{loadK(4, hidden, 2), loadK(1, open, 0)}, guard, []api.Ins{put(4, 1, hidden, 0), loadK(3, open, 1)}, show)
			for len(code) < end {
				code = append(code, set(6, 1))
			}
			out = append(out, leak{"put, " + name + ", shown by " + how, program(2, append(code, halt(0))...)})
		}
	}
	return out
}

// holdsBack sees that some of the scripts makes p tell the memories apart, and none makes the one that it is loaded as do so.
func holdsBack(t *testing.T, l leak, one, two [][]int64, scripts [][]int) {
	t.Helper()
	if fault := check.Check(l.p); fault.Code != api.OK {
		t.Fatalf("%s: %v", l.name, fault)
	}
	h := made(t, l.name, l.p)
	told := 0
	for _, script := range scripts {
		tellsNothing(t, l.name, l.p, h, one, two, script, 200)
		if tells(t, l.p, one, two, script, 200) {
			told++
		}
	}
	if told == 0 {
		t.Errorf("%s: tells nothing as it is, so that nothing was tried", l.name)
	}
}

func TestI3LoadsPastABound(t *testing.T) {
	one, two := apart(far, 0, 1)
	for _, l := range loads() {
		holdsBack(t, l, one, two, scripts(6, 3))
	}
}

func TestI3PutsPastABound(t *testing.T) {
	one, two := apart(-3, 0, 1) // 3 ahead of hidden is the word 1 of open
	for _, l := range puts() {
		holdsBack(t, l, one, two, scripts(6, 3))
	}
}

// All fuels, so that some runs end ahead of time.
func TestI3EndsAheadOfTime(t *testing.T) {
	one, two := apart(far, 0, 1)
	before, after := apart(-3, 0, 1)
	try := func(l leak, one, two [][]int64) {
		h := made(t, l.name, l.p)
		for _, script := range scripts(4, 2) {
			for fuel := range 50 {
				tellsNothing(t, l.name, l.p, h, one, two, script, fuel)
			}
		}
	}
	for _, l := range loads() {
		try(l, one, two)
	}
	for _, l := range puts() {
		try(l, before, after)
	}
}

// A public region of each Log, with a secret one of each Log behind it.
func TestI3RegionsOfEachLog(t *testing.T) {
	for log := range api.MaxLog + 1 {
		words := int64(1) << log
		for other := range api.MaxLog + 1 {
			p := api.Program{
				Regions: []api.Region{{Log: log}, {Log: other, Secret: true}, {Log: 0}},
				Code: []api.Ins{
					loadK(1, 2, 0), set(2, words-1), when(2, api.CondLess, 1, 5),
					load(3, 1, 0, 0), op(api.OpDiv, 3, 3, 2), halt(0),
				},
			}
			// The first word behind the region, and the last one of the secret region.
			for _, index := range []int64{words, words + 1<<other - 1} {
				one, two := counted(p, 50), counted(p, 50)
				one[2][0], two[2][0] = index, index
				two[1][index-words] = 7
				holdsBack(t, leak{"Log " + strconv.Itoa(log), p}, one, two, scripts(2, 2))
			}
		}
	}
}

// Indexes that are far off, below 0, or go beyond 64 bits with N.
func TestI3GreatIndexes(t *testing.T) {
	for _, index := range []int64{far - 1, -1, -2, -64, least, least + 1, greatest, greatest - 1, 1 << 32, 1<<32 + far} {
		for n := range int64(2) {
			for _, i := range []api.Ins{load(3, 1, open, n), put(4, 1, hidden, n)} {
				p := program(2, loadK(4, hidden, 2), loadK(1, open, 0), set(2, 1), when(2, api.CondLess, 1, 8),
					i, op(api.OpDiv, 5, 3, 2), loadK(3, open, 1), op(api.OpDiv, 5, 3, 2), halt(0))
				h := made(t, "a great index", p)
				one, two := apart(index, 0, 1)
				for _, script := range scripts(5, 2) {
					tellsNothing(t, "a great index", p, h, one, two, script, 99)
				}
				doesTheSame(t, "a great index", p, h, one, 99)
			}
		}
	}
}

// An N above 0 is a part of the index: it is masked with it.
func TestI3AnIndexWithN(t *testing.T) {
	for n := int64(1); n < 3; n++ {
		p := api.Program{
			Regions: []api.Region{{Log: 3}, {Log: 3, Secret: true}},
			Code: []api.Ins{
				loadK(1, open, 0), set(2, 3), when(2, api.CondLess, 1, 5),
				load(3, 1, open, n), op(api.OpDiv, 3, 3, 2), halt(0),
			},
		}
		for _, index := range []int64{8 - n, 8, 15 - n} {
			one, two := counted(p, 50), counted(p, 60)
			two[open] = slices.Clone(one[open])
			one[open][0], two[open][0] = index, index
			holdsBack(t, leak{"N " + strconv.FormatInt(n, 10), p}, one, two, scripts(3, 2))
		}
	}
}

// What is loaded takes the place of its index.
func TestI3IntoItsIndex(t *testing.T) {
	one, two := apart(far, 0, 1)
	p := program(2, loadK(1, open, 0), set(2, 3), when(2, api.CondLess, 1, 5), load(1, 1, open, 0), op(api.OpDiv, 1, 1, 2), halt(0))
	holdsBack(t, leak{"into its index", p}, one, two, scripts(3, 2))
	again := program(2, loadK(1, open, 0), set(2, 3), when(2, api.CondLess, 1, 7),
		load(1, 1, open, 0), when(2, api.CondLess, 1, 7), load(1, 1, open, 0), op(api.OpDiv, 1, 1, 2), halt(0))
	holdsBack(t, leak{"into its index, twice", again}, one, two, scripts(5, 2))
}

// Only if all of several guesses in a row are wrong, the load is come to.
func TestI3SeveralWrongGuesses(t *testing.T) {
	one, two := apart(far, 0, 1)
	for n := 1; n <= 7; n++ {
		code := []api.Ins{loadK(1, open, 0), set(2, 3)}
		end := int64(n + 4)
		for range n {
			code = append(code, when(2, api.CondLess, 1, end))
		}
		code = append(code, load(3, 1, open, 0), op(api.OpDiv, 3, 3, 2), halt(0))
		l := leak{strconv.Itoa(n) + " guesses", program(2, code...)}
		holdsBack(t, l, one, two, scripts(n+1, 2))
		// The first choice is the ILoadK's, which finds nothing, so that the last IIf goes on as it should.
		if tells(t, l.p, one, two, slices.Repeat([]int{1}, n), 99) {
			t.Errorf("%s: one less is enough", l.name)
		}
	}
}

// As many steps behind the guess as there may be, and more: what is loaded is shown by the step pad + 2.
func TestI3UpToTheWindowAndBeyond(t *testing.T) {
	one, two := apart(far, 0, 1)
	for pad := range api.Window + 4 {
		code := []api.Ins{loadK(1, open, 0), set(2, 3), when(2, api.CondLess, 1, int64(pad)+5)}
		code = append(code, slices.Repeat([]api.Ins{add(6, 6, 1)}, pad)...)
		code = append(code, load(3, 1, open, 0), op(api.OpDiv, 3, 3, 2), halt(0))
		p := program(2, code...)
		h := made(t, "padded", p)
		for _, script := range scripts(3, 3) {
			tellsNothing(t, "padded", p, h, one, two, script, 99)
		}
		if got := tells(t, p, one, two, []int{0, 1}, 99); got != (pad+2 <= api.Window) {
			t.Errorf("%d steps between: tells %v", pad, got)
		}
	}
}

// Great numbers are made between the guess and the load: all of it is ahead of time, and the load is come to, or not any more.
func TestI3GreatNumbersAheadOfTime(t *testing.T) {
	one, two := apart(far, 0, 1)
	for name, i := range grown() {
		for many := 1; many <= 4; many++ {
			code := []api.Ins{loadK(1, open, 0), set(2, 3), when(2, api.CondLess, 1, int64(many)+5)}
			code = append(code, slices.Repeat([]api.Ins{i}, many)...)
			code = append(code, load(3, 1, open, 0), op(api.OpDiv, 3, 3, 2), halt(0))
			l := leak{strconv.Itoa(many) + " times " + name, program(2, code...)}
			holdsBack(t, l, one, two, scripts(4, 2))
			h := made(t, l.name, l.p)
			for fuel := range 80 {
				tellsNothing(t, l.name, l.p, h, one, two, []int{0, 1}, fuel)
			}
		}
	}
}

// The index, and what it is held against, are sums of great numbers; they are made while something is guessed, too.
func TestI3IndexesMadeOfGreatNumbers(t *testing.T) {
	one, two := apart(far, 0, 1)
	for _, n := range numbers() {
		p := program(2, set(1, n), add(1, 1, far-n), set(2, -n), add(2, 2, n+3), mask(2, 4), when(2, api.CondLess, 1, 8),
			load(3, 1, open, 0), op(api.OpDiv, 3, 3, 2), halt(0))
		holdsBack(t, leak{"a sum", p}, one, two, scripts(2, 2))
		p = program(2, loadK(1, open, 0), set(2, 3), when(2, api.CondLess, 1, 7),
			add(1, 1, -n), add(1, 1, n), when(2, api.CondLess, 1, 7), load(3, 1, open, 0), op(api.OpDiv, 3, 3, 2), halt(0))
		holdsBack(t, leak{"a sum ahead of time", p}, one, two, scripts(4, 2))
	}
}

// Great numbers are added to secrets, which stay secret, also in the registers that they are made with.
func TestI3GreatNumbersAndSecrets(t *testing.T) {
	one, two := apart(far, 0, 1)
	for _, n := range numbers() {
		p := program(2, loadK(4, hidden, 2), add(4, 4, n), putK(4, hidden, 0), add(5, 4, n), put(5, 0, hidden, 1), set(4, n), add(5, 4, n),
			loadK(1, open, 0), set(2, 3), when(2, api.CondLess, 1, 12), load(3, 1, open, 0), op(api.OpDiv, 3, 3, 2), op(api.OpMod, 3, 4, 5), halt(5))
		holdsBack(t, leak{"a sum of a secret", p}, one, two, scripts(3, 2))
		doesTheSame(t, "a sum of a secret", p, made(t, "a sum of a secret", p), one, 99)
	}
}

// was has three numbers put onto one word of open, so that the index is far only as it was 2 puts ago, and no guess of an IIf alone is enough.
func was(taker api.Ins) api.Program {
	return program(2, set(1, far), putK(1, open, 1), set(1, 9), putK(1, open, 1), set(1, 2), put(1, 0, open, 1),
		taker, set(2, 3), when(2, api.CondLess, 1, 11), load(3, 1, open, 0), op(api.OpDiv, 3, 3, 2), halt(0))
}

func TestI3WordsAsTheyWereAndWrongGuesses(t *testing.T) {
	one, two := apart(1, 0, 1)
	for name, taker := range map[string]api.Ins{"ILoadK": loadK(1, open, 1), "ILoad": load(1, 0, open, 1)} {
		l := leak{name, was(taker)}
		holdsBack(t, l, one, two, scripts(4, 5))
		for _, script := range scripts(4, 5) {
			// 9 is beyond all words; 2 is what the index is. Only as far the IIf's guess lets it on.
			if got := tells(t, l.p, one, two, script, 99); got != (script[0] == 2 && script[1] > 0) {
				t.Errorf("%s: script %v: tells %v as it is", name, script, got)
			}
		}
	}
}

// Words of the secret region are put, and taken as they were, and put again: all of it stays secret.
func TestI3SecretWordsAsTheyWere(t *testing.T) {
	one, two := apart(-3, 0, 1)
	p := program(2, loadK(4, hidden, 2), putK(4, hidden, 0), op(api.OpXor, 4, 4, 0), put(4, 0, hidden, 1), add(4, 4, 1), putK(4, hidden, 0),
		loadK(4, hidden, 0), load(5, 0, hidden, 1), op(api.OpMul, 4, 4, 5), putK(4, hidden, 3),
		loadK(1, open, 0), set(2, 3), when(2, api.CondLess, 1, 14), put(4, 1, hidden, 0), loadK(3, open, 1), op(api.OpDiv, 3, 3, 2), halt(3))
	holdsBack(t, leak{"secret words", p}, one, two, scripts(6, 3))
	h := made(t, "secret words", p)
	for _, c := range []int{4, 5, 1000, greatest} {
		for _, script := range [][]int{{c, c, c, c, c, c}, {0, c}, {1, c, 1}, {c, 0, 0, c}} {
			tellsNothing(t, "secret words", p, h, one, two, script, 200)
		}
	}
}

// A loop whose last round is guessed to be one more, and one more, reaches behind the region.
func TestI3LoopsThatGoOnTooLong(t *testing.T) {
	p := program(2, set(2, 3), load(3, 1, open, 0), op(api.OpMod, 3, 3, 2), add(1, 1, 1), when(2, api.CondMost, 1, 1), halt(1))
	one, two := apart(1, 0, 1)
	two[hidden] = []int64{9, 10, 11, 12}
	holdsBack(t, leak{"a loop", p}, one, two, scripts(10, 2))
}

// The longest script that may be, on a program that goes on and on.
func TestI3LongScripts(t *testing.T) {
	p := program(2, loadK(1, open, 0), set(2, 3), when(2, api.CondLess, 1, 0),
		load(3, 1, open, 0), when(3, api.CondSame, 0, 0), putK(3, open, 1), jump(0))
	one, two := apart(far, 0, 1)
	for _, part := range [][]int{{1}, {0, 1}, {1, 0, 2}, {0, 1, 1, 0, 3}} {
		script := slices.Repeat(part, api.MaxScript)[:api.MaxScript]
		holdsBack(t, leak{"long", p}, one, two, [][]int{{0, 1, 0, 1}, script})
		tellsNothing(t, "long", p, made(t, "long", p), one, two, script, api.MaxFuel)
	}
}

// Without a script nothing is guessed, and it is told as seq tells it.
func TestI3WithoutGuesses(t *testing.T) {
	one, two := apart(far, 0, 1)
	for _, l := range append(loads(), puts()...) {
		h := made(t, l.name, l.p)
		tellsNothing(t, l.name, l.p, h, one, two, nil, 99)
		doesTheSame(t, l.name, l.p, h, one, 99)
		doesTheSame(t, l.name, l.p, h, two, 99)
	}
}
