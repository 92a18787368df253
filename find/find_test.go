package find

import (
	"math"
	"slices"
	"strconv"
	"testing"

	"evenkeel/api"
	"evenkeel/layout"
)

// enough is fuel for all programs here that end.
const enough = 200

// The chapter's example: a load of the index that is a secret word.
func TestK1TheExample(t *testing.T) {
	p := program(loadK(1, hidden, 0), mask(1, 4), load(2, 1, open, 0), halt(0))
	bothWays(t, "the example", p, secrets(1), secrets(2), nil, 9, at(4))
	bothWays(t, "the same word", p, secrets(1), secrets(1, 5), nil, 9, nothing)
	bothWays(t, "masked to the same", p, secrets(0), secrets(4), nil, 9, nothing)
}

// A difference is of two runs, which show one and two as the number at, and the same ahead of it; an empty See stands for nothing more.
type difference struct {
	name     string
	p        api.Program
	a, b     [][]int64
	script   []int
	at       int
	one, two api.See
}

// differences has each field of what is shown alone, and runs that end earlier than others.
func differences() []difference {
	take, same, none := loadK(1, hidden, 0), api.CondSame, api.See{}
	a, b, beyond := secrets(1), secrets(2), secrets(4)
	return []difference{
		{"A of a word that is taken", program(take, load(2, 1, open, 0), set(3, 1), halt(0)), a, b, nil, 3, taken(1), taken(2)},
		{"A of a word that is put", program(take, put(2, 1, open, 0), set(3, 1), halt(0)), a, b, nil, 3, putTo(1), putTo(2)},
		{"A of a word of the last region", program(take, load(2, 1, hidden, 1), halt(0)), a, b, nil, 3, taken(6), taken(7)},
		{"A of what is divided", program(take, op(api.OpDiv, 2, 1, 0), halt(0)), a, b, nil, 3, divided(1, 0), divided(2, 0)},
		{"B of what is divided", program(take, op(api.OpDiv, 2, 0, 1), halt(0)), a, b, nil, 3, divided(0, 1), divided(0, 2)},
		{"A of what is left over", program(take, op(api.OpMod, 2, 1, 0), halt(0)), a, b, nil, 3, divided(1, 0), divided(2, 0)},
		{"B of what is left over", program(take, op(api.OpMod, 2, 0, 1), halt(0)), a, b, nil, 3, divided(0, 1), divided(0, 2)},
		{"A and B", program(take, op(api.OpDiv, 2, 1, 1), halt(0)), a, b, nil, 3, divided(1, 1), divided(2, 2)},
		{"A and B changed round", program(take, loadK(2, hidden, 1), op(api.OpDiv, 2, 1, 2), halt(0)), secrets(3, 5), secrets(5, 3), nil, 5, divided(3, 5), divided(5, 3)},
		{"the least and the greatest", program(take, op(api.OpDiv, 2, 1, 0), halt(0)), secrets(least), secrets(greatest), nil, 3, divided(least, 0), divided(greatest, 0)},
		{"only the highest bit", program(take, op(api.OpDiv, 2, 0, 1), halt(0)), secrets(least), secrets(0), nil, 3, divided(0, least), divided(0, 0)},
		{"the lower half alike", program(take, op(api.OpDiv, 2, 1, 0), halt(0)), secrets(7), secrets(1<<32 + 7), nil, 3, divided(7, 0), divided(1<<32+7, 0)},
		{"A of a step", program(take, when(1, same, 0, 3), halt(0), halt(0)), secrets(0), a, nil, 3, step(3), step(2)},
		{"Kind", program(take, when(1, same, 0, 0)), secrets(0), a, []int{0, 1}, 3, back(), step(0)},
		{"Kind and A", program(take, when(1, same, 0, 1)), secrets(0), a, []int{0, 1}, 3, back(), step(1)},
		{"no word to take", program(take, load(2, 1, open, 0), set(3, 1), halt(0)), a, beyond, nil, 3, taken(1), none},
		{"no word to put", program(take, put(2, 1, open, 0), set(3, 1), halt(0)), a, beyond, nil, 3, putTo(1), none},
		{"no word, by the last one", program(take, load(2, 1, open, 0)), a, beyond, nil, 3, taken(1), none},
		{"no instruction", program(take, when(1, same, 0, 0)), secrets(0), a, nil, 3, step(0), none},
		{"no instruction, and one more", program(jump(2), halt(0), take, when(1, same, 0, 1)), secrets(0), a, nil, 4, step(1), none},
	}
}

func TestK1EachField(t *testing.T) {
	for _, d := range differences() {
		bothWays(t, d.name, d.p, d.a, d.b, d.script, enough, at(d.at))
		one, two := run(t, d.p, d.a, d.script, enough).Seen, run(t, d.p, d.b, d.script, enough).Seen
		if !slices.Equal(one[:d.at], two[:d.at]) || one[d.at] != d.one {
			t.Errorf("%s: not what is to be tried: %v and %v", d.name, one, two)
		}
		if d.two == (api.See{}) && len(two) != d.at || d.two != (api.See{}) && two[d.at] != d.two {
			t.Errorf("%s: not what is to be tried: %v and %v", d.name, one, two)
		}
	}
}

// With each fuel: as long as what differs is not come to, nothing is found; then it is the last thing that is shown; then one in between.
func TestK1EachFuel(t *testing.T) {
	for _, d := range differences() {
		for fuel := range 20 {
			one, two := run(t, d.p, d.a, d.script, fuel).Seen, run(t, d.p, d.b, d.script, fuel).Seen
			want := nothing
			if max(len(one), len(two)) > d.at {
				want = at(d.at)
			}
			bothWays(t, d.name, d.p, d.a, d.b, d.script, fuel, want)
		}
	}
}

// The number is that of what is shown, however much is shown ahead of it.
func TestK1EachNumber(t *testing.T) {
	for _, d := range differences() {
		for _, n := range []int{1, 2, 3, 5, 30, 100} {
			bothWays(t, d.name+", behind "+strconv.Itoa(n), padded(d.p, n), d.a, d.b, d.script, 2*enough, at(d.at+n))
		}
	}
}

// Of several things that differ it is the first one, whichever of them do.
func TestK1TheFirstOfSeveral(t *testing.T) {
	p := program(loadK(1, hidden, 0), op(api.OpDiv, 5, 1, 0), loadK(2, hidden, 1), op(api.OpMod, 5, 0, 2),
		loadK(3, hidden, 2), load(5, 3, open, 0), loadK(4, hidden, 3), op(api.OpDiv, 5, 4, 4), halt(0))
	numbers := []int{3, 7, 11, 15}
	for which := range 16 {
		b := secrets(1, 1, 1, 1)
		want := nothing
		for n := 3; n >= 0; n-- {
			if which>>n&1 == 1 {
				b[hidden][n] = 2
				want = at(numbers[n])
			}
		}
		bothWays(t, "of several", p, secrets(1, 1, 1, 1), b, nil, enough, want)
	}
}

// What a run with any memory shows first is the step 0, and it needs a step to take a word, and one more to show it.
// So the lists themselves are held against each other here, also such as no run shows.
func TestK1WhatIsShown(t *testing.T) {
	list := []api.See{step(0), taken(3), putTo(3), divided(4, 5), back(), step(1)}
	holds := func(name string, one, two []api.See, want answer) {
		t.Helper()
		for _, seen := range [][2][]api.See{{one, two}, {two, one}} {
			if n, found := firstOther(seen); n != want.at || found != want.found {
				t.Errorf("%s: %d, %v; want %+v", name, n, found, want)
			}
		}
	}
	holds("none", nil, nil, nothing)
	holds("none, and an empty one", nil, []api.See{}, nothing)
	for n := range list {
		holds("the same", list[:n+1], slices.Clone(list[:n+1]), nothing)
		holds("one more", list[:n], list[:n+1], at(n))
		holds("all more", list[:n], list, at(n))
		for _, other := range []api.See{{Kind: 1}, {A: 1}, {B: 1}, {Kind: -1}, {A: -1}, {B: -1}, {A: least}, {B: least}, {A: 1, B: -1}, {Kind: 1, A: -1}} {
			two := slices.Clone(list)
			two[n].Kind += other.Kind
			two[n].A += other.A
			two[n].B += other.B
			holds("another one", list, two, at(n))
			holds("another one, and shorter", list, two[:n+1], at(n))
			two[len(two)-1].A = 99
			holds("another one, and the last one", list, two, at(n))
		}
	}
}

// Runs that show the same are told apart by nothing else.
func TestK1OnlyWhatIsShown(t *testing.T) {
	a, b := secrets(1, 2), secrets(5, 7, 8, least)
	for name, code := range map[string][]api.Ins{
		"nothing is taken":     {halt(0)},
		"Value":                {loadK(1, hidden, 0), halt(1)},
		"words":                {loadK(1, hidden, 0), putK(1, open, 0), put(1, 0, open, 1), halt(0)},
		"registers":            {loadK(1, hidden, 0), load(2, 0, hidden, 1), move(3, 1), add(4, 1, 1), halt(0)},
		"operations":           {loadK(1, hidden, 0), op(api.OpMul, 2, 1, 1), op(api.OpShl, 2, 1, 1), op(api.OpSub, 2, 1, 0), halt(2)},
		"a mask":               {loadK(1, hidden, 0), mask(1, 2), halt(1)},
		"an IIf both ways":     {loadK(1, hidden, 0), when(1, api.CondSame, 0, 2), halt(1)},
		"alike by a condition": {loadK(1, hidden, 0), when(0, api.CondLess, 1, 3), halt(1), halt(0)},
		"a fault":              {loadK(1, hidden, 0), load(2, 1, open, 4), halt(0)},
		"no instruction":       {loadK(1, hidden, 0)},
	} {
		for _, script := range [][]int{nil, {0}, {1}, {1, 1}, {0, 0, 2}} {
			for fuel := range 8 {
				bothWays(t, name, program(code...), a, b, script, fuel, nothing)
			}
		}
	}
	// Words of public regions are words as others.
	p := program(loadK(1, open, 0), op(api.OpDiv, 2, 1, 0), halt(0))
	other := secrets()
	other[open][0] = 9
	bothWays(t, "public words", p, secrets(), other, nil, 9, at(3))
}

// Two runs of one memory, the same lists, or lists of its own, are the same.
func TestK1OneMemory(t *testing.T) {
	for _, d := range differences() {
		for _, memory := range [][][]int64{d.a, d.b} {
			for _, script := range append(scripts(3, 3), d.script) {
				answers(t, d.name, d.p, memory, memory, script, enough, nothing)
				answers(t, d.name, d.p, memory, roomyMemory(memory), script, enough, nothing)
			}
		}
	}
	// The lists of both memories are one: what one run puts, the other one does not take.
	words := []int64{1, 2, 3, 4}
	p := program(loadK(1, open, 0), op(api.OpDiv, 2, 1, 0), set(1, 77), putK(1, open, 0), putK(1, hidden, 0), halt(0))
	answers(t, "one list", p, [][]int64{words, words}, [][]int64{words, words}, nil, 9, nothing)
	if !slices.Equal(words, []int64{1, 2, 3, 4}) {
		t.Errorf("the words are changed: %v", words)
	}
}

// Where nothing is guessed nothing ahead of time is shown: each choice is the script's.
func TestK1Scripts(t *testing.T) {
	past := program(loadK(1, open, 0), set(2, 3), when(2, api.CondLess, 1, 5), load(3, 1, open, 0), op(api.OpDiv, 4, 3, 2), halt(0))
	a, b := secrets(1, 1, 42), secrets(1, 1, 43)
	a[open][0], b[open][0] = 6, 6
	for _, c := range []struct {
		script []int
		want   answer
	}{
		{nil, nothing}, {[]int{}, nothing}, {[]int{0}, nothing}, {[]int{0, 0}, nothing}, {[]int{1}, nothing}, {[]int{1, 0, 1}, nothing},
		{[]int{0, 1}, at(7)}, {[]int{0, 2}, at(7)}, {[]int{7, math.MaxInt}, at(7)}, {[]int{0, 1, 1, 1}, at(7)},
	} {
		bothWays(t, "past a bound", past, a, b, c.script, enough, c.want)
		// The step behind which it is shown is the fifth one.
		bothWays(t, "past a bound", past, a, b, c.script, 4, nothing)
		bothWays(t, "past a bound", past, a, b, c.script, 5, c.want)
	}
	was := program(loadK(1, hidden, 0), putK(1, open, 0), putK(0, open, 0), loadK(2, open, 0), op(api.OpDiv, 3, 2, 0), halt(0))
	for c, want := range []answer{nothing, at(9), nothing, nothing} {
		bothWays(t, "as it was", was, secrets(1), secrets(2), []int{0, c}, enough, want)
		bothWays(t, "as it was", was, secrets(1), secrets(2), []int{c}, enough, nothing)
	}
}

// last takes and shows the first word of hidden by the last step that there is fuel for, behind a loop.
func last() api.Program {
	rounds := int64(api.MaxFuel-4) / 2
	return program(set(2, rounds), set(5, 1), loadK(1, hidden, 0), add(3, 3, 1), when(3, api.CondLess, 2, 3), op(api.OpDiv, 4, 1, 0), halt(0))
}

func TestK1Fuel(t *testing.T) {
	p := last()
	bothWays(t, "the greatest fuel", p, secrets(1), secrets(2), nil, api.MaxFuel, at(api.MaxFuel+1))
	bothWays(t, "one less", p, secrets(1), secrets(2), nil, api.MaxFuel-1, nothing)
	short := program(loadK(1, hidden, 0), op(api.OpDiv, 4, 1, 0), halt(0))
	for fuel, want := range []answer{nothing, nothing, at(3), at(3), at(3)} {
		bothWays(t, "fuel "+strconv.Itoa(fuel), short, secrets(1), secrets(2), nil, fuel, want)
	}
	for _, fuel := range []int{-1, -2, math.MinInt, api.MaxFuel + 1, api.MaxFuel + 2, math.MaxInt} {
		bothWays(t, "no fuel that may be", short, secrets(1), secrets(2), nil, fuel, refused(api.ErrRange))
	}
	bothWays(t, "the greatest fuel that may be", short, secrets(1), secrets(2), nil, api.MaxFuel, at(3))
}

func TestK1ChoicesThatMayBe(t *testing.T) {
	p := program(loadK(1, hidden, 0), op(api.OpDiv, 4, 1, 0), halt(0))
	all := make([]int, api.MaxScript)
	for _, script := range [][]int{nil, {}, {0}, {math.MaxInt}, all, slices.Repeat([]int{3}, api.MaxScript)} {
		bothWays(t, "a script that may be", p, secrets(1), secrets(2), script, 9, at(3))
		bothWays(t, "a script that may be, and one memory", p, secrets(1), secrets(1), script, 9, nothing)
	}
	between := slices.Clone(all)
	between[1000] = -1
	behind := slices.Clone(all)
	behind[api.MaxScript-1] = math.MinInt
	for _, script := range [][]int{{-1}, {0, -1}, {-1, 0}, {1, -5, 1}, between, behind, append(all, 0), append(between, 0), make([]int, 3*api.MaxScript)} {
		bothWays(t, "a script that may not be", p, secrets(1), secrets(2), script, 9, refused(api.ErrRange))
		bothWays(t, "a script that may not be, and no fuel", p, secrets(1), secrets(2), script, 0, refused(api.ErrRange))
		bothWays(t, "a script that may not be, and one memory", p, secrets(1), secrets(1), script, 9, refused(api.ErrRange))
	}
}

// The longest script, with the only wrong guess as its last choice, and with one behind those that are asked for.
func TestK1TheLastChoice(t *testing.T) {
	// Each round takes one choice, by the IIf; the wrong way leads to what shows the register 1.
	p := program(loadK(1, hidden, 0), when(0, api.CondOther, 0, 3), jump(1), op(api.OpDiv, 4, 1, 0), stop())
	script := make([]int, api.MaxScript)
	script[api.MaxScript-1] = 1
	// Two things ahead of all rounds, two by each of 1998 that are as they should, then the IIf, the step, and what is divided.
	bothWays(t, "the last choice", p, secrets(1), secrets(2), script, api.MaxFuel, at(2+2*(api.MaxScript-2)+2))
	bothWays(t, "one less", p, secrets(1), secrets(2), script[:api.MaxScript-1], api.MaxFuel, nothing)
}

// hardOnly has programs that are hard, but may not be, and show the first word of hidden.
func hardOnly() map[string]difference {
	tells := []api.Ins{loadK(1, hidden, 0), op(api.OpDiv, 2, 1, 0), halt(0)}
	long := program(slices.Concat(slices.Repeat([]api.Ins{stop()}, api.MaxHard-len(tells)), tells)...)
	return map[string]difference{
		"register 8":            {p: program(loadK(8, hidden, 0), op(api.OpDiv, 2, 8, 0), halt(0)), at: 3},
		"register 9":            {p: program(loadK(9, hidden, 0), load(9, 9, open, 0), halt(9)), at: 3},
		"more than MaxCode":     {p: padded(program(tells...), api.MaxCode), at: 3 + api.MaxCode},
		"one more than MaxCode": {p: padded(program(tells...), api.MaxCode-2), at: 1 + api.MaxCode},
		"MaxHard":               {p: long, at: api.MaxHard},
	}
}

func TestK1HardPrograms(t *testing.T) {
	for name, d := range hardOnly() {
		if layout.May(d.p) || !layout.Hard(d.p) {
			t.Fatalf("%s: not what is to be tried", name)
		}
		bothWays(t, name, d.p, secrets(1), secrets(2), nil, api.MaxFuel, at(d.at))
		bothWays(t, name, d.p, secrets(1), secrets(1), nil, api.MaxFuel, nothing)
	}
}

// notHard has programs that are not hard, of which all but their size, or one field, is as it should.
func notHard() map[string]api.Program {
	take, show := loadK(1, hidden, 0), op(api.OpDiv, 2, 1, 0)
	wide, many := program(take, show, halt(0)), program(take, show, halt(0))
	wide.Regions[open].Log = api.MaxLog + 1
	many.Regions = append(many.Regions, make([]api.Region, api.MaxRegions-1)...)
	below := program(take, show, halt(0))
	below.Regions[open].Log = -1
	return map[string]api.Program{
		"nothing":                     {},
		"no instruction":              program(),
		"more than MaxHard":           padded(program(take, show, halt(0)), api.MaxHard-2),
		"register 10":                 program(take, show, halt(10)),
		"a register below 0":          program(take, show, halt(-1)),
		"no such instruction":         program(take, show, api.Ins{}),
		"no such operation":           program(take, show, op(11, 1, 1, 1), halt(0)),
		"no such region":              program(take, show, loadK(1, 2, 0), halt(0)),
		"no such word":                program(take, show, loadK(1, open, 4), halt(0)),
		"no such place":               program(take, show, jump(4), halt(0)),
		"no such condition":           program(take, show, when(0, 5, 0, 0), halt(0)),
		"no such mask":                program(take, show, mask(0, 65), halt(0)),
		"a field that must be 0":      program(take, show, api.Ins{Op: api.IHalt, B: 1}),
		"a region that is too large":  wide,
		"a region with a Log below 0": below,
		"too many regions":            many,
	}
}

// ill has memories that do not fit.
func ill() map[string][][]int64 {
	return map[string][][]int64{
		"none":            nil,
		"an empty one":    {},
		"a list less":     {{1, 2, 3, 4}},
		"a list more":     {{1, 2, 3, 4}, {1, 2, 3, 4}, {}},
		"a word less":     {{1, 2, 3, 4}, {1, 2, 3}},
		"a word more":     {{1, 2, 3, 4, 5}, {1, 2, 3, 4}},
		"no words":        {nil, nil},
		"words of others": {{1, 2, 3}, {1, 2, 3, 4, 5}},
	}
}

func TestK1NotHard(t *testing.T) {
	long := make([]int, api.MaxScript+1)
	for name, p := range notHard() {
		if layout.Hard(p) {
			t.Fatalf("%s: not what is to be tried", name)
		}
		memory := [][]int64{}
		for _, region := range p.Regions {
			memory = append(memory, make([]int64, 1<<max(region.Log, 0)))
		}
		for _, script := range [][]int{nil, {1}, {-1}, long} {
			for _, fuel := range []int{9, 0, -1, api.MaxFuel + 1} {
				bothWays(t, name, p, secrets(1), secrets(2), script, fuel, refused(api.ErrForm))
				answers(t, name, p, memory, memory, script, fuel, refused(api.ErrForm))
				answers(t, name, p, nil, nil, script, fuel, refused(api.ErrForm))
			}
		}
	}
}

// A memory that does not fit is told of either, but where the run with a has another error, that one is told.
func TestK1MemoriesThatDoNotFit(t *testing.T) {
	p := program(loadK(1, hidden, 0), op(api.OpDiv, 2, 1, 0), halt(0))
	good := secrets(1)
	for name, memory := range ill() {
		bothWays(t, name, p, memory, good, nil, 9, refused(api.ErrForm))
		bothWays(t, name+", no fuel", p, memory, good, nil, 0, refused(api.ErrForm))
		bothWays(t, name+", a script", p, memory, good, []int{1, 1}, api.MaxFuel, refused(api.ErrForm))
		for other, two := range ill() {
			answers(t, name+" and "+other, p, memory, two, nil, 9, refused(api.ErrForm))
			answers(t, name+" and "+other, p, memory, two, []int{-1}, -1, refused(api.ErrForm))
		}
		for _, c := range []struct {
			script []int
			fuel   int
		}{
			{nil, -1}, {nil, math.MinInt}, {nil, api.MaxFuel + 1}, {nil, math.MaxInt},
			{[]int{-1}, 9}, {[]int{0, -1}, 0}, {make([]int, api.MaxScript+1), 9}, {[]int{-1}, -1},
		} {
			answers(t, name+" as a", p, memory, good, c.script, c.fuel, refused(api.ErrForm))
			answers(t, name+" as b", p, good, memory, c.script, c.fuel, refused(api.ErrRange))
		}
	}
}

// A program without regions has a memory without words.
func TestK1WithoutRegions(t *testing.T) {
	p := api.Program{Code: []api.Ins{set(1, 3), op(api.OpDiv, 2, 1, 1), when(1, api.CondSame, 1, 0)}}
	for _, script := range scripts(3, 2) {
		bothWays(t, "no regions", p, nil, [][]int64{}, script, enough, nothing)
		bothWays(t, "no regions, and a list", p, nil, [][]int64{{}}, script, enough, refused(api.ErrForm))
	}
}
