package fence

import (
	"slices"
	"testing"

	"evenkeel/api"
	"evenkeel/check"
)

// refused sees that Make answers that fault, which is Check's, and nothing else.
func refused(t *testing.T, name string, p api.Program, want api.Fault) {
	t.Helper()
	before := copied(p)
	if told := check.Check(p); told != want {
		t.Errorf("%s: Check tells %v, not %v", name, told, want)
	}
	h, fault := Make(p)
	if fault != want || len(h.Regions) > 0 || len(h.Code) > 0 {
		t.Errorf("%s: got %v, %v; want nothing, %v", name, h, fault, want)
	}
	if !equal(p, before) {
		t.Errorf("%s: what was handed in was changed", name)
	}
}

func TestJ1ProgramsThatMayNotBe(t *testing.T) {
	good := program(2, halt(0))
	wide := api.Program{Regions: []api.Region{{Log: api.MaxLog + 1}}, Code: good.Code}
	below := api.Program{Regions: []api.Region{{Log: -1}}, Code: good.Code}
	for name, p := range map[string]api.Program{
		"nothing":                  {},
		"no instruction":           program(2),
		"too many":                 program(2, slices.Repeat(good.Code, api.MaxCode+1)...),
		"too many regions":         {Regions: make([]api.Region, api.MaxRegions+1), Code: good.Code},
		"a region too large":       wide,
		"a Log below 0":            below,
		"a register of a hard one": program(2, set(api.Regs, 1), halt(0)),
		"a register too many":      program(2, halt(api.Regs+2)),
		"a register below 0":       program(2, move(-1, 0), halt(0)),
		"no such region":           program(2, load(0, 0, 2, 0), halt(0)),
		"no such word":             program(2, loadK(0, 0, 4), halt(0)),
		"no such place":            program(2, jump(2), halt(0)),
		"no such condition":        program(2, when(0, api.CondMost+1, 0, 1), halt(0)),
		"no such mask":             program(2, mask(0, 65), halt(0)),
		"no such operation":        program(2, op(api.OpMod+1, 0, 0, 0), halt(0)),
		"no such instruction":      program(2, api.Ins{Op: 13}, halt(0)),
		"the least of all":         program(2, api.Ins{Op: least, A: least, B: least, C: least, N: least}),
		"the greatest of all":      program(2, api.Ins{Op: greatest, A: greatest, B: greatest, C: greatest, N: greatest}),
		"a field that is not 0":    program(2, api.Ins{Op: api.IFence, N: 1}, halt(0)),
		"behind one with a fault":  program(2, load(0, 0, 0, 9), halt(9)),
	} {
		refused(t, name, p, api.Fault{Code: api.ErrForm})
	}
}

func TestJ1ProgramsWithAFault(t *testing.T) {
	secret := loadK(1, hidden, 0) // the register 1 is secret behind it
	wild := loadK(2, open, 0)     // the register 2 may be any behind it
	bound := func(at int) api.Fault { return api.Fault{Code: api.ErrBound, At: at} }
	label := func(at int) api.Fault { return api.Fault{Code: api.ErrLabel, At: at} }
	for _, c := range []struct {
		name string
		code []api.Ins
		want api.Fault
	}{
		{"leads out", []api.Ins{set(0, 1)}, bound(0)},
		{"leads out behind a load", []api.Ins{load(1, 0, open, 0)}, bound(0)},
		{"leads out by an IIf", []api.Ins{set(0, 1), when(0, api.CondSame, 0, 0)}, bound(1)},
		{"any index of a load", []api.Ins{wild, load(1, 2, open, 0), halt(0)}, bound(1)},
		{"any index of a put", []api.Ins{wild, put(0, 2, hidden, 0), halt(0)}, bound(1)},
		{"a mask too wide", []api.Ins{wild, mask(2, 5), load(1, 2, open, 0), halt(0)}, bound(2)},
		{"N too great", []api.Ins{load(1, 0, open, 4), halt(0)}, bound(0)},
		{"N below 0", []api.Ins{set(3, 3), put(0, 3, open, -1), halt(0)}, bound(1)},
		{"a secret index of a load", []api.Ins{secret, mask(1, 4), load(2, 1, open, 0), halt(0)}, label(2)},
		{"a secret index of a put", []api.Ins{secret, mask(1, 4), put(0, 1, hidden, 0), halt(0)}, label(2)},
		{"a secret put", []api.Ins{secret, put(1, 0, open, 0), halt(0)}, label(1)},
		{"a secret put by IPutK", []api.Ins{secret, putK(1, open, 0), halt(0)}, label(1)},
		{"a secret A of an IIf", []api.Ins{secret, when(1, api.CondLess, 0, 2), halt(0)}, label(1)},
		{"a secret B of an IIf", []api.Ins{secret, when(0, api.CondSame, 1, 2), halt(0)}, label(1)},
		{"a secret is divided", []api.Ins{secret, op(api.OpDiv, 2, 1, 0), halt(0)}, label(1)},
		{"by a secret", []api.Ins{secret, op(api.OpMod, 2, 0, 1), halt(0)}, label(1)},
		{"a secret is told", []api.Ins{secret, halt(1)}, label(1)},
		{"a secret of a load is told", []api.Ins{load(1, 0, hidden, 1), halt(1)}, label(1)},
		{"both", []api.Ins{secret, load(2, 1, open, 0), halt(0)}, bound(1)},
		{"the first of two", []api.Ins{secret, halt(1), load(2, 1, open, 0)}, label(1)},
		{"behind a loop", []api.Ins{when(0, api.CondSame, 0, 2), jump(0), secret, wild, halt(1)}, label(4)},
	} {
		refused(t, c.name, program(2, c.code...), c.want)
	}
	long := slices.Repeat([]api.Ins{load(1, 0, open, 3)}, api.MaxCode)
	refused(t, "the last of MaxCode", program(2, long...), bound(api.MaxCode-1))
	long[api.MaxCode-1] = halt(0)
	long[api.MaxCode-2] = put(1, 0, open, 4)
	refused(t, "the last but one of MaxCode", program(2, long...), bound(api.MaxCode-2))
}

// everyKind has each kind of instruction, and each operation, without fault; it ends behind some loops.
func everyKind() api.Program {
	code := []api.Ins{
		set(0, 3), move(1, 0), add(2, 1, -2), mask(2, 2), // 3, 3, 1
		load(3, 2, hidden, 1), put(3, 2, hidden, 0), loadK(4, open, 3), putK(4, open, 0), // 4 may be any
		mask(4, 4), load(5, 4, open, 0), putK(5, open, 1), put(5, 4, open, 0), fence(),
	}
	for kind := api.OpAdd; kind <= api.OpMod; kind++ {
		code = append(code, op(kind, 6, 6, 5), op(kind, 7, 7, 0))
	}
	for cond := api.CondSame; cond <= api.CondMost; cond++ {
		next := int64(len(code)) + 2
		code = append(code, when(5, cond, 6, next), add(7, 7, 1))
	}
	code = append(code, add(7, 6, 7), add(1, 1, -1), set(2, 0), when(1, api.CondOther, 2, 4), jump(int64(len(code))+6), set(7, 0), halt(7))
	return program(2, code...)
}

func TestJ1J2EachKindOfInstruction(t *testing.T) {
	p := everyKind()
	h := made(t, "each kind", p)
	for first := range int64(20) {
		if !doesTheSame(t, "each kind", p, h, counted(p, first-8), 900) {
			t.Fatalf("each kind: no end with words from %d on", first-8)
		}
	}
}

// trail makes the register 7 tell where a run was: it becomes 10 times what it was, and n.
func trail(n int64) []api.Ins {
	return []api.Ins{set(6, 10), op(api.OpMul, 7, 7, 6), add(7, 7, n)}
}

// ends sees that p, fenced, ends with that value, with the least and the greatest fuel of which J2 speaks.
func ends(t *testing.T, name string, p api.Program, want int64) {
	t.Helper()
	h := made(t, name, p)
	memory := counted(p, 100)
	if !doesTheSame(t, name, p, h, memory, mostFuel) {
		t.Fatalf("%s: the program does not end", name)
	}
	if got := run(t, h, memory, api.MaxFuel); got.End != api.EndDone || got.Value != want {
		t.Errorf("%s: End %d, Value %d, want %d; %v", name, got.End, got.Value, want, h.Code)
	}
}

func TestJ2WhereJumpsLead(t *testing.T) {
	word := load(5, 0, open, 1)
	same, other := api.CondSame, api.CondOther
	ends(t, "forward", program(2, slices.Concat(
		[]api.Ins{word, jump(5)}, trail(1), []api.Ins{word}, trail(2), []api.Ins{halt(7)})...), 2)
	ends(t, "to the last one", program(2, set(7, 1), word, jump(5), word, set(7, 2), halt(7)), 1)
	ends(t, "to itself behind the end", program(2, word, halt(5), jump(2)), 101)
	ends(t, "back", program(2, slices.Concat(
		[]api.Ins{word, jump(6)}, trail(1), []api.Ins{halt(7), word}, trail(2), []api.Ins{jump(2)})...), 21)
	// The register 4 is 0 only the first time.
	ends(t, "to the first one", program(2, slices.Concat(
		trail(1), []api.Ins{word, when(4, other, 0, 7), set(4, 1), jump(0)}, trail(2), []api.Ins{halt(7)})...), 112)
	ends(t, "an IIf forward", program(2, slices.Concat(
		[]api.Ins{word, when(0, same, 0, 5)}, trail(1), trail(2), []api.Ins{word, halt(7)})...), 2)
	ends(t, "an IIf that goes on", program(2, slices.Concat(
		[]api.Ins{word, when(0, other, 0, 5)}, trail(1), trail(2), []api.Ins{word, halt(7)})...), 12)
	ends(t, "an IIf to the last one", program(2, slices.Concat(
		trail(1), []api.Ins{word, when(5, other, 0, 9)}, trail(2), []api.Ins{word, halt(7)})...), 1)
	ends(t, "an IIf to the first one", program(2, slices.Concat(
		[]api.Ins{word}, trail(3), []api.Ins{add(4, 4, 1), set(3, 4), when(4, api.CondLess, 3, 0)}, trail(2), []api.Ins{halt(7)})...), 33332)
	ends(t, "an IIf back", program(2, slices.Concat(
		trail(1), []api.Ins{word, add(4, 4, 1), set(3, 3), when(3, api.CondMost, 4, 3), word, halt(4)})...), 4)
	ends(t, "an IIf to the next one", program(2, word, when(0, same, 0, 2), word, halt(5)), 101)
	ends(t, "an IIf to the next one that goes on", program(2, word, when(0, other, 0, 2), word, halt(5)), 101)
	ends(t, "a jump to the next one", program(2, word, jump(2), word, halt(5)), 101)
	ends(t, "an IIf to itself that goes on", program(2, word, when(0, other, 0, 1), word, halt(5)), 101)
	ends(t, "an IIf as the first one, to itself", program(2, when(0, other, 0, 0), word, halt(5)), 101)
	ends(t, "an IIf to a jump as the last one", program(2, jump(3), word, halt(5), when(0, same, 0, 5), halt(0), jump(1)), 101)
}

// Programs that go on and on do so fenced, too.
func TestJ2WithoutAnEnd(t *testing.T) {
	for name, p := range map[string]api.Program{
		"a jump to itself":        program(2, jump(0)),
		"an IIf to itself":        program(2, when(0, api.CondSame, 0, 0), halt(0)),
		"two IIfs to each other":  program(2, when(0, api.CondSame, 0, 1), when(0, api.CondMost, 0, 0), halt(0)),
		"an IIf back to a load":   program(2, load(1, 0, open, 0), when(0, api.CondSame, 0, 0), halt(0)),
		"a jump back to the IIf":  program(2, when(0, api.CondOther, 0, 2), jump(0), halt(0)),
		"a jump as the last one":  program(2, put(0, 0, open, 0), when(0, api.CondOther, 0, 0), jump(1)),
		"an IIf to the last jump": program(2, when(0, api.CondSame, 0, 2), halt(0), jump(0)),
	} {
		h := made(t, name, p)
		if got := run(t, h, counted(p, 100), api.MaxFuel); got.End != api.EndFuel {
			t.Errorf("%s: End %d, Value %d", name, got.End, got.Value)
		}
	}
}

// The register 1 says which of the IIfs is the one whose condition holds; without one all go on.
func TestJ2SeveralIfsToOneInstruction(t *testing.T) {
	code := []api.Ins{loadK(1, open, 0), set(2, 0)}
	const ifs = 5
	const target = 2 + 3*ifs + 2
	for n := range int64(ifs) {
		code = append(code, set(2, n), when(1, api.CondSame, 2, target), add(7, 7, 1))
	}
	code = append(code, add(7, 7, 100), halt(7), add(7, 7, 10), halt(7))
	p := program(2, code...)
	h := made(t, "several", p)
	for n := range int64(ifs + 1) {
		memory := counted(p, n)
		want := n + 10
		if n == ifs {
			want = ifs + 100
		}
		if !doesTheSame(t, "several", p, h, memory, 99) || run(t, h, memory, 99).Value != want {
			t.Errorf("several: %d: not %d", n, want)
		}
	}
}

func TestJ2IfsThatLeadToIfs(t *testing.T) {
	same, other, less, most := api.CondSame, api.CondOther, api.CondLess, api.CondMost
	ends(t, "forward", program(2, when(0, same, 0, 2), halt(0), when(0, most, 0, 4), halt(0), set(1, 7), halt(1)), 7)
	ends(t, "back", program(2, jump(3), when(0, same, 0, 5), halt(0), when(0, most, 0, 1), halt(0), set(1, 7), halt(1)), 7)
	ends(t, "one that goes on", program(2, when(0, same, 0, 2), halt(0), when(0, less, 0, 5), set(1, 6), halt(1), halt(0)), 6)
	ends(t, "right behind it", program(2, when(0, other, 0, 3), when(0, less, 0, 3), set(1, 5), halt(1)), 5)
	ends(t, "right behind it, led there", program(2, when(0, same, 0, 1), when(0, same, 0, 2), set(1, 5), halt(1)), 5)
}

func TestJ2LoadsAndPutsWhereTheyStand(t *testing.T) {
	same := api.CondSame
	ends(t, "a load as the first one", program(2, load(5, 0, open, 0), halt(5)), 100)
	ends(t, "a put as the first one", program(2, put(5, 0, open, 3), loadK(4, open, 3), halt(4)), 0)
	ends(t, "a load as the last but one", program(2, set(1, 2), load(5, 1, open, 0), halt(5)), 102)
	ends(t, "a put as the last but one", program(2, set(1, 1), put(1, 1, hidden, 1), halt(1)), 1)
	ends(t, "an IIf to a load", program(2, when(0, same, 0, 3), set(5, 1), jump(4), load(5, 0, open, 2), halt(5)), 102)
	ends(t, "an IIf to a load by a constant", program(2, when(0, same, 0, 3), set(5, 1), jump(4), loadK(5, open, 2), halt(5)), 102)
	ends(t, "an IIf to a put by a constant", program(2, set(5, 7), when(0, same, 0, 3), set(5, 1), putK(5, open, 2), loadK(4, open, 2), halt(4)), 7)
	ends(t, "a load behind an IIf", program(2, when(0, api.CondOther, 0, 2), load(5, 0, open, 2), halt(5)), 102)
	ends(t, "a load by a constant behind an IIf", program(2, when(0, api.CondOther, 0, 2), loadK(5, open, 2), halt(5)), 102)
	ends(t, "a put behind an IIf", program(2, when(0, api.CondOther, 0, 2), put(5, 0, open, 2), loadK(4, open, 2), halt(4)), 0)
	ends(t, "a put by a constant behind an IIf", program(2, when(0, api.CondOther, 0, 2), putK(5, open, 2), loadK(4, open, 2), halt(4)), 0)
	ends(t, "an IIf to a put", program(2, set(5, 7), when(0, same, 0, 4), set(5, 1), fence(), put(5, 0, open, 2), load(4, 0, open, 2), halt(4)), 7)
	ends(t, "a jump to a load as the last but one", program(2, jump(2), set(5, 1), load(5, 0, open, 1), halt(5)), 101)
	ends(t, "a jump to a put as the last but one", program(2, jump(2), set(0, 1), put(0, 0, open, 1), halt(0)), 0)
	ends(t, "into its index", program(2, set(1, 3), load(1, 1, open, 0), halt(1)), 103)
	ends(t, "into its index, with N", program(2, set(1, 1), load(1, 1, open, 1), halt(1)), 102)
	ends(t, "put as its own index", program(2, set(1, 1), put(1, 1, open, 1), loadK(2, open, 2), halt(2)), 1)
	ends(t, "the index stays", program(2, set(1, 1), load(2, 1, open, 1), put(2, 1, hidden, 0), halt(1)), 1)
	ends(t, "twice from one index", program(2, set(1, 1), load(2, 1, open, 0), load(1, 1, open, 1), op(api.OpSub, 1, 1, 2), halt(1)), 1)
	ends(t, "one into the index of the other", program(2, load(1, 0, open, 1), mask(1, 2), load(1, 1, open, 1), halt(1)), 101)
}

func TestJ2RegionsOfEachLogAndEachWordOfThem(t *testing.T) {
	for log := range api.MaxLog + 1 {
		for n := range int64(1 << log) {
			p := program(log, set(1, n), set(2, 5), put(2, 1, hidden, 0), put(2, 1, open, 0), load(3, 1, open, 0), halt(3))
			ends(t, "an index", p, 5)
			p = program(log, set(2, 5), put(2, 0, hidden, n), put(2, 0, open, n), load(3, 0, open, n), halt(3))
			ends(t, "N alone", p, 5)
			p = program(log, set(1, n), load(3, 1, open, 0), halt(3))
			ends(t, "a load", p, 100+n)
			p = program(log, load(3, 0, open, n), halt(3))
			ends(t, "a load by N", p, 100+n)
		}
	}
	// Of an index and an N below half of the words Check knows that both together are there.
	for log := 1; log <= api.MaxLog; log++ {
		half := int64(1) << (log - 1)
		for n := int64(1); n < half; n++ {
			p := program(log, set(1, half-1), load(3, 1, open, n), put(3, 1, hidden, n), halt(3))
			ends(t, "an index and N", p, 100+half-1+n)
		}
	}
}

// The words of all six regions are told apart, whatever the Logs are.
func TestJ2ManyRegions(t *testing.T) {
	p := api.Program{}
	for c := range api.MaxRegions {
		p.Regions = append(p.Regions, api.Region{Log: []int{6, 0, 3, 0, 1, 6}[c], Secret: c%2 == 1})
	}
	for c, region := range p.Regions {
		last := int64(1)<<region.Log - 1
		p.Code = append(p.Code, set(1, last), load(2, 1, c, 0), move(3, 2), put(2, 0, 5, int64(c)), put(3, 0, 5, last))
		if !region.Secret {
			p.Code = append(p.Code, op(api.OpAdd, 7, 7, 2))
		}
	}
	p.Code = append(p.Code, halt(7))
	ends(t, "six regions", p, (100+63)+(100+65+7)+(100+74+1))
}

func TestJ1J2ProgramsOfMaxCode(t *testing.T) {
	filled := func(i api.Ins, last ...api.Ins) []api.Ins {
		return append(slices.Repeat([]api.Ins{i}, api.MaxCode-len(last)), last...)
	}
	ends(t, "loads", program(6, filled(load(5, 0, open, 63), halt(5))...), 163)
	ends(t, "puts", program(0, filled(put(5, 0, hidden, 0), halt(5))...), 0)
	ends(t, "masks", program(2, filled(mask(5, 64), halt(5))...), 0)
	ends(t, "sums", program(2, filled(add(5, 5, 3), halt(5))...), 3*(api.MaxCode-1))
	ends(t, "a jump over all", program(2, append([]api.Ins{jump(api.MaxCode - 1)}, filled(load(5, 0, open, 0), halt(5))[1:]...)...), 0)
	ends(t, "an IIf over all", program(2, append([]api.Ins{when(0, api.CondSame, 0, api.MaxCode-1)}, filled(load(5, 0, open, 0), halt(5))[1:]...)...), 0)
	// The whole of it is done 7 times, and then the halt is come to.
	round := filled(load(5, 0, open, 0), add(4, 4, 1), set(3, 7), when(4, api.CondLess, 3, 0), halt(4))
	ends(t, "a loop over all", program(2, round...), 7)
	back := filled(load(5, 0, open, 0), add(4, 4, 1), set(3, 7), when(4, api.CondLess, 3, 2), jump(1))
	back[0], back[1] = jump(2), halt(4)
	ends(t, "a jump back over all", program(2, back...), 7)
	// Each one leads to the one ahead of it, but the first to the last, and the fourth to the second.
	chain := make([]api.Ins, api.MaxCode)
	for at := range chain {
		chain[at] = jump(int64(at+api.MaxCode-1) % api.MaxCode)
	}
	chain[1], chain[2], chain[3] = load(5, 0, open, 2), halt(5), jump(1)
	ends(t, "jumps back", program(2, chain...), 102)
}

func TestJ1J2ProgramsOfIfsAlone(t *testing.T) {
	for size := 1; size <= api.MaxCode; size++ {
		// Whatever they are, the last one is come to, and leads out.
		code := slices.Repeat([]api.Ins{when(0, api.CondSame, 0, 0)}, size)
		refused(t, "IIfs alone", program(2, code...), api.Fault{Code: api.ErrBound, At: size - 1})
	}
	const last = api.MaxCode - 1
	for name, n := range map[string]func(at int64) int64{
		"to the first one": func(int64) int64 { return 0 },
		"to the last one":  func(int64) int64 { return last },
		"to the next one":  func(at int64) int64 { return at + 1 },
		"to themselves":    func(at int64) int64 { return at },
		"to one":           func(int64) int64 { return 77 },
		"two on":           func(at int64) int64 { return min(at+2, last) },
		"the other way":    func(at int64) int64 { return last - at },
	} {
		for _, cond := range []int{api.CondSame, api.CondOther, api.CondLess, api.CondMost} {
			code := make([]api.Ins, api.MaxCode)
			for at := range code {
				code[at] = when(0, cond, 0, n(int64(at)))
			}
			code[last] = halt(0)
			p := program(2, code...)
			h := made(t, name, p)
			ended := doesTheSame(t, name, p, h, counted(p, 0), mostFuel)
			if !ended && run(t, h, counted(p, 0), api.MaxFuel).End != api.EndFuel {
				t.Errorf("%s: ends only fenced", name)
			}
			one, two := counted(p, 0), counted(p, 0)
			two[hidden][0] = -1
			for _, script := range scripts(5, 2) {
				tellsNothing(t, name, p, h, one, two, script, 300)
			}
		}
	}
}

func TestJ1J2ProgramsOfLoadsAndPutsAlone(t *testing.T) {
	refused(t, "a load alone", program(2, load(1, 0, open, 0)), api.Fault{Code: api.ErrBound})
	refused(t, "a put alone", program(2, put(1, 0, open, 0)), api.Fault{Code: api.ErrBound})
	code := make([]api.Ins, api.MaxCode)
	for at := range code {
		n := int64(at % 64)
		code[at] = []api.Ins{load(1, 0, open, n), put(1, 0, open, 63-n), load(2, 0, hidden, n), put(2, 0, hidden, 63-n)}[at%4]
	}
	code[api.MaxCode-1] = halt(1)
	ends(t, "loads and puts", program(6, code...), 100+196%64)
}

func TestJ1J2ProgramsOfOneInstruction(t *testing.T) {
	ends(t, "a halt", program(2, halt(7)), 0)
	ends(t, "a halt without regions", api.Program{Code: []api.Ins{halt(0)}}, 0)
	if h := made(t, "a jump", program(2, jump(0))); run(t, h, counted(h, 0), 99).End != api.EndFuel {
		t.Error("a jump to itself ends")
	}
	refused(t, "an IIf", program(2, when(0, api.CondSame, 0, 0)), api.Fault{Code: api.ErrBound})
}

// No program without an IMask gets one, and those that are there are enough.
func TestJ1Masks(t *testing.T) {
	for n := range 9 {
		code := []api.Ins{loadK(1, open, 0), set(2, 3), when(1, api.CondMost, 2, 4), load(3, 1, open, 0)}
		for m := range n {
			code = append(code, mask(3, int64(4+m)), loadK(3, open, 1))
		}
		p := program(2, append(code, mask(3, 4), load(3, 3, open, 0), halt(3))...)
		if got := len(masks(made(t, "masks", p).Code)); got > n+1 {
			t.Errorf("%d masks of %d", got, n+1)
		}
		p.Code = append(code, halt(0))
		if got := len(masks(made(t, "masks", p).Code)); got > n {
			t.Errorf("%d masks of %d", got, n)
		}
	}
	p := program(2, slices.Concat(slices.Repeat([]api.Ins{mask(1, 1)}, api.MaxCode-1), []api.Ins{halt(1)})...)
	ends(t, "all but one", p, 0)
}

// Fences of a program's own, wherever they stand, change nothing of what it does.
func TestJ1J2FencesOfItsOwn(t *testing.T) {
	p := everyKind()
	for at := range p.Code {
		q := with(p, at, fence())
		h := made(t, "one more", q)
		for first := range int64(20) {
			if !doesTheSame(t, "one more", q, h, counted(q, first-8), 900) {
				t.Fatalf("a fence at %d: no end", at)
			}
		}
	}
	ends(t, "on both ways", program(2, when(0, api.CondSame, 0, 4), fence(), set(7, 1), halt(7), fence(), set(7, 2), halt(7)), 2)
	ends(t, "fences alone", program(2, slices.Concat(slices.Repeat([]api.Ins{fence()}, api.MaxCode-1), []api.Ins{halt(0)})...), 0)
}

// Instructions that nothing leads to are not looked at by Check; what is made of them is hard all the same.
func TestJ1WhatIsNotComeTo(t *testing.T) {
	for _, i := range []api.Ins{
		load(1, 0, open, least), put(1, 0, open, greatest), load(1, 2, hidden, -1), put(1, 0, hidden, 64), loadK(1, open, 3),
		op(api.OpDiv, 1, 1, 1), when(1, api.CondSame, 1, 0), when(1, api.CondSame, 1, 2), jump(2), fence(), mask(1, 1), halt(1),
	} {
		ends(t, "behind the end", program(2, set(1, 5), halt(1), i), 5)
		ends(t, "jumped over", program(2, set(1, 5), jump(3), i, halt(1)), 5)
	}
}

func TestJ1WithoutRegions(t *testing.T) {
	for _, regions := range [][]api.Region{nil, {}} {
		ends(t, "no region", api.Program{Regions: regions, Code: []api.Ins{set(1, least), halt(1)}}, least)
	}
}

func TestJ1TheSameForTheSame(t *testing.T) {
	p := everyKind()
	if !equal(made(t, "once", p), made(t, "again", copied(p))) {
		t.Error("another program for the same one")
	}
}

func TestJ1NewMemory(t *testing.T) {
	p, kept := everyKind(), everyKind()
	h := made(t, "first", p)
	again := made(t, "again", p)
	want := copied(h)
	for n := range p.Regions {
		p.Regions[n] = api.Region{Log: 5}
	}
	for n := range p.Code {
		p.Code[n] = fence()
	}
	if !equal(h, want) || !equal(again, want) {
		t.Error("what was answered is shared with what was handed in")
	}
	for n := range h.Regions {
		h.Regions[n] = api.Region{Log: 6}
	}
	for n := range h.Code {
		h.Code[n] = halt(0)
	}
	if p.Regions[0].Log != 5 || p.Code[0] != fence() || !equal(again, want) {
		t.Error("what was answered is shared with what was handed in, or answered again")
	}
	if !equal(made(t, "kept", kept), want) {
		t.Error("something was kept")
	}
}

// A program without any IIf needs nothing new, but is new memory, too.
func TestJ1NewMemoryWhereNothingIsFenced(t *testing.T) {
	p := program(1, set(1, 2), halt(1))
	h := made(t, "plain", p)
	h.Code[0], h.Regions[0] = fence(), api.Region{Log: 3}
	if !equal(p, program(1, set(1, 2), halt(1))) {
		t.Error("what was answered is shared with what was handed in")
	}
}

func TestJ1WhatLiesBehindALength(t *testing.T) {
	long := program(1, when(0, api.CondOther, 0, 1), halt(1), fence(), halt(9))
	long.Regions = append(long.Regions, api.Region{Log: -1}, api.Region{Log: 99})
	before := copied(long)
	p := api.Program{Regions: long.Regions[:2], Code: long.Code[:2]}
	h := made(t, "a part", p)
	if !equal(h, made(t, "alone", copied(p))) {
		t.Error("what lies behind a length was read")
	}
	h.Regions, h.Code = append(h.Regions, api.Region{Log: 4}), append(h.Code, halt(7))
	if !equal(long, before) {
		t.Error("what lies behind a length was written")
	}
}
