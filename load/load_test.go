package load

import (
	"slices"
	"testing"

	"evenkeel/api"
	"evenkeel/check"
)

// refused sees that Load answers that fault, which is Check's, and no words.
func refused(t *testing.T, name string, p api.Program, want api.Fault) {
	t.Helper()
	before := copied(p)
	if told := check.Check(p); told != want {
		t.Errorf("%s: Check tells %v, not %v", name, told, want)
	}
	words, fault := Load(p)
	if fault != want || len(words) > 0 {
		t.Errorf("%s: got %v, %v; want nothing, %v", name, words, fault, want)
	}
	if !equal(p, before) {
		t.Errorf("%s: what was handed in was changed", name)
	}
}

func TestI1ProgramsThatMayNotBe(t *testing.T) {
	good := program(2, halt(0))
	wide := api.Program{Regions: []api.Region{{Log: api.MaxLog + 1}}, Code: good.Code}
	below := api.Program{Regions: []api.Region{{Log: -1}}, Code: good.Code}
	for name, p := range map[string]api.Program{
		"nothing":                  {},
		"no instruction":           program(2),
		"too many":                 program(2, slices.Repeat(good.Code, api.MaxCode+1)...),
		"too many regions":         {Regions: make([]api.Region, api.MaxRegions+1), Code: good.Code},
		"a region too large":       wide,
		"a Log below 0":            below,
		"a register of a hard one": program(2, set(api.Regs, 1), halt(0)),
		"a register too many":      program(2, halt(api.Regs+2)),
		"a register below 0":       program(2, move(-1, 0), halt(0)),
		"no such region":           program(2, load(0, 0, 2, 0), halt(0)),
		"no such word":             program(2, loadK(0, 0, 4), halt(0)),
		"no such place":            program(2, jump(2), halt(0)),
		"no such condition":        program(2, when(0, api.CondMost+1, 0, 1), halt(0)),
		"no such mask":             program(2, mask(0, 65), halt(0)),
		"no such operation":        program(2, op(api.OpMod+1, 0, 0, 0), halt(0)),
		"no such instruction":      program(2, api.Ins{Op: 13}, halt(0)),
		"the least of all":         program(2, api.Ins{Op: least, A: least, B: least, C: least, N: least}),
		"the greatest of all":      program(2, api.Ins{Op: greatest, A: greatest, B: greatest, C: greatest, N: greatest}),
		"a field that is not 0":    program(2, api.Ins{Op: api.IFence, N: 1}, halt(0)),
		"behind one with a fault":  program(2, load(0, 0, 0, 9), halt(9)),
	} {
		refused(t, name, p, api.Fault{Code: api.ErrForm})
	}
}

func TestI1ProgramsWithAFault(t *testing.T) {
	secret := loadK(1, hidden, 0) // the register 1 is secret behind it
	wild := loadK(2, open, 0)     // the register 2 may be any behind it
	bound := func(at int) api.Fault { return api.Fault{Code: api.ErrBound, At: at} }
	label := func(at int) api.Fault { return api.Fault{Code: api.ErrLabel, At: at} }
	for _, c := range []struct {
		name string
		code []api.Ins
		want api.Fault
	}{
		{"leads out", []api.Ins{set(0, 1)}, bound(0)},
		{"leads out behind a load", []api.Ins{load(1, 0, open, 0)}, bound(0)},
		{"leads out by an IIf", []api.Ins{set(0, 1), when(0, api.CondSame, 0, 0)}, bound(1)},
		{"any index of a load", []api.Ins{wild, load(1, 2, open, 0), halt(0)}, bound(1)},
		{"any index of a put", []api.Ins{wild, put(0, 2, hidden, 0), halt(0)}, bound(1)},
		{"a mask too wide", []api.Ins{wild, mask(2, 5), load(1, 2, open, 0), halt(0)}, bound(2)},
		{"N too great", []api.Ins{load(1, 0, open, 4), halt(0)}, bound(0)},
		{"N below 0", []api.Ins{set(3, 3), put(0, 3, open, -1), halt(0)}, bound(1)},
		{"a secret index of a load", []api.Ins{secret, mask(1, 4), load(2, 1, open, 0), halt(0)}, label(2)},
		{"a secret index of a put", []api.Ins{secret, mask(1, 4), put(0, 1, hidden, 0), halt(0)}, label(2)},
		{"a secret put", []api.Ins{secret, put(1, 0, open, 0), halt(0)}, label(1)},
		{"a secret put by IPutK", []api.Ins{secret, putK(1, open, 0), halt(0)}, label(1)},
		{"a secret A of an IIf", []api.Ins{secret, when(1, api.CondLess, 0, 2), halt(0)}, label(1)},
		{"a secret B of an IIf", []api.Ins{secret, when(0, api.CondSame, 1, 2), halt(0)}, label(1)},
		{"a secret is divided", []api.Ins{secret, op(api.OpDiv, 2, 1, 0), halt(0)}, label(1)},
		{"by a secret", []api.Ins{secret, op(api.OpMod, 2, 0, 1), halt(0)}, label(1)},
		{"a secret is told", []api.Ins{secret, halt(1)}, label(1)},
		{"a secret of a load is told", []api.Ins{load(1, 0, hidden, 1), halt(1)}, label(1)},
		{"both", []api.Ins{secret, load(2, 1, open, 0), halt(0)}, bound(1)},
		{"the first of two", []api.Ins{secret, halt(1), load(2, 1, open, 0)}, label(1)},
		{"behind a loop", []api.Ins{when(0, api.CondSame, 0, 2), jump(0), secret, wild, halt(1)}, label(4)},
	} {
		refused(t, c.name, program(2, c.code...), c.want)
	}
	long := slices.Repeat([]api.Ins{load(1, 0, open, 3)}, api.MaxCode)
	refused(t, "the last of MaxCode", program(2, long...), bound(api.MaxCode-1))
	long[api.MaxCode-1] = halt(0)
	long[api.MaxCode-2] = put(1, 0, open, 4)
	refused(t, "the last but one of MaxCode", program(2, long...), bound(api.MaxCode-2))
}

// everyKind has each kind of instruction, and each operation, with small numbers and great ones, without fault; it ends behind some loops.
func everyKind() api.Program {
	code := []api.Ins{
		set(0, 3), move(1, 0), add(2, 1, -2), mask(2, 2), // 3, 3, 1
		set(5, -1<<40), add(7, 7, 1<<50-1), add(6, 5, 8192), // the loops come back to behind them
		load(3, 2, hidden, 1), put(3, 2, hidden, 0), loadK(4, open, 3), putK(4, open, 0), // 4 may be any
		mask(4, 4), load(5, 4, open, 0), putK(5, open, 1), put(5, 4, open, 0), fence(),
	}
	for kind := api.OpAdd; kind <= api.OpMod; kind++ {
		code = append(code, op(kind, 6, 6, 5), op(kind, 7, 7, 0), add(6, 6, -8193))
	}
	for cond := api.CondSame; cond <= api.CondMost; cond++ {
		next := int64(len(code)) + 2
		code = append(code, when(5, cond, 6, next), add(7, 7, 1<<13))
	}
	code = append(code, add(7, 6, least), add(1, 1, -1), set(2, 0), when(1, api.CondOther, 2, 7), jump(int64(len(code))+6), set(7, 0), halt(7))
	return program(2, code...)
}

func TestI1I2EachKindOfInstruction(t *testing.T) {
	p := everyKind()
	h := made(t, "each kind", p)
	for first := range int64(20) {
		if !doesTheSame(t, "each kind", p, h, counted(p, first-8), 900) {
			t.Fatalf("each kind: no end with words from %d on", first-8)
		}
	}
}

// ends sees that p, loaded, ends with that value, with all fuels of which I2 speaks.
func ends(t *testing.T, name string, p api.Program, want int64) {
	t.Helper()
	h := made(t, name, p)
	memory := counted(p, 100)
	if !doesTheSame(t, name, p, h, memory, mostFuel) {
		t.Fatalf("%s: the program does not end", name)
	}
	if got := run(t, h, memory, api.MaxFuel); got.End != api.EndDone || got.Value != want {
		t.Errorf("%s: End %d, Value %d, want %d; %v", name, got.End, got.Value, want, h.Code)
	}
}

// numbers has those at which the words' room ends, and each power of two, one less and one more, above and below 0.
func numbers() []int64 {
	out := []int64{0, -8192, 8191, -8193, 8192, least, greatest, 0x0123456789abcdef, -0x0123456789abcdef}
	for bit := range 64 {
		power := int64(1) << bit
		out = append(out, power, power-1, power+1, -power, -power-1, -power+1)
	}
	return out
}

func TestI2NumbersOfISet(t *testing.T) {
	for _, n := range numbers() {
		for a := range api.Regs {
			ends(t, "ISet", program(1, set(a, n), halt(a)), n)
		}
	}
}

// Each register that is not A stays as it was.
func TestI2OtherRegistersStay(t *testing.T) {
	for _, n := range numbers() {
		for a := range api.Regs {
			for _, i := range []api.Ins{set(a, n), add(a, a, n), add(a, (a+1)%api.Regs, n)} {
				p := program(3)
				for r := range api.Regs {
					p.Code = append(p.Code, set(r, int64(r)+50))
				}
				p.Code = append(p.Code, i)
				for r := range api.Regs {
					p.Code = append(p.Code, putK(r, open, int64(r)))
				}
				p.Code = append(p.Code, halt(0))
				h := made(t, "all registers", p)
				if !doesTheSame(t, "all registers", p, h, counted(p, 100), 99) {
					t.Fatal("the program does not end")
				}
			}
		}
	}
}

func TestI2NumbersOfIAdd(t *testing.T) {
	for _, n := range numbers() {
		for _, m := range []int64{0, 1, -1, 5, 8192, 1 << 40, least, greatest} {
			ends(t, "IAdd", program(1, set(1, m), add(2, 1, n), halt(2)), m+n)
			ends(t, "IAdd, B stays", program(1, set(1, m), add(2, 1, n), halt(1)), m)
			ends(t, "IAdd of one register", program(1, set(1, m), add(1, 1, n), halt(1)), m+n)
			ends(t, "IAdd of the last register", program(1, set(7, m), add(7, 7, n), halt(7)), m+n)
			ends(t, "IAdd twice", program(1, set(0, m), add(7, 0, n), add(0, 7, n), halt(0)), m+n+n)
			ends(t, "IAdd and ISet", program(1, set(0, m), add(7, 0, n), set(0, n), op(api.OpSub, 0, 7, 0), halt(0)), m)
		}
	}
}

// A load or put with such a number is without fault where nothing leads to it; behind a load that is, such numbers are as always.
func TestI1I2NumbersOfLoadsAndPuts(t *testing.T) {
	for _, n := range numbers() {
		for _, i := range []api.Ins{load(1, 2, open, n), put(1, 2, hidden, n), load(7, 7, hidden, n)} {
			ends(t, "behind the end", program(6, set(1, 5), halt(1), i), 5)
			ends(t, "jumped over", program(6, set(1, 5), jump(3), i, halt(1)), 5)
		}
		fault := api.Fault{Code: api.ErrBound, At: 1}
		for _, i := range []api.Ins{load(1, 0, open, n), put(0, 0, hidden, n)} {
			p := program(6, set(5, n), i, halt(5))
			if n >= 0 && n < 64 {
				ends(t, "a word that is there", p, n)
			} else {
				refused(t, "a word that is not there", p, fault)
			}
		}
		ends(t, "between loads", program(2, load(1, 0, open, 1), add(2, 1, n), load(3, 0, open, 2), set(4, n), load(5, 0, open, 3),
			op(api.OpSub, 2, 2, 4), op(api.OpAdd, 2, 2, 3), op(api.OpAdd, 2, 2, 5), halt(2)), 101+102+103)
	}
}

// A mask makes an index of a great number, which a sum made.
func TestI2IndexesMadeOfGreatNumbers(t *testing.T) {
	for _, n := range numbers() {
		p := program(6, set(1, -n), add(1, 1, n+63), mask(1, 64), load(2, 1, open, 0), put(2, 1, hidden, 0), halt(2))
		ends(t, "the last word", p, 163)
		p = program(6, set(1, n), op(api.OpXor, 1, 1, 1), mask(1, 32), load(1, 1, open, 31), halt(1))
		ends(t, "an index and N", p, 131)
		p = program(0, set(1, n), mask(1, 1), load(1, 1, open, 0), halt(1))
		ends(t, "the only word", p, 100)
	}
}

// trail makes the register 7 tell where a run was: it becomes 10 times what it was, and n.
func trail(n int64) []api.Ins {
	return []api.Ins{set(6, 10), op(api.OpMul, 7, 7, 6), add(7, 7, n)}
}

// grown has instructions that become several, and one that does not; none of them changes a register but 5.
func grown() map[string]api.Ins {
	return map[string]api.Ins{
		"a load":          load(5, 0, open, 1),
		"a put":           put(0, 0, hidden, 1),
		"a great ISet":    set(5, 1<<40),
		"a great IAdd":    add(5, 5, greatest),
		"the least IAdd":  add(5, 0, least),
		"a small ISet":    set(5, 3),
		"an ISet of 8192": set(5, 8192),
	}
}

func TestI2WhereJumpsLead(t *testing.T) {
	same, other := api.CondSame, api.CondOther
	for name, i := range grown() {
		name = ", " + name
		ends(t, "forward"+name, program(2, slices.Concat(
			[]api.Ins{i, jump(5)}, trail(1), []api.Ins{i}, trail(2), []api.Ins{halt(7)})...), 2)
		ends(t, "to the last one"+name, program(2, set(7, 1), i, jump(5), i, set(7, 2), halt(7)), 1)
		ends(t, "to itself behind the end"+name, program(2, i, halt(7), jump(2)), 0)
		ends(t, "back"+name, program(2, slices.Concat(
			[]api.Ins{i, jump(6)}, trail(1), []api.Ins{halt(7), i}, trail(2), []api.Ins{jump(2)})...), 21)
		// The register 4 is 0 only the first time.
		ends(t, "to the first one"+name, program(2, slices.Concat(
			trail(1), []api.Ins{i, when(4, other, 0, 7), set(4, 1), jump(0)}, trail(2), []api.Ins{halt(7)})...), 112)
		ends(t, "onto the first one"+name, program(2, slices.Concat(
			[]api.Ins{i}, trail(1), []api.Ins{when(4, other, 0, 7), set(4, 1), jump(0)}, trail(2), []api.Ins{halt(7)})...), 112)
		ends(t, "an IIf forward"+name, program(2, slices.Concat(
			[]api.Ins{i, when(0, same, 0, 5)}, trail(1), trail(2), []api.Ins{i, halt(7)})...), 2)
		ends(t, "an IIf that goes on"+name, program(2, slices.Concat(
			[]api.Ins{i, when(0, other, 0, 5)}, trail(1), trail(2), []api.Ins{i, halt(7)})...), 12)
		ends(t, "an IIf to the last one"+name, program(2, slices.Concat(
			trail(1), []api.Ins{i, when(7, other, 0, 9)}, trail(2), []api.Ins{i, halt(7)})...), 1)
		ends(t, "an IIf to the first one"+name, program(2, slices.Concat(
			[]api.Ins{i}, trail(3), []api.Ins{add(4, 4, 1), set(3, 4), when(4, api.CondLess, 3, 0)}, trail(2), []api.Ins{halt(7)})...), 33332)
		ends(t, "an IIf back"+name, program(2, slices.Concat(
			trail(1), []api.Ins{i, add(4, 4, 1), set(3, 3), when(3, api.CondMost, 4, 3), i, halt(4)})...), 4)
		ends(t, "an IIf to the next one"+name, program(2, i, when(0, same, 0, 2), i, halt(7)), 0)
		ends(t, "a jump to the next one"+name, program(2, i, jump(2), i, halt(7)), 0)
	}
}

// Who is led onto an instruction that becomes several does all of it, and who is led behind it none.
func TestI2OntoAndOver(t *testing.T) {
	same := api.CondSame
	for name, i := range map[string]api.Ins{
		"a load": load(5, 0, open, 2), "a great ISet": set(5, -1<<62), "a great IAdd": add(5, 4, 1<<33), "a great IAdd of one register": add(5, 5, -8193),
	} {
		alone := run(t, program(2, set(5, 9), i, halt(5)), counted(program(2), 100), 9).Value
		ends(t, "a jump onto "+name, program(2, set(5, 9), jump(3), set(5, 1<<20), i, halt(5)), alone)
		ends(t, "a jump over "+name, program(2, set(5, 9), jump(4), set(5, 1<<20), i, halt(5)), 9)
		ends(t, "an IIf onto "+name, program(2, set(5, 9), when(0, same, 0, 3), set(5, 1<<20), i, halt(5)), alone)
		ends(t, "an IIf over "+name, program(2, set(5, 9), when(0, same, 0, 4), set(5, 1<<20), i, halt(5)), 9)
		ends(t, "an IIf between two of "+name, program(2, set(5, 9), i, when(0, same, 0, 4), i, halt(5)), alone)
	}
}

func TestI2LoadsAndPutsWhereTheyStand(t *testing.T) {
	same := api.CondSame
	ends(t, "a load as the first one", program(2, load(5, 0, open, 0), halt(5)), 100)
	ends(t, "a put as the first one", program(2, put(5, 0, open, 3), loadK(4, open, 3), halt(4)), 0)
	ends(t, "a load as the last but one", program(2, set(1, 2), load(5, 1, open, 0), halt(5)), 102)
	ends(t, "a put as the last but one", program(2, set(1, 1), put(1, 1, hidden, 1), halt(1)), 1)
	ends(t, "an IIf to a load", program(2, when(0, same, 0, 3), set(5, 1), jump(4), load(5, 0, open, 2), halt(5)), 102)
	ends(t, "an IIf to a put", program(2, set(5, 7), when(0, same, 0, 4), set(5, 1), fence(), put(5, 0, open, 2), load(4, 0, open, 2), halt(4)), 7)
	ends(t, "a jump to a load as the last but one", program(2, jump(2), set(5, 1), load(5, 0, open, 1), halt(5)), 101)
	ends(t, "a jump to a put as the last but one", program(2, jump(2), set(0, 1), put(0, 0, open, 1), halt(0)), 0)
	ends(t, "into its index", program(2, set(1, 3), load(1, 1, open, 0), halt(1)), 103)
	ends(t, "into its index, with N", program(2, set(1, 1), load(1, 1, open, 1), halt(1)), 102)
	ends(t, "put as its own index", program(2, set(1, 1), put(1, 1, open, 1), loadK(2, open, 2), halt(2)), 1)
	ends(t, "the index stays", program(2, set(1, 1), load(2, 1, open, 1), put(2, 1, hidden, 0), halt(1)), 1)
	ends(t, "twice from one index", program(2, set(1, 1), load(2, 1, open, 0), load(1, 1, open, 1), op(api.OpSub, 1, 1, 2), halt(1)), 1)
	ends(t, "one into the index of the other", program(2, load(1, 0, open, 1), mask(1, 2), load(1, 1, open, 1), halt(1)), 101)
	ends(t, "a great word", program(2, set(1, 1<<60), put(1, 0, open, 2), set(1, 5), load(1, 0, open, 2), halt(1)), 1<<60)
}

func TestI2RegionsOfEachLogAndEachWordOfThem(t *testing.T) {
	for log := range api.MaxLog + 1 {
		for n := range int64(1 << log) {
			p := program(log, set(1, n), set(2, 1<<30), put(2, 1, hidden, 0), put(2, 1, open, 0), load(3, 1, open, 0), halt(3))
			ends(t, "an index", p, 1<<30)
			p = program(log, set(2, -1<<30), put(2, 0, hidden, n), put(2, 0, open, n), load(3, 0, open, n), halt(3))
			ends(t, "N alone", p, -1<<30)
			p = program(log, set(1, n), load(3, 1, open, 0), loadK(4, open, n), op(api.OpSub, 4, 4, 3), putK(4, hidden, n), halt(3))
			ends(t, "a load", p, 100+n)
		}
	}
	// Of an index and an N below half of the words Check knows that both together are there.
	for log := 1; log <= api.MaxLog; log++ {
		half := int64(1) << (log - 1)
		for n := int64(1); n < half; n++ {
			p := program(log, set(1, half-1), load(3, 1, open, n), put(3, 1, hidden, n), halt(3))
			ends(t, "an index and N", p, 100+half-1+n)
		}
	}
}

// The words of all six regions are told apart, whatever the Logs are.
func TestI2ManyRegions(t *testing.T) {
	p := api.Program{}
	for c := range api.MaxRegions {
		p.Regions = append(p.Regions, api.Region{Log: []int{6, 0, 3, 0, 1, 6}[c], Secret: c%2 == 1})
	}
	for c, region := range p.Regions {
		last := int64(1)<<region.Log - 1
		p.Code = append(p.Code, set(1, last), load(2, 1, c, 0), move(3, 2), put(2, 0, 5, int64(c)), put(3, 0, 5, last))
		if !region.Secret {
			p.Code = append(p.Code, op(api.OpAdd, 7, 7, 2))
		}
	}
	p.Code = append(p.Code, halt(7))
	ends(t, "six regions", p, (100+63)+(100+65+7)+(100+74+1))
}

// filled has MaxCode instructions: i again and again, and the last ones.
func filled(i api.Ins, last ...api.Ins) []api.Ins {
	return append(slices.Repeat([]api.Ins{i}, api.MaxCode-len(last)), last...)
}

func TestI1I2ProgramsOfMaxCode(t *testing.T) {
	ends(t, "loads", program(6, filled(load(5, 0, open, 63), halt(5))...), 163)
	ends(t, "puts", program(0, filled(put(5, 0, hidden, 0), halt(5))...), 0)
	ends(t, "masks", program(2, filled(mask(5, 64), halt(5))...), 0)
	for _, n := range numbers() {
		ends(t, "numbers", program(2, filled(set(5, n), halt(5))...), n)
		ends(t, "sums", program(2, filled(add(5, 5, n), halt(5))...), n*(api.MaxCode-1))
		ends(t, "sums of another register", program(2, filled(add(5, 4, n), halt(5))...), n)
		for _, i := range []api.Ins{load(5, 5, open, n), put(5, 4, hidden, n)} {
			over := filled(i, halt(5))
			over[0] = jump(api.MaxCode - 1)
			ends(t, "loads and puts that are not come to", program(2, over...), 0)
		}
	}
	var all []api.Ins
	sum := int64(0)
	for _, n := range numbers()[:api.MaxCode-1] {
		all, sum = append(all, add(1, 1, n)), sum+n
	}
	ends(t, "sums of many numbers", program(2, append(all, halt(1))...), sum)
	if h := made(t, "numbers", program(2, filled(set(5, greatest), halt(5))...)); len(h.Code) <= api.MaxCode {
		t.Errorf("only %d words", len(h.Code))
	}
}

func TestI2JumpsOverMaxCode(t *testing.T) {
	for name, i := range grown() {
		name = " over " + name
		ends(t, "a jump"+name, program(2, append([]api.Ins{jump(api.MaxCode - 1)}, filled(i, halt(5))[1:]...)...), 0)
		ends(t, "an IIf"+name, program(2, append([]api.Ins{when(0, api.CondSame, 0, api.MaxCode-1)}, filled(i, halt(5))[1:]...)...), 0)
		// The whole of it is done 6 times, and then the halt is come to.
		round := filled(i, add(4, 4, 1), set(3, 6), when(4, api.CondLess, 3, 0), halt(4))
		ends(t, "a loop"+name, program(2, round...), 6)
		back := filled(i, add(4, 4, 1), set(3, 6), when(4, api.CondLess, 3, 2), jump(1))
		back[0], back[1] = jump(2), halt(4)
		ends(t, "a jump back"+name, program(2, back...), 6)
	}
	// Each one leads to the one ahead of it, but the first to the last, and the fourth to the second.
	chain := make([]api.Ins, api.MaxCode)
	for at := range chain {
		chain[at] = jump(int64(at+api.MaxCode-1) % api.MaxCode)
	}
	chain[1], chain[2], chain[3] = set(5, 1<<35), halt(5), jump(1)
	ends(t, "jumps back", program(2, chain...), 1<<35)
}

// The greatest fuel of which I2 speaks, and one more step than it allows.
func TestI2TheGreatestFuel(t *testing.T) {
	rounds := int64((mostFuel - 3) / 3)
	p := program(2, set(2, rounds), set(5, greatest), add(1, 1, 1), when(1, api.CondLess, 2, 1), halt(1))
	ends(t, "many rounds", p, rounds)
	endless := program(2, set(5, greatest), jump(0))
	if doesTheSame(t, "endless", endless, made(t, "endless", endless), counted(endless, 1), mostFuel) {
		t.Error("endless: it ends")
	}
}

// Instructions that nothing leads to are not looked at by Check; the words of them are read all the same.
func TestI1WhatIsNotComeTo(t *testing.T) {
	for _, i := range []api.Ins{
		loadK(1, open, 3), op(api.OpDiv, 1, 1, 1), when(1, api.CondSame, 1, 0), when(1, api.CondSame, 1, 2), jump(2),
		fence(), mask(1, 1), mask(1, 64), halt(1), set(1, least), add(1, 1, greatest), add(2, 1, least),
	} {
		ends(t, "behind the end", program(2, set(1, 5), halt(1), i), 5)
		ends(t, "jumped over", program(2, set(1, 5), jump(3), i, halt(1)), 5)
	}
}

func TestI1WithoutRegions(t *testing.T) {
	for _, regions := range [][]api.Region{nil, {}} {
		ends(t, "no region", api.Program{Regions: regions, Code: []api.Ins{set(1, least), halt(1)}}, least)
	}
}

// words loads p, a program without fault.
func words(t *testing.T, p api.Program) []uint32 {
	t.Helper()
	out, fault := Load(p)
	if fault != (api.Fault{}) || len(out) == 0 {
		t.Fatalf("%v, %v of %v", out, fault, p)
	}
	return out
}

func TestI1TheSameForTheSame(t *testing.T) {
	if !slices.Equal(words(t, everyKind()), words(t, everyKind())) {
		t.Error("other words for the same program")
	}
}

func TestI1NewMemory(t *testing.T) {
	p := everyKind()
	once, again := words(t, p), words(t, p)
	want := slices.Clone(once)
	for n := range once {
		once[n] = 0
	}
	if !slices.Equal(again, want) || !equal(p, everyKind()) || !slices.Equal(words(t, p), want) {
		t.Error("what was answered is shared")
	}
}

func TestI1WhatLiesBehindALength(t *testing.T) {
	long := program(1, load(1, 0, open, 0), halt(1), set(1, greatest), halt(9))
	long.Regions = append(long.Regions, api.Region{Log: -1}, api.Region{Log: 99})
	before := copied(long)
	p := api.Program{Regions: long.Regions[:2], Code: long.Code[:2]}
	if !slices.Equal(words(t, p), words(t, copied(p))) {
		t.Error("what lies behind a length was read")
	}
	if !equal(long, before) {
		t.Error("what lies behind a length was written")
	}
}
