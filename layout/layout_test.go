package layout

import (
	"math"
	"reflect"
	"testing"

	"evenkeel/api"
)

const (
	least    = math.MinInt64
	greatest = math.MaxInt64
)

// A kind says what a field of an instruction may be.
type kind int

const (
	zero kind = iota
	anything
	register
	region
	word
	place
	condition4
	mask
)

type row struct {
	op         int
	a, b, c, n kind
}

// rows is the table of the chapter, line by line.
func rows() []row {
	out := []row{
		{api.ISet, register, zero, zero, anything},
		{api.IMove, register, register, zero, zero},
		{api.IAdd, register, register, zero, anything},
		{api.ILoad, register, register, region, anything},
		{api.IPut, register, register, region, anything},
		{api.ILoadK, register, zero, region, word},
		{api.IPutK, register, zero, region, word},
		{api.IJump, zero, zero, zero, place},
		{api.IIf, register, register, condition4, place},
		{api.IHalt, register, zero, zero, zero},
		{api.IMask, register, zero, zero, mask},
		{api.IFence, zero, zero, zero, zero},
	}
	for _, op := range operations() {
		out = append(out, row{api.IOp + op, register, register, register, zero})
	}
	return out
}

func operations() []int {
	return []int{
		api.OpAdd, api.OpSub, api.OpMul, api.OpAnd, api.OpOr,
		api.OpXor, api.OpShl, api.OpShr, api.OpDiv, api.OpMod,
	}
}

// allows says by the words of the table alone whether a field may be v; c is the field C beside it.
func allows(k kind, v int64, c int, p api.Program, regs int64) bool {
	switch k {
	case zero:
		return v == 0
	case anything:
		return true
	case register:
		return v >= 0 && v < regs
	case region:
		return v >= 0 && v < int64(len(p.Regions))
	case word:
		if c < 0 || c >= len(p.Regions) {
			return false
		}
		sizes := []int64{1, 2, 4, 8, 16, 32, 64}
		return v >= 0 && v < sizes[p.Regions[c].Log]
	case place:
		return v >= 0 && v < int64(len(p.Code))
	case condition4:
		return v == api.CondSame || v == api.CondOther || v == api.CondLess || v == api.CondMost
	case mask:
		return v >= 1 && v <= 64
	}
	return false
}

func (r row) allows(i api.Ins, p api.Program, regs int64) bool {
	return allows(r.a, int64(i.A), i.C, p, regs) &&
		allows(r.b, int64(i.B), i.C, p, regs) &&
		allows(r.c, int64(i.C), i.C, p, regs) &&
		allows(r.n, i.N, i.C, p, regs)
}

// sample has regions of 1, 4 and 64 words, and seven instructions, the last of which is i.
func sample(i api.Ins) api.Program {
	p := api.Program{Regions: []api.Region{{Log: 0}, {Log: 2, Secret: true}, {Log: api.MaxLog}}}
	for range 6 {
		p.Code = append(p.Code, api.Ins{Op: api.IFence})
	}
	p.Code = append(p.Code, i)
	return p
}

func sameAs(t *testing.T, name string, p api.Program, may, hard bool) {
	t.Helper()
	if got := May(p); got != may {
		t.Errorf("%s: May = %v, want %v", name, got, may)
	}
	if got := Hard(p); got != hard {
		t.Errorf("%s: Hard = %v, want %v", name, got, hard)
	}
}

// repeat has n instructions that are nothing but i.
func repeat(i api.Ins, n int) []api.Ins {
	out := make([]api.Ins, n)
	for k := range out {
		out[k] = i
	}
	return out
}

var (
	fence = api.Ins{Op: api.IFence}
	halt  = api.Ins{Op: api.IHalt}
)

func TestB1EveryRowOfTheTableWithItsEdges(t *testing.T) {
	small := []int{-1, 0, 1, 2, 3, 4, 5, 7, 8, 9, 10, least, greatest}
	numbers := []int64{
		0, 1, 3, 4, 6, 7, 63, 64, 65, -1, 1 << 32, 1<<32 + 1, 1 << 62, greatest, least, least + 1,
	}
	for _, r := range rows() {
		for _, a := range small {
			for _, b := range small {
				for _, c := range small {
					for _, n := range numbers {
						i := api.Ins{Op: r.op, A: a, B: b, C: c, N: n}
						p := sample(i)
						may, hard := r.allows(i, p, 8), r.allows(i, p, 10)
						if May(p) != may || Hard(p) != hard {
							t.Fatalf("%+v: May %v, want %v; Hard %v, want %v", i, May(p), may, Hard(p), hard)
						}
					}
				}
			}
		}
	}
}

func TestB1RegistersBelowAndAtTheirNumber(t *testing.T) {
	cases := []struct {
		r         int
		may, hard bool
	}{
		{-1, false, false},
		{0, true, true},
		{api.Regs - 1, true, true},
		{api.Regs, false, true},
		{api.Regs + 1, false, true},
		{api.Regs + 2, false, false},
	}
	for _, c := range cases {
		for _, i := range []api.Ins{
			{Op: api.ISet, A: c.r, N: least},
			{Op: api.IMove, A: c.r},
			{Op: api.IMove, B: c.r},
			{Op: api.IAdd, A: c.r, N: greatest},
			{Op: api.IAdd, B: c.r, N: -1},
			{Op: api.ILoad, A: c.r, C: 2, N: least},
			{Op: api.ILoad, B: c.r, C: 2, N: greatest},
			{Op: api.IPut, A: c.r, C: 1},
			{Op: api.IPut, B: c.r, C: 1},
			{Op: api.ILoadK, A: c.r, C: 2, N: 63},
			{Op: api.IPutK, A: c.r, C: 1, N: 3},
			{Op: api.IIf, A: c.r, C: api.CondSame, N: 6},
			{Op: api.IIf, B: c.r, C: api.CondMost},
			{Op: api.IHalt, A: c.r},
			{Op: api.IMask, A: c.r, N: 64},
			{Op: api.IOp + api.OpAdd, A: c.r},
			{Op: api.IOp + api.OpShl, B: c.r},
			{Op: api.IOp + api.OpMod, C: c.r},
		} {
			if p := sample(i); May(p) != c.may || Hard(p) != c.hard {
				t.Errorf("%+v: May %v, want %v; Hard %v, want %v", i, May(p), c.may, Hard(p), c.hard)
			}
		}
	}
}

func TestB1FieldsThatAreNotNamedAreZero(t *testing.T) {
	for _, i := range []api.Ins{
		{Op: api.ISet, A: 1, B: 1, N: 5},
		{Op: api.ISet, A: 1, C: 1, N: 5},
		{Op: api.IMove, A: 1, B: 2, C: 1},
		{Op: api.IMove, A: 1, B: 2, N: 1},
		{Op: api.IAdd, A: 1, B: 2, C: -1, N: 3},
		{Op: api.ILoadK, A: 1, B: 1, C: 1, N: 1},
		{Op: api.IPutK, A: 1, B: 1, C: 1, N: 1},
		{Op: api.IJump, A: 1, N: 1},
		{Op: api.IJump, B: 1, N: 1},
		{Op: api.IJump, C: 1, N: 1},
		{Op: api.IHalt, A: 1, B: 1},
		{Op: api.IHalt, A: 1, C: 1},
		{Op: api.IHalt, A: 1, N: 1},
		{Op: api.IMask, A: 1, B: 1, N: 1},
		{Op: api.IMask, A: 1, C: 1, N: 1},
		{Op: api.IFence, A: 1},
		{Op: api.IFence, B: 1},
		{Op: api.IFence, C: 1},
		{Op: api.IFence, N: 1},
		{Op: api.IFence, N: 1 << 32},
		{Op: api.IOp + api.OpXor, A: 1, B: 2, C: 3, N: least},
	} {
		if p := sample(i); May(p) || Hard(p) {
			t.Errorf("%+v may be, though a field is not 0 that is not named", i)
		}
	}
}

func TestB1NumbersJustInsideAndJustOutside(t *testing.T) {
	cases := []struct {
		i    api.Ins
		want bool
	}{
		{api.Ins{Op: api.ILoad, C: -1}, false},
		{api.Ins{Op: api.ILoad, C: 0}, true},
		{api.Ins{Op: api.IPut, C: 2}, true},
		{api.Ins{Op: api.IPut, C: 3}, false},
		{api.Ins{Op: api.ILoadK, C: -1}, false},
		{api.Ins{Op: api.IPutK, C: 3}, false},
		{api.Ins{Op: api.ILoadK, C: 0, N: -1}, false},
		{api.Ins{Op: api.ILoadK, C: 0, N: 0}, true},
		{api.Ins{Op: api.ILoadK, C: 0, N: 1}, false},
		{api.Ins{Op: api.IPutK, C: 1, N: 3}, true},
		{api.Ins{Op: api.IPutK, C: 1, N: 4}, false},
		{api.Ins{Op: api.IPutK, C: 2, N: 63}, true},
		{api.Ins{Op: api.IPutK, C: 2, N: 64}, false},
		{api.Ins{Op: api.IJump, N: -1}, false},
		{api.Ins{Op: api.IJump, N: 0}, true},
		{api.Ins{Op: api.IJump, N: 6}, true},
		{api.Ins{Op: api.IJump, N: 7}, false},
		{api.Ins{Op: api.IIf, C: api.CondLess, N: -1}, false},
		{api.Ins{Op: api.IIf, C: api.CondLess, N: 6}, true},
		{api.Ins{Op: api.IIf, C: api.CondLess, N: 7}, false},
		{api.Ins{Op: api.IIf, C: api.CondSame - 1}, false},
		{api.Ins{Op: api.IIf, C: api.CondSame}, true},
		{api.Ins{Op: api.IIf, C: api.CondMost}, true},
		{api.Ins{Op: api.IIf, C: api.CondMost + 1}, false},
		{api.Ins{Op: api.IMask, N: -1}, false},
		{api.Ins{Op: api.IMask, N: 0}, false},
		{api.Ins{Op: api.IMask, N: 1}, true},
		{api.Ins{Op: api.IMask, N: 64}, true},
		{api.Ins{Op: api.IMask, N: 65}, false},
	}
	for _, c := range cases {
		if p := sample(c.i); May(p) != c.want || Hard(p) != c.want {
			t.Errorf("%+v: May %v, Hard %v, want %v", c.i, May(p), Hard(p), c.want)
		}
	}
}

func TestB1OtherOpsMayNotBe(t *testing.T) {
	named := map[int]int{}
	for _, r := range rows() {
		named[r.op]++
	}
	ops := []int{least, least + 1, -1000, 1000, 1<<32 + api.IFence, greatest - 1, greatest}
	for op := -300; op <= 300; op++ {
		ops = append(ops, op)
	}
	for _, op := range ops {
		if named[op] > 0 {
			continue
		}
		for _, i := range []api.Ins{{Op: op}, {Op: op, A: 1, B: 2, C: 1, N: 1}, {Op: op, N: 1}, {Op: op, A: 1}} {
			sameAs(t, "another Op", sample(i), false, false)
		}
	}
}

func TestB1EachInstructionIsLookedAt(t *testing.T) {
	for at := range 5 {
		code := repeat(fence, 5)
		code[at] = api.Ins{Op: api.IHalt, A: api.Regs}
		sameAs(t, "one instruction of a hardened program", api.Program{Code: code}, false, true)
		code[at].A = api.Regs + 2
		sameAs(t, "one instruction that may not be", api.Program{Code: code}, false, false)
	}
}

func TestB1HowManyInstructions(t *testing.T) {
	cases := []struct {
		n         int
		may, hard bool
	}{
		{0, false, false},
		{1, true, true},
		{api.MaxCode - 1, true, true},
		{api.MaxCode, true, true},
		{api.MaxCode + 1, false, true},
		{api.MaxHard - 1, false, true},
		{api.MaxHard, false, true},
		{api.MaxHard + 1, false, false},
	}
	for _, c := range cases {
		sameAs(t, "so many instructions", api.Program{Code: repeat(halt, c.n)}, c.may, c.hard)
		if c.n == 0 {
			continue
		}
		last := repeat(api.Ins{Op: api.IJump, N: int64(c.n - 1)}, c.n)
		sameAs(t, "jumps to the last one", api.Program{Code: last}, c.may, c.hard)
		last[0].N = int64(c.n)
		sameAs(t, "a jump behind the last one", api.Program{Code: last}, false, false)
	}
	sameAs(t, "nothing at all", api.Program{}, false, false)
	sameAs(t, "regions alone", api.Program{Regions: []api.Region{{Log: 1}}}, false, false)
}

func TestB1HowManyRegions(t *testing.T) {
	for n := range api.MaxRegions + 3 {
		want := n <= api.MaxRegions
		p := api.Program{Regions: make([]api.Region, n), Code: []api.Ins{halt}}
		sameAs(t, "so many regions", p, want, want)
		p.Code = []api.Ins{{Op: api.ILoadK, C: n - 1}}
		sameAs(t, "a load of the last region", p, want && n > 0, want && n > 0)
		p.Code = []api.Ins{{Op: api.ILoad, C: n}}
		sameAs(t, "a load behind the last region", p, false, false)
	}
}

func TestB1LogOfARegion(t *testing.T) {
	for _, log := range []int{least, -64, -1, 0, 1, 5, api.MaxLog, api.MaxLog + 1, 62, 63, 64, 1 << 32, greatest} {
		want := log >= 0 && log <= api.MaxLog
		for at := range 3 {
			for _, secret := range []bool{false, true} {
				p := sample(halt)
				p.Regions[at] = api.Region{Log: log, Secret: secret}
				sameAs(t, "a region's Log", p, want, want)
				p.Code = []api.Ins{{Op: api.ILoadK, C: at}}
				sameAs(t, "a word of such a region", p, want, want)
			}
		}
	}
}

func TestB1WhatMayBeIsHard(t *testing.T) {
	for _, r := range rows() {
		for a := range api.Regs + 3 {
			for n := range int64(8) {
				if p := sample(api.Ins{Op: r.op, A: a, B: a, C: int(n), N: n}); May(p) && !Hard(p) {
					t.Errorf("%+v may be, but is not hard", p.Code[6])
				}
			}
		}
	}
}

// lists has one list for each of the lengths, filled with numbers that tell nothing.
func lists(lengths ...int) [][]int64 {
	out := make([][]int64, len(lengths))
	for i, n := range lengths {
		out[i] = make([]int64, n)
		for k := range out[i] {
			out[i][k] = int64(k)*least - int64(i)
		}
	}
	return out
}

func TestB2FitsByListsAndTheirLengths(t *testing.T) {
	three := sample(halt)
	full := api.Program{Regions: []api.Region{{Log: 0}, {Log: 1}, {Log: 2}, {Log: 3}, {Log: 4}, {Log: 5}}}
	over := api.Program{Regions: make([]api.Region, api.MaxRegions+1)}
	cases := []struct {
		name   string
		p      api.Program
		memory [][]int64
		want   bool
	}{
		{"as it should be", three, lists(1, 4, 64), true},
		{"too few lists", three, lists(1, 4), false},
		{"too many lists", three, lists(1, 4, 64, 1), false},
		{"an empty list too many", three, lists(1, 4, 64, 0), false},
		{"no list", three, nil, false},
		{"first list empty", three, lists(0, 4, 64), false},
		{"first list too long", three, lists(2, 4, 64), false},
		{"middle list too short", three, lists(1, 3, 64), false},
		{"middle list too long", three, lists(1, 5, 64), false},
		{"last list too short", three, lists(1, 4, 63), false},
		{"last list too long", three, lists(1, 4, 65), false},
		{"another order", three, lists(4, 1, 64), false},
		{"a nil list", three, [][]int64{{1}, nil, make([]int64, 64)}, false},
		{"no region, no list", api.Program{}, nil, true},
		{"no region, an empty memory", api.Program{Regions: []api.Region{}}, [][]int64{}, true},
		{"no region, a list", api.Program{}, lists(1), false},
		{"no region, an empty list", api.Program{}, lists(0), false},
		{"MaxRegions", full, lists(1, 2, 4, 8, 16, 32), true},
		{"MaxRegions, one list less", full, lists(1, 2, 4, 8, 16), false},
		{"too many regions", over, lists(1, 1, 1, 1, 1, 1, 1), false},
		{"too many regions, as many lists as may be", over, lists(1, 1, 1, 1, 1, 1), false},
	}
	for _, c := range cases {
		if got := Fits(c.p, c.memory); got != c.want {
			t.Errorf("%s: Fits = %v, want %v", c.name, got, c.want)
		}
	}
}

func TestB2FitsAtEachLog(t *testing.T) {
	size := 1
	for log := range api.MaxLog + 1 {
		p := api.Program{Regions: []api.Region{{Log: log, Secret: log%2 == 0}}}
		for _, n := range []int{0, size / 2, size - 1, size, size + 1, 2 * size} {
			if got := Fits(p, lists(n)); got != (n == size) {
				t.Errorf("Log %d, %d numbers: Fits = %v", log, n, got)
			}
		}
		size *= 2
	}
	for _, log := range []int{least, -64, -2, -1, api.MaxLog + 1, 62, 63, 64, 128, greatest} {
		for at := range 2 {
			p := api.Program{Regions: []api.Region{{}, {}}}
			p.Regions[at].Log = log
			for _, n := range []int{0, 1, 64, 128} {
				memory := lists(1, 1)
				memory[at] = make([]int64, n)
				if Fits(p, memory) {
					t.Errorf("Log %d with %d numbers fits", log, n)
				}
			}
			if Fits(p, nil) {
				t.Errorf("Log %d with no list fits", log)
			}
		}
	}
}

func TestB2FitsWhateverTheInstructionsAre(t *testing.T) {
	for _, code := range [][]api.Ins{
		nil,
		{{Op: 99}},
		{{Op: api.IHalt, A: 77}},
		repeat(halt, api.MaxHard+1),
	} {
		p := api.Program{Regions: []api.Region{{Log: 1}}, Code: code}
		if !Fits(p, lists(2)) || Fits(p, lists(1)) {
			t.Errorf("Fits hangs on %d instructions", len(code))
		}
	}
}

func TestB2MayAndHardOfAProgramThatRuns(t *testing.T) {
	p := api.Program{
		Regions: []api.Region{{Log: 2}, {Log: 3, Secret: true}},
		Code: []api.Ins{
			{Op: api.ILoadK, A: 1, C: 0, N: 3},
			{Op: api.IMask, A: 1, N: 8},
			{Op: api.ILoad, A: 2, B: 1, C: 1, N: 0},
			{Op: api.IOp + api.OpXor, A: 2, B: 2, C: 1},
			{Op: api.IPut, A: 2, B: 1, C: 1, N: 0},
			{Op: api.IAdd, A: 3, B: 3, N: 1},
			{Op: api.IIf, A: 3, B: 1, C: api.CondLess, N: 2},
			{Op: api.IFence},
			{Op: api.IHalt, A: 3},
		},
	}
	sameAs(t, "a program", p, true, true)
	p.Code[5].A = 9
	sameAs(t, "with a register of a hardened one", p, false, true)
	p.Code[6].N = 9
	sameAs(t, "with a jump to where nothing is", p, false, false)
}

func TestNothingIsChangedAndNothingBehindALengthIsRead(t *testing.T) {
	p := sample(api.Ins{Op: api.ILoadK, A: 1, C: 1, N: 3})
	same := sample(api.Ins{Op: api.ILoadK, A: 1, C: 1, N: 3})
	p.Code = append(p.Code, api.Ins{Op: 99})[:len(p.Code)]
	p.Regions = append(p.Regions, api.Region{Log: -5})[:len(p.Regions)]
	memory := append(lists(1, 4, 64), []int64{7})[:3]
	memory[1] = append(memory[1], 9)[:4]
	if !May(p) || !Hard(p) || !Fits(p, memory) {
		t.Error("what lies behind a length was read")
	}
	if !reflect.DeepEqual(p, same) || !reflect.DeepEqual(memory, lists(1, 4, 64)) {
		t.Error("an argument was changed")
	}
	if p.Code[:8][7].Op != 99 || p.Regions[:4][3].Log != -5 || memory[:4][3][0] != 7 || memory[1][:5][4] != 9 {
		t.Error("what lies behind a length was written")
	}
}
