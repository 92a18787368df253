package seq

import (
	"math"
	"math/big"
	"math/rand"
	"reflect"
	"slices"
	"testing"

	"evenkeel/api"
	"evenkeel/num"
)

const (
	least    = math.MinInt64
	greatest = math.MaxInt64
	last     = api.Regs + 1 // the last register of a hardened program
)

func step(at int64) api.See { return api.See{Kind: api.SeeStep, A: at} }

func take(number int64) api.See { return api.See{Kind: api.SeeWord, A: number} }

func put(number int64) api.See { return api.See{Kind: api.SeeWord, A: number, B: 1} }

func div(a, b int64) api.See { return api.See{Kind: api.SeeDiv, A: a, B: b} }

func set(a int, n int64) api.Ins { return api.Ins{Op: api.ISet, A: a, N: n} }

func halt(a int) api.Ins { return api.Ins{Op: api.IHalt, A: a} }

// sized has regions of the given Logs, and every word its own number plus 100.
func sized(code []api.Ins, logs ...int) (api.Program, [][]int64) {
	p := api.Program{Code: code}
	memory := [][]int64{}
	next := int64(100)
	for c, log := range logs {
		p.Regions = append(p.Regions, api.Region{Log: log, Secret: c%2 == 1})
		words := []int64{}
		for range 1 << log {
			words = append(words, next)
			next++
		}
		memory = append(memory, words)
	}
	return p, memory
}

func deep(memory [][]int64) [][]int64 {
	out := make([][]int64, len(memory))
	for c := range memory {
		out[c] = slices.Clone(memory[c])
	}
	return out
}

func sameMemory(a, b [][]int64) bool {
	return slices.EqualFunc(a, b, func(x, y []int64) bool { return slices.Equal(x, y) })
}

func same(a, b api.Shown) bool {
	return a.End == b.End && a.Value == b.Value && a.Steps == b.Steps &&
		slices.Equal(a.Seen, b.Seen) && sameMemory(a.Memory, b.Memory)
}

// runs holds what a run answers against want, and sees that all that was handed in stays as it was.
func runs(t *testing.T, name string, p api.Program, memory [][]int64, fuel int, want api.Shown) {
	t.Helper()
	regions, code, before := slices.Clone(p.Regions), slices.Clone(p.Code), deep(memory)
	got, e := Run(p, memory, fuel)
	if e != api.OK || !same(got, want) {
		t.Errorf("%s: fuel %d: got %+v, %v; want %+v", name, fuel, got, e, want)
	}
	if !slices.Equal(regions, p.Regions) || !slices.Equal(code, p.Code) || !sameMemory(before, memory) {
		t.Errorf("%s: what was handed in was changed", name)
	}
}

func refused(t *testing.T, name string, p api.Program, memory [][]int64, fuel int, want api.Errno) {
	t.Helper()
	got, e := Run(p, memory, fuel)
	if e != want || !reflect.DeepEqual(got, api.Shown{}) {
		t.Errorf("%s: got %+v, %v; want nothing, %v", name, got, e, want)
	}
}

func TestC1WrongInputs(t *testing.T) {
	good, memory := sized([]api.Ins{halt(0)}, 1, 2)
	bad := api.Program{Regions: good.Regions, Code: []api.Ins{halt(last + 1)}}
	long := api.Program{Code: slices.Repeat([]api.Ins{{Op: api.IFence}}, api.MaxHard+1)}
	wide, _ := sized([]api.Ins{halt(0)}, api.MaxLog+1)
	low := api.Program{Regions: []api.Region{{Log: -1}}, Code: []api.Ins{halt(0)}}
	many, manyWords := sized([]api.Ins{halt(0)}, 0, 0, 0, 0, 0, 0, 0)
	for _, c := range []struct {
		name   string
		p      api.Program
		memory [][]int64
		fuel   int
		want   api.Errno
	}{
		{"no program", api.Program{}, nil, 1, api.ErrForm},
		{"a register too many", bad, memory, 1, api.ErrForm},
		{"too long", long, nil, 1, api.ErrForm},
		{"an unknown instruction", api.Program{Code: []api.Ins{{Op: 13}}}, nil, 1, api.ErrForm},
		{"a field that is not named", api.Program{Code: []api.Ins{{Op: api.IFence, A: 1}}}, nil, 1, api.ErrForm},
		{"a word beyond the region", api.Program{Regions: good.Regions, Code: []api.Ins{{Op: api.ILoadK, N: 2}}}, memory, 1, api.ErrForm},
		{"a region too large", wide, [][]int64{make([]int64, 128)}, 1, api.ErrForm},
		{"a Log below 0", low, [][]int64{{}}, 1, api.ErrForm},
		{"too many regions", many, manyWords, 1, api.ErrForm},
		{"no memory", good, nil, 1, api.ErrForm},
		{"a list too few", good, memory[:1], 1, api.ErrForm},
		{"a list too many", good, append(deep(memory), []int64{1}), 1, api.ErrForm},
		{"a word too few", good, [][]int64{{1, 2}, {3, 4, 5}}, 1, api.ErrForm},
		{"a word too many", good, [][]int64{{1, 2, 3}, {3, 4, 5, 6}}, 1, api.ErrForm},
		{"fuel below 0", good, memory, -1, api.ErrRange},
		{"the least fuel", good, memory, math.MinInt, api.ErrRange},
		{"fuel above MaxFuel", good, memory, api.MaxFuel + 1, api.ErrRange},
		{"the greatest fuel", good, memory, math.MaxInt, api.ErrRange},
		{"not hard, and fuel below 0", bad, memory, -1, api.ErrForm},
		{"not hard, and fuel above MaxFuel", bad, memory, api.MaxFuel + 1, api.ErrForm},
		{"memory that does not fit, and fuel below 0", good, memory[1:], -1, api.ErrForm},
		{"memory that does not fit, and fuel above MaxFuel", good, nil, api.MaxFuel + 1, api.ErrForm},
	} {
		refused(t, c.name, c.p, c.memory, c.fuel, c.want)
	}
}

// All registers begin at 0, also the two that only a hardened program has.
func TestC1RegistersBeginAtZero(t *testing.T) {
	for r := range last + 1 {
		p, memory := sized([]api.Ins{halt(r)})
		want := api.Shown{End: api.EndDone, Steps: 1, Seen: []api.See{step(0)}}
		runs(t, "halt at once", p, memory, 1, want)
		var code []api.Ins
		for other := range last + 1 {
			if other != r {
				code = append(code, set(other, int64(other)+50))
			}
		}
		p.Code = append(code, halt(r))
		got, e := Run(p, memory, 99)
		if e != api.OK || got.End != api.EndDone || got.Value != 0 {
			t.Errorf("register %d is not 0 where only the others are set: %+v, %v", r, got, e)
		}
	}
}

func TestC1FuelAndNoInstructionLeft(t *testing.T) {
	p, memory := sized([]api.Ins{set(1, 9), {Op: api.IPutK, A: 1, C: 0, N: 1}, halt(1)}, 1)
	seen := []api.See{step(0), step(1), put(1), step(2)}
	put9 := [][]int64{{100, 9}}
	runs(t, "halts", p, memory, 0, api.Shown{End: api.EndFuel, Memory: memory})
	runs(t, "halts", p, memory, 1, api.Shown{End: api.EndFuel, Steps: 1, Seen: seen[:1], Memory: memory})
	runs(t, "halts", p, memory, 2, api.Shown{End: api.EndFuel, Steps: 2, Seen: seen[:3], Memory: put9})
	done := api.Shown{End: api.EndDone, Value: 9, Steps: 3, Seen: seen, Memory: put9}
	for _, fuel := range []int{3, 4, api.MaxFuel} {
		runs(t, "halts", p, memory, fuel, done)
	}

	p.Code = p.Code[:2]
	runs(t, "runs out", p, memory, 1, api.Shown{End: api.EndFuel, Steps: 1, Seen: seen[:1], Memory: memory})
	runs(t, "runs out", p, memory, 2, api.Shown{End: api.EndFuel, Steps: 2, Seen: seen[:3], Memory: put9})
	out := api.Shown{End: api.EndFault, Steps: 2, Seen: seen[:3], Memory: put9}
	for _, fuel := range []int{3, 4, api.MaxFuel} {
		runs(t, "runs out", p, memory, fuel, out)
	}

	p.Code = []api.Ins{set(1, 9), {Op: api.ILoad, A: 2, B: 1, C: 0}, halt(1)}
	runs(t, "faults", p, memory, 1, api.Shown{End: api.EndFuel, Steps: 1, Seen: seen[:1], Memory: memory})
	fault := api.Shown{End: api.EndFault, Steps: 2, Seen: []api.See{step(0), step(1)}, Memory: memory}
	for _, fuel := range []int{2, 3, api.MaxFuel} {
		runs(t, "faults", p, memory, fuel, fault)
	}
}

func TestC1MaxFuel(t *testing.T) {
	p, memory := sized([]api.Ins{{Op: api.IAdd, A: 3, B: 3, N: 1}, {Op: api.IPutK, A: 3}, {Op: api.IJump, N: 0}}, 0)
	for _, fuel := range []int{api.MaxFuel - 1, api.MaxFuel} {
		var seen []api.See
		for at := range fuel {
			seen = append(seen, step(int64(at%3)))
			if at%3 == 1 {
				seen = append(seen, put(0))
			}
		}
		puts := int64(fuel+1) / 3
		runs(t, "without end", p, memory, fuel, api.Shown{End: api.EndFuel, Steps: fuel, Seen: seen, Memory: [][]int64{{puts}}})
	}
	// The longest program that there may be runs to its last instruction, and beyond it.
	long := api.Program{Code: slices.Repeat([]api.Ins{{Op: api.IFence}}, api.MaxHard)}
	var seen []api.See
	for at := range api.MaxHard {
		seen = append(seen, step(int64(at)))
	}
	runs(t, "long", long, nil, api.MaxHard, api.Shown{End: api.EndFuel, Steps: api.MaxHard, Seen: seen})
	runs(t, "long", long, nil, api.MaxFuel, api.Shown{End: api.EndFault, Steps: api.MaxHard, Seen: seen})
}

// value runs code behind ones that set register 1 to a and register 2 to b, and tells register 3 by an IHalt behind it.
func value(t *testing.T, a, b int64, i api.Ins, shown ...api.See) int64 {
	t.Helper()
	p, memory := sized([]api.Ins{set(1, a), set(2, b), set(3, 77), i, halt(3)})
	got, e := Run(p, memory, 9)
	want := append([]api.See{step(0), step(1), step(2), step(3)}, shown...)
	want = append(want, step(4))
	if e != api.OK || got.End != api.EndDone || got.Steps != 5 || !slices.Equal(got.Seen, want) {
		t.Errorf("%+v of %d, %d: got %+v, %v; want to see %v", i, a, b, got, e, want)
	}
	return got.Value
}

func TestC2SetMoveAdd(t *testing.T) {
	for _, n := range []int64{0, 1, -1, least, greatest} {
		if got := value(t, 5, 6, set(3, n)); got != n {
			t.Errorf("ISet of %d: %d", n, got)
		}
		if got := value(t, n, 6, api.Ins{Op: api.IMove, A: 3, B: 1}); got != n {
			t.Errorf("IMove of %d: %d", n, got)
		}
	}
	for _, c := range [][3]int64{{1, 2, 3}, {5, -7, -2}, {greatest, 1, least}, {least, -1, greatest}, {least, least, 0}, {-1, 1, 0}} {
		if got := value(t, c[0], 6, api.Ins{Op: api.IAdd, A: 3, B: 1, N: c[1]}); got != c[2] {
			t.Errorf("IAdd of %d and %d: %d, want %d", c[0], c[1], got, c[2])
		}
	}
}

// What is taken from is not changed, and a register may stand for both.
func TestC2RegistersTakenFromStay(t *testing.T) {
	for _, i := range []api.Ins{
		{Op: api.IMove, A: 3, B: 1},
		{Op: api.IAdd, A: 3, B: 1, N: 4},
		{Op: api.IOp + api.OpSub, A: 3, B: 1, C: 2},
		{Op: api.IMask, A: 3, N: 3},
	} {
		for r, want := range map[int]int64{1: 30, 2: 8} {
			p, memory := sized([]api.Ins{set(1, 30), set(2, 8), i, halt(r)})
			if got, e := Run(p, memory, 9); e != api.OK || got.Value != want {
				t.Errorf("%+v: register %d is %d, want %d (%v)", i, r, got.Value, want, e)
			}
		}
	}
	p, memory := sized([]api.Ins{set(last, 30), {Op: api.IOp + api.OpSub, A: last, B: last, C: last}, halt(last)})
	want := api.Shown{End: api.EndDone, Steps: 3, Seen: []api.See{step(0), step(1), step(2)}}
	runs(t, "one register", p, memory, 9, want)
	p.Code[1] = api.Ins{Op: api.IOp + api.OpMod, A: last, B: last, C: last}
	want.Seen = []api.See{step(0), step(1), div(30, 30), step(2)}
	runs(t, "one register divided", p, memory, 9, want)
}

func TestC2Operations(t *testing.T) {
	pairs := [][2]int64{{0, 0}, {7, 3}, {3, 7}, {-1, 2}, {9, 0}, {least, -1}, {greatest, 65}, {-5, -5}}
	for op := api.OpAdd; op <= api.OpMod; op++ {
		for _, c := range pairs {
			var shown []api.See
			if op == api.OpDiv || op == api.OpMod {
				shown = []api.See{div(c[0], c[1])}
			}
			i := api.Ins{Op: api.IOp + op, A: 3, B: 1, C: 2}
			if got, want := value(t, c[0], c[1], i, shown...), num.Op(op, c[0], c[1]); got != want {
				t.Errorf("operation %d of %d and %d: %d, want %d", op, c[0], c[1], got, want)
			}
		}
	}
}

func TestC2Mask(t *testing.T) {
	for _, c := range [][3]int64{
		{0, 1, 0}, {1, 1, 0}, {-1, 1, 0}, {least, 64, 0}, {greatest, 64, 0}, {-1, 64, 0},
		{63, 64, 63}, {64, 64, 0}, {65, 64, 0}, {4, 5, 4}, {5, 5, 0}, {1, 5, 1},
	} {
		p, memory := sized([]api.Ins{set(last, c[0]), {Op: api.IMask, A: last, N: c[1]}, halt(last)})
		want := api.Shown{End: api.EndDone, Value: c[2], Steps: 3, Seen: []api.See{step(0), step(1), step(2)}}
		runs(t, "mask", p, memory, 9, want)
	}
}

func TestC2FenceAndJump(t *testing.T) {
	p, memory := sized([]api.Ins{{Op: api.IFence}, {Op: api.IJump, N: 3}, halt(0), set(4, 6), halt(4)})
	seen := []api.See{step(0), step(1), step(3), step(4)}
	runs(t, "jump ahead", p, memory, 9, api.Shown{End: api.EndDone, Value: 6, Steps: 4, Seen: seen})
	p.Code = []api.Ins{{Op: api.IJump, N: 2}, halt(5), set(5, 8), {Op: api.IJump, N: 1}}
	seen = []api.See{step(0), step(2), step(3), step(1)}
	runs(t, "jump back", p, memory, 9, api.Shown{End: api.EndDone, Value: 8, Steps: 4, Seen: seen})
	p.Code = []api.Ins{{Op: api.IJump, N: 0}}
	seen = slices.Repeat([]api.See{step(0)}, 7)
	runs(t, "jump to itself", p, memory, 7, api.Shown{End: api.EndFuel, Steps: 7, Seen: seen})
}

func TestC2If(t *testing.T) {
	numbers := []int64{0, 1, 2, -1, least, greatest}
	for cond := api.CondSame; cond <= api.CondMost; cond++ {
		for _, a := range numbers {
			for _, b := range numbers {
				p, memory := sized([]api.Ins{set(8, a), set(9, b), {Op: api.IIf, A: 8, B: 9, C: cond, N: 4}, halt(8), halt(9)})
				want := api.Shown{End: api.EndDone, Value: a, Steps: 4, Seen: []api.See{step(0), step(1), step(2), step(3)}}
				if num.Holds(cond, a, b) {
					want.Value, want.Seen[3] = b, step(4)
				}
				runs(t, "if", p, memory, 9, want)
			}
		}
	}
}

// Values in a loop: 5 words of a region are summed up into another one.
func TestC2Loop(t *testing.T) {
	p, memory := sized([]api.Ins{
		set(1, 5),
		{Op: api.ILoad, A: 2, B: 0, C: 1},
		{Op: api.IOp + api.OpAdd, A: 3, B: 3, C: 2},
		{Op: api.IAdd, A: 0, B: 0, N: 1},
		{Op: api.IIf, A: 0, B: 1, C: api.CondLess, N: 1},
		{Op: api.IPutK, A: 3, C: 0},
		halt(3),
	}, 0, 3)
	seen := []api.See{step(0)}
	for n := range int64(5) {
		seen = append(seen, step(1), take(1+n), step(2), step(3), step(4))
	}
	seen = append(seen, step(5), put(0), step(6))
	sum := int64(101 + 102 + 103 + 104 + 105)
	after := deep(memory)
	after[0][0] = sum
	runs(t, "loop", p, memory, 99, api.Shown{End: api.EndDone, Value: sum, Steps: 23, Seen: seen, Memory: after})
}

// Each word of regions of several sizes is taken and put by its index, and shown by its number.
func TestC2EachWord(t *testing.T) {
	logs := []int{2, 0, api.MaxLog, 1, 0, 3}
	number := int64(0)
	for c, log := range logs {
		for index := range int64(1) << log {
			for _, base := range []int64{0, index, 1000, -3, least, greatest} {
				reachesWord(t, logs, c, base, index-base, index, number)
			}
			reachesWordK(t, logs, c, index, number)
			number++
		}
	}
}

// reachesWord takes and puts by a register that is base, and n beside it.
func reachesWord(t *testing.T, logs []int, c int, base, n, index, number int64) {
	t.Helper()
	p, memory := sized([]api.Ins{set(7, base), {Op: api.ILoad, A: 3, B: 7, C: c, N: n}, halt(3)}, logs...)
	seen := []api.See{step(0), step(1), take(number), step(2)}
	runs(t, "ILoad", p, memory, 9, api.Shown{End: api.EndDone, Value: 100 + number, Steps: 3, Seen: seen, Memory: memory})
	p.Code = []api.Ins{set(7, base), set(9, -8), {Op: api.IPut, A: 9, B: 7, C: c, N: n}, halt(9)}
	after := deep(memory)
	after[c][index] = -8
	seen = []api.See{step(0), step(1), step(2), put(number), step(3)}
	runs(t, "IPut", p, memory, 9, api.Shown{End: api.EndDone, Value: -8, Steps: 4, Seen: seen, Memory: after})
}

// Register 0 is not 0 here, since ILoadK and IPutK have 0 as B but don't ask for a register.
func reachesWordK(t *testing.T, logs []int, c int, index, number int64) {
	t.Helper()
	p, memory := sized([]api.Ins{set(0, 2), {Op: api.ILoadK, A: 3, C: c, N: index}, halt(3)}, logs...)
	seen := []api.See{step(0), step(1), take(number), step(2)}
	runs(t, "ILoadK", p, memory, 9, api.Shown{End: api.EndDone, Value: 100 + number, Steps: 3, Seen: seen, Memory: memory})
	p.Code = []api.Ins{set(0, 2), {Op: api.IPutK, A: 0, C: c, N: index}, halt(0)}
	after := deep(memory)
	after[c][index] = 2
	seen = []api.See{step(0), step(1), put(number), step(2)}
	runs(t, "IPutK", p, memory, 9, api.Shown{End: api.EndDone, Value: 2, Steps: 3, Seen: seen, Memory: after})
}

// A word just below or above its region ends the run, also where another region has a word there.
func TestC2WordsThatAreNotThere(t *testing.T) {
	logs := []int{1, 2, 0}
	for c, log := range logs {
		words := int64(1) << log
		for _, index := range []int64{-1, words, words + 1, -2, -64, 64, least, greatest} {
			for _, base := range []int64{0, index, 5, -5, least, greatest} {
				for _, op := range []int{api.ILoad, api.IPut} {
					i := api.Ins{Op: op, A: 3, B: 7, C: c, N: index - base}
					p, memory := sized([]api.Ins{set(7, base), set(3, 55), i, halt(3)}, logs...)
					seen := []api.See{step(0), step(1), step(2)}
					runs(t, "not there", p, memory, 9, api.Shown{End: api.EndFault, Steps: 3, Seen: seen, Memory: memory})
				}
			}
		}
	}
}

// A base and N whose sum is beyond 64 bits mean the word that is left of it.
func TestC2IndexBeyond64Bits(t *testing.T) {
	for _, c := range [][2]int64{{least, least}, {-1, 1}, {greatest, least + 1}} {
		reachesWord(t, []int{1, 1}, 1, c[0], c[1], 0, 2)
	}
	for _, c := range [][2]int64{{greatest, greatest}, {greatest, 1}, {1, greatest}} {
		p, memory := sized([]api.Ins{set(7, c[0]), {Op: api.ILoad, A: 3, B: 7, C: 1, N: c[1]}, halt(3)}, 1, 1)
		seen := []api.See{step(0), step(1)}
		runs(t, "beyond", p, memory, 9, api.Shown{End: api.EndFault, Steps: 2, Seen: seen, Memory: memory})
	}
}

// What was put is what is taken later, and what was put ahead of a fault stays.
func TestC2PutThenTake(t *testing.T) {
	p, memory := sized([]api.Ins{
		set(1, 11),
		{Op: api.IPut, A: 1, B: 0, C: 1, N: 3},
		{Op: api.IPutK, A: 1, C: 0, N: 0},
		{Op: api.ILoadK, A: 2, C: 1, N: 3},
		{Op: api.IOp + api.OpMod, A: 3, B: 2, C: 0},
		{Op: api.ILoad, A: 4, B: 2, C: 1},
	}, 0, 2)
	seen := []api.See{step(0), step(1), put(4), step(2), put(0), step(3), take(4), step(4), div(11, 0), step(5)}
	after := [][]int64{{11}, {101, 102, 103, 11}}
	runs(t, "put then take", p, memory, 99, api.Shown{End: api.EndFault, Steps: 6, Seen: seen, Memory: after})
	runs(t, "put then take", p, memory, 6, api.Shown{End: api.EndFault, Steps: 6, Seen: seen, Memory: after})
	runs(t, "put then take", p, memory, 5, api.Shown{End: api.EndFuel, Steps: 5, Seen: seen[:9], Memory: after})
}

// Value is 0 but of EndDone, whatever the registers are; it may be any number there.
func TestC3Value(t *testing.T) {
	for _, n := range []int64{0, 1, -1, least, greatest} {
		var code []api.Ins
		var seen []api.See
		for r := range last + 1 {
			code = append(code, set(r, n))
			seen = append(seen, step(int64(r)))
		}
		p, memory := sized(code)
		runs(t, "no halt", p, memory, 99, api.Shown{End: api.EndFault, Steps: 10, Seen: seen})
		runs(t, "no fuel", p, memory, 10, api.Shown{End: api.EndFuel, Steps: 10, Seen: seen})
		p.Code = append(code, halt(last))
		seen = append(seen, step(10))
		runs(t, "halt", p, memory, 11, api.Shown{End: api.EndDone, Value: n, Steps: 11, Seen: seen})
	}
}

// What is answered is new memory: it shares none with what was handed in, and no list of it with another.
func TestC3NewMemory(t *testing.T) {
	backing := []int64{1, 2, 3, 4, 5, 6, 7, 8}
	memory := [][]int64{backing[0:2], backing[0:4], backing[1:2]}
	p, _ := sized([]api.Ins{{Op: api.IPutK, A: 0, C: 1, N: 1}, halt(0)}, 1, 2, 0)
	want := [][]int64{{1, 2}, {1, 0, 3, 4}, {2}}
	seen := []api.See{step(0), put(3), step(1)}
	runs(t, "one backing", p, memory, 9, api.Shown{End: api.EndDone, Steps: 2, Seen: seen, Memory: want})
	if !slices.Equal(backing, []int64{1, 2, 3, 4, 5, 6, 7, 8}) {
		t.Errorf("what lies behind a list was written: %v", backing)
	}
	got, _ := Run(p, memory, 9)
	again, _ := Run(p, memory, 9)
	for c := range got.Memory {
		whole := got.Memory[c][:cap(got.Memory[c])]
		for n := range whole {
			whole[n] = -99
		}
		for other := c + 1; other < len(want); other++ {
			if !slices.Equal(got.Memory[other], want[other]) {
				t.Errorf("lists %d and %d share memory", c, other)
			}
		}
	}
	got.Seen[0] = api.See{}
	if !sameMemory(again.Memory, want) || !slices.Equal(again.Seen, seen) || backing[0] != 1 {
		t.Errorf("answers share memory: %+v, %v", again, backing)
	}
}

// plain runs a program as the chapter's words say, on lists of words, with whole numbers without bounds for indexes.
type plain struct {
	registers map[int]int64
	memory    [][]int64
	out       api.Shown
}

// wrapped is n without what is beyond 64 bits.
func wrapped(n *big.Int) int64 {
	low := new(big.Int).And(n, new(big.Int).SetUint64(math.MaxUint64))
	return int64(low.Uint64())
}

func together(a, b int64) int64 { return wrapped(new(big.Int).Add(big.NewInt(a), big.NewInt(b))) }

func runPlain(p api.Program, memory [][]int64, fuel int) api.Shown {
	r := plain{registers: map[int]int64{}, memory: deep(memory)}
	r.out.Memory = r.memory
	at := 0
	for r.out.Steps < fuel {
		if at >= len(p.Code) {
			r.out.End = api.EndFault
			return r.out
		}
		r.out.Steps++
		r.out.Seen = append(r.out.Seen, step(int64(at)))
		var ended bool
		at, ended = r.step(p.Code[at], at)
		if ended {
			return r.out
		}
	}
	return r.out
}

func (r *plain) step(i api.Ins, at int) (int, bool) {
	a, b, c := r.registers[i.A], r.registers[i.B], r.registers[i.C]
	switch {
	case i.Op == api.ISet:
		r.registers[i.A] = i.N
	case i.Op == api.IMove:
		r.registers[i.A] = b
	case i.Op == api.IAdd:
		r.registers[i.A] = together(b, i.N)
	case i.Op == api.ILoad || i.Op == api.IPut:
		return at + 1, r.word(i, together(b, i.N), i.Op == api.IPut)
	case i.Op == api.ILoadK || i.Op == api.IPutK:
		return at + 1, r.word(i, i.N, i.Op == api.IPutK)
	case i.Op == api.IJump, i.Op == api.IIf && num.Holds(i.C, a, b):
		return int(i.N), false
	case i.Op == api.IHalt:
		r.out.End, r.out.Value = api.EndDone, a
		return at, true
	case i.Op == api.IMask && (a < 0 || a > i.N-1):
		r.registers[i.A] = 0
	case i.Op > api.IOp:
		if op := i.Op - api.IOp; op == api.OpDiv || op == api.OpMod {
			r.out.Seen = append(r.out.Seen, div(b, c))
		}
		r.registers[i.A] = num.Op(i.Op-api.IOp, b, c)
	}
	return at + 1, false
}

func (r *plain) word(i api.Ins, index int64, puts bool) bool {
	if index < 0 || index >= int64(len(r.memory[i.C])) {
		r.out.End = api.EndFault
		return true
	}
	number := index
	for _, words := range r.memory[:i.C] {
		number += int64(len(words))
	}
	if puts {
		r.out.Seen = append(r.out.Seen, put(number))
		r.memory[i.C][index] = r.registers[i.A]
		return false
	}
	r.out.Seen = append(r.out.Seen, take(number))
	r.registers[i.A] = r.memory[i.C][index]
	return false
}

// drawn is some instruction of a hard program with the given regions and so many instructions.
func drawn(r *rand.Rand, regions []api.Region, code int) api.Ins {
	ops := []int{api.ISet, api.IMove, api.ILoad, api.IPut, api.ILoadK, api.IPutK, api.IJump, api.IIf, api.IHalt, api.IAdd, api.IMask, api.IFence}
	numbers := []int64{0, 1, 2, 3, 5, -1, -2, 64, least, greatest}
	a, b, c := r.Intn(last+1), r.Intn(last+1), r.Intn(last+1)
	n := numbers[r.Intn(len(numbers))]
	region := r.Intn(len(regions))
	op := ops[r.Intn(len(ops))]
	if op == api.IHalt && r.Intn(4) > 0 || r.Intn(4) == 0 {
		op = api.IOp + 1 + r.Intn(api.OpMod)
	}
	switch op {
	case api.ISet:
		return api.Ins{Op: op, A: a, N: n}
	case api.IMove:
		return api.Ins{Op: op, A: a, B: b}
	case api.IAdd:
		return api.Ins{Op: op, A: a, B: b, N: n}
	case api.ILoad, api.IPut:
		return api.Ins{Op: op, A: a, B: b, C: region, N: numbers[r.Intn(4)]}
	case api.ILoadK, api.IPutK:
		return api.Ins{Op: op, A: a, C: region, N: r.Int63n(1 << regions[region].Log)}
	case api.IJump:
		return api.Ins{Op: op, N: r.Int63n(int64(code))}
	case api.IIf:
		return api.Ins{Op: op, A: a, B: b, C: 1 + r.Intn(api.CondMost), N: r.Int63n(int64(code))}
	case api.IHalt:
		return api.Ins{Op: op, A: a}
	case api.IMask:
		return api.Ins{Op: op, A: a, N: 1 + r.Int63n(64)}
	case api.IFence:
		return api.Ins{Op: op}
	}
	return api.Ins{Op: op, A: a, B: b, C: c}
}

func TestC1C2C3DrawnPrograms(t *testing.T) {
	r := rand.New(rand.NewSource(3))
	ends := map[int]int{}
	for range 4000 {
		var logs []int
		for range 1 + r.Intn(api.MaxRegions) {
			logs = append(logs, r.Intn(api.MaxLog+1))
		}
		p, memory := sized(nil, logs...)
		size := 1 + r.Intn(20)
		for range size {
			p.Code = append(p.Code, drawn(r, p.Regions, size))
		}
		fuel := r.Intn(60)
		want := runPlain(p, memory, fuel)
		ends[want.End]++
		runs(t, "drawn", p, memory, fuel, want)
	}
	for end := api.EndFuel; end <= api.EndFault; end++ {
		if ends[end] < 100 {
			t.Errorf("only %d drawn programs end by %d", ends[end], end)
		}
	}
}
