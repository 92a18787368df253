package find

import (
	"math"
	"slices"
	"testing"

	"evenkeel/api"
	"evenkeel/check"
	"evenkeel/fence"
	"evenkeel/harden"
	"evenkeel/spec"
)

const (
	least    = math.MinInt64
	greatest = math.MaxInt64
)

// Regions of the programs that are written by hand.
const (
	open   = 0 // public
	hidden = 1 // secret
)

func set(a int, n int64) api.Ins { return api.Ins{Op: api.ISet, A: a, N: n} }

func move(a, b int) api.Ins { return api.Ins{Op: api.IMove, A: a, B: b} }

func add(a, b int, n int64) api.Ins { return api.Ins{Op: api.IAdd, A: a, B: b, N: n} }

func load(a, b, c int, n int64) api.Ins { return api.Ins{Op: api.ILoad, A: a, B: b, C: c, N: n} }

func put(a, b, c int, n int64) api.Ins { return api.Ins{Op: api.IPut, A: a, B: b, C: c, N: n} }

func loadK(a, c int, n int64) api.Ins { return api.Ins{Op: api.ILoadK, A: a, C: c, N: n} }

func putK(a, c int, n int64) api.Ins { return api.Ins{Op: api.IPutK, A: a, C: c, N: n} }

func jump(n int64) api.Ins { return api.Ins{Op: api.IJump, N: n} }

func when(a, cond, b int, n int64) api.Ins { return api.Ins{Op: api.IIf, A: a, B: b, C: cond, N: n} }

func halt(a int) api.Ins { return api.Ins{Op: api.IHalt, A: a} }

func mask(a int, n int64) api.Ins { return api.Ins{Op: api.IMask, A: a, N: n} }

func stop() api.Ins { return api.Ins{Op: api.IFence} }

func op(kind, a, b, c int) api.Ins { return api.Ins{Op: api.IOp + kind, A: a, B: b, C: c} }

func step(at int64) api.See { return api.See{Kind: api.SeeStep, A: at} }

func taken(number int64) api.See { return api.See{Kind: api.SeeWord, A: number} }

func putTo(number int64) api.See { return api.See{Kind: api.SeeWord, A: number, B: 1} }

func divided(a, b int64) api.See { return api.See{Kind: api.SeeDiv, A: a, B: b} }

func back() api.See { return api.See{Kind: api.SeeBack} }

// program has the regions open and hidden, of 4 words each: open has the words 0 to 3, hidden 4 to 7.
func program(code ...api.Ins) api.Program {
	return api.Program{Regions: []api.Region{{Log: 2}, {Log: 2, Secret: true}}, Code: code}
}

// secrets is a memory of such a program, with these words of hidden, and zeros behind them.
func secrets(words ...int64) [][]int64 {
	return [][]int64{{10, 11, 12, 13}, append(slices.Clone(words), make([]int64, 4-len(words))...)}
}

// led gives code with each IJump and IIf leading n further, if it leads to the number from or behind it.
func led(code []api.Ins, from, n int64) []api.Ins {
	out := slices.Clone(code)
	for at, i := range out {
		if (i.Op == api.IJump || i.Op == api.IIf) && i.N >= from {
			out[at].N += n
		}
	}
	return out
}

// padded gives p with n instructions that show nothing but their steps ahead of all others; who led to the first one does so still.
func padded(p api.Program, n int) api.Program {
	pad := slices.Repeat([]api.Ins{set(7, 1)}, n)
	return api.Program{Regions: p.Regions, Code: slices.Concat(pad, led(p.Code, 1, int64(n)))}
}

// An answer is what Find answers.
type answer struct {
	at    int
	found bool
	wrong api.Errno
}

var nothing = answer{}

func at(n int) answer { return answer{at: n, found: true} }

func refused(wrong api.Errno) answer { return answer{wrong: wrong} }

func asked(p api.Program, a, b [][]int64, script []int, fuel int) answer {
	n, found, wrong := Find(p, a, b, script, fuel)
	return answer{n, found, wrong}
}

// roomy gives a copy of list with something behind its length.
func roomy[T any](list []T, behind ...T) []T {
	return slices.Concat(list, behind)[:len(list)]
}

func roomyMemory(memory [][]int64) [][]int64 {
	out := roomy(memory, []int64{1, 2})
	for c := range out {
		out[c] = roomy(out[c], 70+int64(c), 80)
	}
	return out
}

// sameRoom tells whether two lists are the same, with what lies behind them.
func sameRoom[T comparable](one, two []T) bool {
	return len(one) == len(two) && slices.Equal(one[:cap(one)], two[:cap(two)])
}

func sameMemory(one, two [][]int64) bool { return slices.EqualFunc(one, two, sameRoom[int64]) }

// answers holds what Find answers against want: twice, with lists that have room behind them, and sees that all of it stays as it was.
func answers(t *testing.T, name string, p api.Program, a, b [][]int64, script []int, fuel int, want answer) {
	t.Helper()
	if got := asked(p, a, b, script, fuel); got != want {
		t.Errorf("%s: script %v, fuel %d: %+v, want %+v", name, script, fuel, got, want)
	}
	regions, code := roomy(p.Regions, api.Region{Log: 9}), roomy(p.Code, api.Ins{Op: -1}, api.Ins{})
	one, two, choices := roomyMemory(a), roomyMemory(b), roomy(script, 1, -1)
	if got := asked(api.Program{Regions: regions, Code: code}, one, two, choices, fuel); got != want {
		t.Errorf("%s: script %v, fuel %d, with room behind all lists: %+v, want %+v", name, script, fuel, got, want)
	}
	if !sameRoom(regions, roomy(p.Regions, api.Region{Log: 9})) || !sameRoom(code, roomy(p.Code, api.Ins{Op: -1}, api.Ins{})) ||
		!sameMemory(one, roomyMemory(a)) || !sameMemory(two, roomyMemory(b)) || !sameRoom(choices, roomy(script, 1, -1)) {
		t.Errorf("%s: what was handed in was changed", name)
	}
}

// bothWays is as answers, with the memories either way round.
func bothWays(t *testing.T, name string, p api.Program, a, b [][]int64, script []int, fuel int, want answer) {
	t.Helper()
	answers(t, name, p, a, b, script, fuel, want)
	answers(t, name+", the other way round", p, b, a, script, fuel, want)
}

func run(t *testing.T, p api.Program, memory [][]int64, script []int, fuel int) api.Shown {
	t.Helper()
	shown, wrong := spec.Run(p, memory, script, fuel)
	if wrong != api.OK {
		t.Fatalf("%v of %v with the script %v and the fuel %d", wrong, p, script, fuel)
	}
	return shown
}

// isFirst tells whether two lists are the same ahead of the number n, and there not any more.
func isFirst(one, two []api.See, n int) bool {
	if n < 0 || n > len(one) || n > len(two) || !slices.Equal(one[:n], two[:n]) {
		return false
	}
	if n == len(one) || n == len(two) {
		return len(one) != len(two)
	}
	return one[n] != two[n]
}

// right sees that what Find answers is so, of memories that fit and scripts and fuels that may be, and gives it.
func right(t *testing.T, name string, p api.Program, a, b [][]int64, script []int, fuel int) answer {
	t.Helper()
	got := asked(p, a, b, script, fuel)
	one, two := run(t, p, a, script, fuel).Seen, run(t, p, b, script, fuel).Seen
	switch {
	case got == nothing && slices.Equal(one, two):
	case got.found && got.wrong == api.OK && isFirst(one, two, got.at):
	default:
		t.Fatalf("%s: %+v of %v, script %v, fuel %d, memories %v and %v, which show %v and %v", name, got, p, script, fuel, a, b, one, two)
	}
	return got
}

// A maker makes programs that tell nothing ahead of time.
type maker struct {
	name string
	make func(api.Program) (api.Program, api.Fault)
}

func makers() []maker { return []maker{{"hardened", harden.Make}, {"fenced", fence.Make}} }

// made gives all that p, a program without fault, is made into.
func made(t *testing.T, name string, p api.Program) []api.Program {
	t.Helper()
	if fault := check.Check(p); fault.Code != api.OK {
		t.Fatalf("%s: %v of %v", name, fault, p)
	}
	var out []api.Program
	for _, m := range makers() {
		h, fault := m.make(p)
		if fault != (api.Fault{}) {
			t.Fatalf("%s, %s: %v of %v", name, m.name, fault, p)
		}
		out = append(out, h)
	}
	return out
}

// findsNothing holds all that was made of a program to K2.
func findsNothing(t *testing.T, name string, all []api.Program, one, two [][]int64, script []int, fuel int) {
	t.Helper()
	for n, h := range all {
		if got := asked(h, one, two, script, fuel); got != nothing {
			t.Fatalf("%s, %s: script %v, fuel %d, memories %v and %v: %+v of %v", name, makers()[n].name, script, fuel, one, two, got, h)
		}
	}
}

// scripts has all of n choices from 0 to below kinds.
func scripts(n, kinds int) [][]int {
	out := [][]int{{}}
	for range n {
		var longer [][]int
		for _, s := range out {
			for c := range kinds {
				longer = append(longer, append(slices.Clone(s), c))
			}
		}
		out = longer
	}
	return out
}
