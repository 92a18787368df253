package fence

import (
	"math"
	"reflect"
	"slices"
	"testing"

	"evenkeel/api"
	"evenkeel/layout"
	"evenkeel/seq"
	"evenkeel/spec"
)

const (
	least    = math.MinInt64
	greatest = math.MaxInt64
)

// Regions of the programs that are written by hand.
const (
	open   = 0 // public
	hidden = 1 // secret
)

// mostFuel is the greatest fuel of which J2 speaks.
const mostFuel = (api.MaxFuel - 4) / 4

func set(a int, n int64) api.Ins { return api.Ins{Op: api.ISet, A: a, N: n} }

func move(a, b int) api.Ins { return api.Ins{Op: api.IMove, A: a, B: b} }

func add(a, b int, n int64) api.Ins { return api.Ins{Op: api.IAdd, A: a, B: b, N: n} }

func load(a, b, c int, n int64) api.Ins { return api.Ins{Op: api.ILoad, A: a, B: b, C: c, N: n} }

func put(a, b, c int, n int64) api.Ins { return api.Ins{Op: api.IPut, A: a, B: b, C: c, N: n} }

func loadK(a, c int, n int64) api.Ins { return api.Ins{Op: api.ILoadK, A: a, C: c, N: n} }

func putK(a, c int, n int64) api.Ins { return api.Ins{Op: api.IPutK, A: a, C: c, N: n} }

func jump(n int64) api.Ins { return api.Ins{Op: api.IJump, N: n} }

func when(a, cond, b int, n int64) api.Ins { return api.Ins{Op: api.IIf, A: a, B: b, C: cond, N: n} }

func halt(a int) api.Ins { return api.Ins{Op: api.IHalt, A: a} }

func mask(a int, n int64) api.Ins { return api.Ins{Op: api.IMask, A: a, N: n} }

func fence() api.Ins { return api.Ins{Op: api.IFence} }

func op(kind, a, b, c int) api.Ins { return api.Ins{Op: api.IOp + kind, A: a, B: b, C: c} }

// program has the regions open and hidden, of 2^log words each.
func program(log int, code ...api.Ins) api.Program {
	return api.Program{Regions: []api.Region{{Log: log}, {Log: log, Secret: true}}, Code: code}
}

// counted has so many words in each region of p, each word another one, and not below first.
func counted(p api.Program, first int64) [][]int64 {
	out := [][]int64{}
	for _, region := range p.Regions {
		words := []int64{}
		for range 1 << region.Log {
			words = append(words, first)
			first++
		}
		out = append(out, words)
	}
	return out
}

func copied(p api.Program) api.Program {
	return api.Program{Regions: slices.Clone(p.Regions), Code: slices.Clone(p.Code)}
}

// with gives p with the instruction i at that number, and all that led behind it led there still.
func with(p api.Program, at int, i api.Ins) api.Program {
	code := slices.Insert(slices.Clone(p.Code), at, i)
	for n, j := range code {
		if (j.Op == api.IJump || j.Op == api.IIf) && n != at && j.N > int64(at) {
			code[n].N++
		}
	}
	return api.Program{Regions: p.Regions, Code: code}
}

func equal(p, q api.Program) bool {
	return slices.Equal(p.Regions, q.Regions) && slices.Equal(p.Code, q.Code)
}

// masks has the IMasks among the instructions.
func masks(code []api.Ins) []api.Ins {
	var out []api.Ins
	for _, i := range code {
		if i.Op == api.IMask {
			out = append(out, i)
		}
	}
	return out
}

// within tells whether few has only what many has, each at most as often.
func within(few, many []api.Ins) bool {
	left := slices.Clone(many)
	for _, i := range few {
		at := slices.Index(left, i)
		if at < 0 {
			return false
		}
		left = slices.Delete(left, at, at+1)
	}
	return true
}

// made fences p, a program without fault, and sees that it is as J1 says.
func made(t *testing.T, name string, p api.Program) api.Program {
	t.Helper()
	before := copied(p)
	h, fault := Make(p)
	if fault != (api.Fault{}) {
		t.Fatalf("%s: %v of %v", name, fault, p)
	}
	if !layout.Hard(h) {
		t.Fatalf("%s: not hard: %v of %v", name, h, p)
	}
	if !slices.Equal(h.Regions, p.Regions) || len(h.Code) > 4*len(p.Code) {
		t.Fatalf("%s: other regions, or %d instructions of %d", name, len(h.Code), len(p.Code))
	}
	if got, most := masks(h.Code), masks(p.Code); !within(got, most) {
		t.Fatalf("%s: the masks %v, of %v", name, got, most)
	}
	if !equal(p, before) {
		t.Fatalf("%s: what was handed in was changed", name)
	}
	return h
}

func run(t *testing.T, p api.Program, memory [][]int64, fuel int) api.Shown {
	t.Helper()
	shown, wrong := seq.Run(p, memory, fuel)
	if wrong != api.OK {
		t.Fatalf("%v of %v with the fuel %d", wrong, p, fuel)
	}
	return shown
}

// doesTheSame holds h against p as J2 says, also with the least fuel that p needs, and tells whether p ends.
func doesTheSame(t *testing.T, name string, p, h api.Program, memory [][]int64, fuel int) bool {
	t.Helper()
	want := run(t, p, memory, fuel)
	if want.End == api.EndFuel {
		return false
	}
	for _, n := range []int{want.Steps, fuel} {
		got := run(t, h, memory, 4*n+4)
		if got.End != want.End || got.Value != want.Value || !reflect.DeepEqual(got.Memory, want.Memory) {
			t.Fatalf("%s: fuel %d: End %d, Value %d, Memory %v; want %d, %d, %v; of %v",
				name, n, got.End, got.Value, got.Memory, want.End, want.Value, want.Memory, p)
		}
	}
	return true
}

func runAhead(t *testing.T, p api.Program, memory [][]int64, script []int, fuel int) api.Shown {
	t.Helper()
	shown, wrong := spec.Run(p, memory, script, fuel)
	if wrong != api.OK {
		t.Fatalf("%v of %v with the script %v and the fuel %d", wrong, p, script, fuel)
	}
	return shown
}

func publicWords(p api.Program, memory [][]int64) [][]int64 {
	var out [][]int64
	for c, region := range p.Regions {
		if !region.Secret {
			out = append(out, memory[c])
		}
	}
	return out
}

// tells tells whether two runs of p can be told apart by what J3 names.
func tells(t *testing.T, p api.Program, one, two [][]int64, script []int, fuel int) bool {
	t.Helper()
	a, b := runAhead(t, p, one, script, fuel), runAhead(t, p, two, script, fuel)
	a.Memory, b.Memory = publicWords(p, a.Memory), publicWords(p, b.Memory)
	return a.End != b.End || a.Value != b.Value || a.Steps != b.Steps ||
		!slices.Equal(a.Seen, b.Seen) || !reflect.DeepEqual(a.Memory, b.Memory)
}

// tellsNothing holds h, which p was made into, to J3.
func tellsNothing(t *testing.T, name string, p, h api.Program, one, two [][]int64, script []int, fuel int) {
	t.Helper()
	if tells(t, h, one, two, script, fuel) {
		t.Fatalf("%s: script %v, fuel %d, memories %v and %v: %v, made of %v, tells them apart", name, script, fuel, one, two, h.Code, p)
	}
}

// scripts has all of n choices from 0 to below kinds.
func scripts(n, kinds int) [][]int {
	out := [][]int{{}}
	for range n {
		var longer [][]int
		for _, s := range out {
			for c := range kinds {
				longer = append(longer, append(slices.Clone(s), c))
			}
		}
		out = longer
	}
	return out
}
