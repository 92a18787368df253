package spec

import (
	"math"
	"math/big"
	"math/rand"
	"slices"
	"testing"

	"evenkeel/api"
	"evenkeel/num"
)

// A world is all that is taken back.
type world struct {
	registers map[int]int64
	words     []int64
	were      [][]int64 // of each word, what it was ahead of each time that it was put
	next      int
}

func (w world) copied() world {
	out := world{registers: map[int]int64{}, words: slices.Clone(w.words), next: w.next}
	for r, n := range w.registers {
		out.registers[r] = n
	}
	for _, were := range w.were {
		out.were = append(out.were, slices.Clone(were))
	}
	return out
}

// plain runs a program as the chapter's words say: each step that takes a choice is done with a choice of 0 in a world of its own first.
type plain struct {
	world
	p      api.Program
	script []int
	right  *world // where it comes back to, if it is ahead of time
	behind int    // steps since the choice
	out    api.Shown
	ended  bool
}

// wrapped is n without what is beyond 64 bits.
func wrapped(n *big.Int) int64 {
	low := new(big.Int).And(n, new(big.Int).SetUint64(math.MaxUint64))
	return int64(low.Uint64())
}

func together(a, b int64) int64 { return wrapped(new(big.Int).Add(big.NewInt(a), big.NewInt(b))) }

func (r *plain) see(kind int, a, b int64) {
	r.out.Seen = append(r.out.Seen, api.See{Kind: kind, A: a, B: b})
}

func (r *plain) takeBack() {
	r.see(api.SeeBack, 0, 0)
	r.world, r.right = *r.right, nil
}

func runPlain(p api.Program, memory [][]int64, script []int, fuel int) api.Shown {
	r := plain{p: p, script: script, world: world{registers: map[int]int64{}}}
	for _, words := range memory {
		r.words = append(r.words, words...)
	}
	r.were = make([][]int64, len(r.words))
	for !r.ended && r.out.Steps < fuel {
		if r.next < len(p.Code) {
			r.step(p.Code[r.next])
		} else if r.right != nil {
			r.takeBack()
		} else {
			r.end(api.EndFault)
		}
	}
	words := r.words
	if r.right != nil {
		words = r.right.words
	}
	for _, region := range p.Regions {
		r.out.Memory = append(r.out.Memory, words[:1<<region.Log])
		words = words[1<<region.Log:]
	}
	return r.out
}

func (r *plain) end(how int) { r.out.End, r.ended = how, true }

func (r *plain) step(i api.Ins) {
	r.out.Steps++
	r.see(api.SeeStep, int64(r.next), 0)
	wasAhead := r.right != nil
	r.next++
	r.do(i)
	if !wasAhead {
		r.behind = 0
		return
	}
	r.behind++
	if i.Op == api.IFence || i.Op == api.IHalt || r.behind == 12 {
		r.takeBack()
	}
}

func (r *plain) do(i api.Ins) {
	a, b, c := r.registers[i.A], r.registers[i.B], r.registers[i.C]
	switch {
	case i.Op == api.ISet:
		r.registers[i.A] = i.N
	case i.Op == api.IMove:
		r.registers[i.A] = b
	case i.Op == api.IAdd:
		r.registers[i.A] = together(b, i.N)
	case i.Op == api.ILoad || i.Op == api.IPut:
		r.word(i, together(b, i.N), i.Op == api.IPut)
	case i.Op == api.ILoadK || i.Op == api.IPutK:
		r.word(i, i.N, i.Op == api.IPutK)
	case i.Op == api.IJump:
		r.next = int(i.N)
	case i.Op == api.IIf:
		r.branch(int(i.N), num.Holds(i.C, a, b))
	case i.Op == api.IHalt && r.right == nil:
		r.out.Value = a
		r.end(api.EndDone)
	case i.Op == api.IMask && (a < 0 || a > i.N-1):
		r.registers[i.A] = 0
	case i.Op > api.IOp:
		if op := i.Op - api.IOp; op == api.OpDiv || op == api.OpMod {
			r.see(api.SeeDiv, b, c)
		}
		r.registers[i.A] = num.Op(i.Op-api.IOp, b, c)
	}
}

func (r *plain) choice() int {
	if len(r.script) == 0 {
		return 0
	}
	c := r.script[0]
	r.script = slices.Clone(r.script[1:])
	return c
}

// guess goes on as wrong does, and keeps where it would be as right does, if it is not ahead of time already.
func (r *plain) guess(right, wrong func(w *world)) {
	if r.right == nil {
		w := r.copied()
		right(&w)
		r.right = &w
	}
	wrong(&r.world)
}

func (r *plain) branch(n int, holds bool) {
	there, next := func(w *world) { w.next = n }, func(*world) {}
	if !holds {
		there, next = next, there
	}
	if r.choice() == 0 {
		there(&r.world)
	} else {
		r.guess(there, next)
	}
}

func (r *plain) word(i api.Ins, index int64, puts bool) {
	there := index >= 0 && index < 1<<r.p.Regions[i.C].Log
	if !there && r.right == nil {
		r.end(api.EndFault)
		return
	}
	number := index
	for _, region := range r.p.Regions[:i.C] {
		number = together(number, 1<<region.Log)
	}
	any := number >= 0 && number < int64(len(r.words))
	if puts {
		r.see(api.SeeWord, number, 1)
		if any {
			r.were[number] = append(r.were[number], r.words[number])
			r.words[number] = r.registers[i.A]
		}
		return
	}
	r.see(api.SeeWord, number, 0)
	if !any {
		r.registers[i.A] = 0
		return
	}
	r.takes(i.A, number)
}

func (r *plain) takes(a int, number int64) {
	becomes := func(n int64) func(w *world) {
		return func(w *world) { w.registers[a] = n }
	}
	were := slices.Clone(r.were[number])
	slices.Reverse(were)
	c := r.choice()
	if c > 0 && c-1 < len(were) {
		r.guess(becomes(r.words[number]), becomes(were[c-1]))
	} else {
		becomes(r.words[number])(&r.world)
	}
}

// drawn is some instruction of a hard program with the given regions and so many instructions.
func drawn(r *rand.Rand, regions []api.Region, code int) api.Ins {
	ops := []int{
		api.ISet, api.IMove, api.ILoad, api.ILoad, api.IPut, api.IPut, api.ILoadK, api.ILoadK, api.IPutK, api.IPutK, api.IJump,
		api.IIf, api.IIf, api.IIf, api.IHalt, api.IAdd, api.IMask, api.IFence,
	}
	numbers := []int64{0, 0, 1, 2, 3, 5, -1, -2, 64, 4, least, greatest}
	a, b, c := r.Intn(last+1), r.Intn(last+1), r.Intn(last+1)
	n := numbers[r.Intn(len(numbers))]
	region := r.Intn(len(regions))
	op := ops[r.Intn(len(ops))]
	if op == api.IHalt && r.Intn(4) > 0 || r.Intn(6) == 0 {
		op = api.IOp + 1 + r.Intn(api.OpMod)
	}
	switch op {
	case api.ISet:
		return api.Ins{Op: op, A: a, N: n}
	case api.IMove:
		return api.Ins{Op: op, A: a, B: b}
	case api.IAdd:
		return api.Ins{Op: op, A: a, B: b, N: n}
	case api.ILoad, api.IPut:
		return api.Ins{Op: op, A: a, B: b, C: region, N: n}
	case api.ILoadK, api.IPutK:
		return api.Ins{Op: op, A: a, C: region, N: r.Int63n(1 << regions[region].Log)}
	case api.IJump:
		return api.Ins{Op: op, N: r.Int63n(int64(code))}
	case api.IIf:
		return api.Ins{Op: op, A: a, B: b, C: 1 + r.Intn(api.CondMost), N: r.Int63n(int64(code))}
	case api.IHalt:
		return api.Ins{Op: op, A: a}
	case api.IMask:
		return api.Ins{Op: op, A: a, N: 1 + r.Int63n(64)}
	case api.IFence:
		return api.Ins{Op: op}
	}
	return api.Ins{Op: op, A: a, B: b, C: c}
}

type drawnCase struct {
	p      api.Program
	memory [][]int64
	script []int
	fuel   int
}

func drawnCases(seed int64, n int) []drawnCase {
	r := rand.New(rand.NewSource(seed))
	var out []drawnCase
	for range n {
		var logs []int
		for range 1 + r.Intn(api.MaxRegions) {
			logs = append(logs, r.Intn(3)) // few words, so that they are put more than once
		}
		p, memory := sized(nil, logs...)
		for _, words := range memory {
			for k := range words {
				if r.Intn(2) == 0 {
					words[k] = int64(r.Intn(9)) - 2
				}
			}
		}
		size := 1 + r.Intn(24)
		for range size {
			p.Code = append(p.Code, drawn(r, p.Regions, size))
		}
		var script []int
		for range r.Intn(30) {
			script = append(script, max(0, r.Intn(6)-2))
		}
		out = append(out, drawnCase{p, memory, script, r.Intn(120)})
	}
	return out
}

func TestD1ToD4DrawnPrograms(t *testing.T) {
	ends, backs := map[int]int{}, 0
	for _, c := range drawnCases(4, 30000) {
		want := runPlain(c.p, c.memory, c.script, c.fuel)
		ends[want.End]++
		if slices.Contains(want.Seen, back()) {
			backs++
		}
		runs(t, "drawn", c.p, c.memory, c.script, c.fuel, want)
		if t.Failed() {
			t.Fatalf("program %+v", c.p)
		}
	}
	for end := api.EndFuel; end <= api.EndFault; end++ {
		if ends[end] < 500 {
			t.Errorf("only %d drawn programs end by %d", ends[end], end)
		}
	}
	if backs < 5000 {
		t.Errorf("only %d drawn programs take anything back", backs)
	}
}
