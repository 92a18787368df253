package check

import (
	"math/rand"
	"reflect"
	"slices"
	"testing"

	"evenkeel/api"
	"evenkeel/layout"
	"evenkeel/seq"
)

// A drawer draws programs over some regions, with so many instructions.
type drawer struct {
	*rand.Rand
	regions []api.Region
	code    int
}

// newDrawer has both a public and a secret region at least.
func newDrawer(r *rand.Rand, code int) drawer {
	d := drawer{Rand: r, code: code}
	for n := range 2 + r.Intn(api.MaxRegions-1) {
		secret := n == 0 || n > 1 && r.Intn(2) == 0
		d.regions = append(d.regions, api.Region{Log: r.Intn(api.MaxLog + 1), Secret: secret})
	}
	r.Shuffle(len(d.regions), func(a, b int) { d.regions[a], d.regions[b] = d.regions[b], d.regions[a] })
	return d
}

func (d drawer) reg() int { return d.Intn(api.Regs) }

func (d drawer) place() int64 { return d.Int63n(int64(d.code)) }

func (d drawer) number() int64 {
	numbers := []int64{0, 0, 1, 1, 2, 3, 4, 7, 8, 31, 63, 64, -1, 1000, 70000, least, greatest}
	return numbers[d.Intn(len(numbers))]
}

// word gives a region, and the number of one of its words.
func (d drawer) word() (int, int64) {
	c := d.Intn(len(d.regions))
	return c, d.Int63n(1 << d.regions[c].Log)
}

// plainIns draws an instruction that is never a fault, but as the last one.
func (d drawer) plainIns() api.Ins {
	c, n := d.word()
	switch d.Intn(7) {
	case 0:
		return set(d.reg(), d.number())
	case 1:
		return move(d.reg(), d.reg())
	case 2:
		return add(d.reg(), d.reg(), d.number())
	case 3:
		return loadK(d.reg(), c, n)
	case 4:
		return mask(d.reg(), 1+d.Int63n(64))
	case 5:
		return op(1+d.Intn(api.OpShr), d.reg(), d.reg(), d.reg())
	}
	return fence()
}

// riskyIns draws one that may be a fault.
func (d drawer) riskyIns() api.Ins {
	c, n := d.word()
	switch d.Intn(9) {
	case 0, 1:
		return load(d.reg(), d.reg(), c, n)
	case 2, 3:
		return put(d.reg(), d.reg(), c, n)
	case 4:
		return putK(d.reg(), c, n)
	case 5, 6:
		return when(d.reg(), conds[d.Intn(len(conds))], d.reg(), d.place())
	case 7:
		return op(api.OpDiv+d.Intn(2), d.reg(), d.reg(), d.reg())
	}
	if d.Intn(4) == 0 {
		return halt(d.reg())
	}
	if d.Intn(3) == 0 {
		return jump(d.place())
	}
	return load(d.reg(), d.reg(), c, d.number())
}

func (d drawer) program() api.Program {
	p := api.Program{Regions: d.regions}
	for range d.code {
		if d.Intn(5) < 2 {
			p.Code = append(p.Code, d.plainIns())
		} else {
			p.Code = append(p.Code, d.riskyIns())
		}
	}
	return p
}

// mend makes a fault less likely to be: most often so that what was wrong stays what it does, but with other registers.
func (d drawer) mend(p api.Program, f api.Fault) {
	i := &p.Code[f.At]
	switch {
	case f.At == len(p.Code)-1 && i.Op != api.IHalt:
		*i = jump(d.place())
		if d.Intn(3) == 0 {
			*i = halt(d.reg())
		}
	case i.Op != api.IHalt && d.Intn(4) == 0:
		*i = d.plainIns()
	case f.Code == api.ErrBound && f.At > 0 && d.Intn(2) == 0:
		p.Code[f.At-1], i.N = mask(i.B, 1<<p.Regions[i.C].Log), 0
	case f.Code == api.ErrBound:
		i.B, i.N = d.reg(), 0
	case i.Op == api.IHalt:
		*i = halt(d.reg())
		if d.Intn(3) == 0 {
			*i = jump(d.place())
		}
	case d.Intn(2) == 0:
		i.A, i.B = d.reg(), d.reg()
		if i.Op == api.IPutK {
			i.B = 0
		}
	case d.Intn(3) == 0:
		*i = set(i.A, d.number())
	default:
		*i = d.plainIns()
	}
}

// drawnPrograms gives to tell each one that is drawn, and each step of its mending, until it has no fault.
func drawnPrograms(seed int64, n int, code func(r *rand.Rand) int, tell func(r *rand.Rand, p api.Program, f api.Fault)) {
	r := rand.New(rand.NewSource(seed))
	for range n {
		d := newDrawer(r, code(r))
		p := d.program()
		for range 20 * d.code {
			f := Check(p)
			tell(r, p, f)
			if f.Code == api.OK {
				break
			}
			d.mend(p, f)
		}
	}
}

func few(r *rand.Rand) int { return 1 + r.Intn(24) }

func many(*rand.Rand) int { return api.MaxCode }

func TestF2DrawnProgramsByTheChaptersWords(t *testing.T) {
	told := map[api.Errno]int{}
	compare := func(_ *rand.Rand, p api.Program, f api.Fault) {
		told[f.Code]++
		if want := plainCheck(p); f != want {
			t.Fatalf("%v, want %v, of %v", f, want, p)
		}
	}
	drawnPrograms(61, 4000, few, compare)
	steps := 0
	drawnPrograms(62, 20, many, func(r *rand.Rand, p api.Program, f api.Fault) {
		// The plain way is slow on many instructions.
		if steps++; f.Code == api.OK || steps%20 == 0 {
			compare(r, p, f)
		}
	})
	if told[api.OK] < 3000 || told[api.ErrBound] < 3000 || told[api.ErrLabel] < 2000 || told[api.ErrForm] > 0 {
		t.Errorf("too few of a kind: %v", told)
	}
}

func drawWords(r *rand.Rand, region api.Region) []int64 {
	words := make([]int64, 1<<region.Log)
	for n := range words {
		switch r.Intn(4) {
		case 0:
			words[n] = int64(r.Uint64())
		case 1:
			words[n] = int64(r.Intn(3)) - 1
		default:
			words[n] = int64(r.Intn(100))
		}
	}
	return words
}

// drawMemories gives two memories whose public regions have the same words.
func drawMemories(r *rand.Rand, regions []api.Region) (one, two [][]int64) {
	for _, region := range regions {
		words := drawWords(r, region)
		one = append(one, words)
		if region.Secret {
			words = drawWords(r, region)
		}
		two = append(two, slices.Clone(words))
	}
	return one, two
}

func publicWords(p api.Program, memory [][]int64) [][]int64 {
	var out [][]int64
	for c, region := range p.Regions {
		if !region.Secret {
			out = append(out, memory[c])
		}
	}
	return out
}

func drawFuel(r *rand.Rand) int {
	if r.Intn(10) == 0 {
		return r.Intn(5)
	}
	return 100 + r.Intn(400)
}

func run(t *testing.T, p api.Program, memory [][]int64, fuel int) api.Shown {
	t.Helper()
	shown, wrong := seq.Run(p, memory, fuel)
	if wrong != api.OK {
		t.Fatalf("%v of %v", wrong, p)
	}
	return shown
}

// A tally counts what the drawn runs came to, so that a drawing that has gone dull is noticed.
type tally struct {
	done, fuel, words, secretWords, divisions, ifs, differ int
}

func (c *tally) count(p api.Program, s api.Shown) {
	switch s.End {
	case api.EndDone:
		c.done++
	case api.EndFuel:
		c.fuel++
	}
	for _, see := range s.Seen {
		switch see.Kind {
		case api.SeeWord:
			c.words++
		case api.SeeDiv:
			c.divisions++
		case api.SeeStep:
			i := p.Code[see.A]
			if i.Op == api.IIf {
				c.ifs++
			}
			if i.Op == api.IPut && p.Regions[i.C].Secret {
				c.secretWords++
			}
		}
	}
}

func (c tally) dull() bool {
	return c.done < 500 || c.fuel < 500 || c.words < 50000 || c.secretWords < 5000 || c.divisions < 2000 || c.ifs < 20000 || c.differ < 500
}

func TestF3F4DrawnProgramsWithoutFault(t *testing.T) {
	var c tally
	tryRuns := func(r *rand.Rand, p api.Program, f api.Fault) {
		if f.Code != api.OK {
			return
		}
		for range 4 {
			one, two := drawMemories(r, p.Regions)
			fuel := drawFuel(r)
			a, b := run(t, p, one, fuel), run(t, p, two, fuel)
			if a.End == api.EndFault || b.End == api.EndFault {
				t.Fatalf("F3: a run ends by EndFault: %v with %v and %v", p, one, two)
			}
			if !reflect.DeepEqual(publicWords(p, a.Memory), publicWords(p, b.Memory)) {
				t.Fatalf("F4: public words differ behind %v with %v and %v", p, one, two)
			}
			c.count(p, a)
			if !reflect.DeepEqual(a.Memory, b.Memory) {
				c.differ++
			}
			a.Memory, b.Memory = nil, nil
			if !reflect.DeepEqual(a, b) {
				t.Fatalf("F4: not the same is shown of %v with %v and %v", p, one, two)
			}
		}
	}
	drawnPrograms(63, 3000, few, tryRuns)
	drawnPrograms(64, 40, many, tryRuns)
	if c.dull() {
		t.Errorf("too few of a kind: %+v", c)
	}
}

func TestF2DrawnProgramsMayBe(t *testing.T) {
	drawnPrograms(65, 500, few, func(_ *rand.Rand, p api.Program, _ api.Fault) {
		if !layout.May(p) {
			t.Fatalf("no program that may be was drawn: %v", p)
		}
	})
}

func TestF3MaskedIndexesOfAllRegions(t *testing.T) {
	for log := range api.MaxLog + 1 {
		p := program(log, loadK(1, open, 0), mask(1, 1<<log), load(2, 1, asked, 0), put(2, 1, asked, 0), halt(1))
		finds(t, "masked", p, ok())
		for _, n := range []int64{0, 1, 1<<log - 1, 1 << log, 63, 64, 1 << 40, -1, least, greatest} {
			words := make([]int64, 64)
			words[0] = n
			if shown := run(t, p, [][]int64{words, make([]int64, 64), make([]int64, 1<<log)}, api.MaxFuel); shown.End != api.EndDone {
				t.Errorf("Log %d, index %d: End %d", log, n, shown.End)
			}
		}
	}
}
