package word

import (
	"math/rand"
	"slices"
	"testing"

	"evenkeel/api"
	"evenkeel/layout"
)

// A drawer draws hard programs, and words that are most often such.
type drawer struct {
	*rand.Rand
	api.Program
	size int // how many instructions the program has
}

func (d *drawer) register() int { return d.Intn(api.Regs + 2) }

// number has room in a word; the edges come often.
func (d *drawer) number() int64 {
	edges := []int64{-8192, -8191, -1, 0, 1, 8190, 8191}
	if d.Intn(3) == 0 {
		return edges[d.Intn(len(edges))]
	}
	return d.Int63n(16384) - 8192
}

// region gives the number of one, and that of one of its words.
func (d *drawer) region() (int, int64) {
	c := d.Intn(len(d.Regions))
	return c, d.Int63n(1 << d.Regions[c].Log)
}

func (d *drawer) instruction() api.Ins {
	i := api.Ins{Op: kinds()[d.Intn(len(kinds()))]}
	if len(d.Regions) == 0 && i.Op >= api.ILoad && i.Op <= api.IPutK {
		i.Op = api.IAdd
	}
	switch i.Op {
	case api.ISet:
		i.A, i.N = d.register(), d.number()
	case api.IMove:
		i.A, i.B = d.register(), d.register()
	case api.IAdd:
		i.A, i.B, i.N = d.register(), d.register(), d.number()
	case api.ILoad, api.IPut:
		i.A, i.B, i.N = d.register(), d.register(), d.number()
		i.C, _ = d.region()
	case api.ILoadK, api.IPutK:
		i.A = d.register()
		i.C, i.N = d.region()
	case api.IJump:
		i.N = d.Int63n(int64(d.size))
	case api.IIf:
		i.A, i.B, i.C, i.N = d.register(), d.register(), 1+d.Intn(4), d.Int63n(int64(d.size))
	case api.IHalt:
		i.A = d.register()
	case api.IMask:
		i.A, i.N = d.register(), 1+d.Int63n(64)
	case api.IFence:
	default:
		i.A, i.B, i.C = d.register(), d.register(), d.register()
	}
	return i
}

func drawProgram(r *rand.Rand) api.Program {
	d := drawer{Rand: r, size: 1 + r.Intn(30)}
	if r.Intn(100) == 0 {
		d.size = api.MaxHard - r.Intn(3)
	}
	for range r.Intn(api.MaxRegions + 1) {
		d.Regions = append(d.Regions, api.Region{Log: r.Intn(api.MaxLog + 1), Secret: r.Intn(2) == 0})
	}
	for range d.size {
		d.Code = append(d.Code, d.instruction())
	}
	return d.Program
}

func TestH3DrawnPrograms(t *testing.T) {
	r := rand.New(rand.NewSource(81))
	drawn := map[int]int{}
	for range 5000 {
		p := drawProgram(r)
		if !layout.Hard(p) {
			t.Fatalf("drawn wrong: %v", p)
		}
		bothWays(t, "drawn", p, plainWords(p.Code))
		for _, i := range p.Code {
			drawn[i.Op]++
		}
	}
	for _, op := range kinds() {
		if drawn[op] < 1000 {
			t.Errorf("the Op %d was drawn %d times only", op, drawn[op])
		}
	}
}

// Wherever drawn Ns without room are laid, the first of them is told; and ErrForm, where the program is not hard besides.
func TestH2DrawnFaultsOfPut(t *testing.T) {
	r := rand.New(rand.NewSource(82))
	ranges, forms := 0, 0
	for range 5000 {
		p := drawProgram(r)
		want := api.Fault{}
		for at := len(p.Code) - 1; at >= 0; at-- {
			if op := p.Code[at].Op; op == api.ISet || op == api.IAdd || op == api.ILoad || op == api.IPut {
				if n := int64(r.Uint64()) >> r.Intn(64); n < -8192 || n > 8191 {
					p.Code[at].N = n
					want = api.Fault{Code: api.ErrRange, At: at}
				}
			}
		}
		if want.Code == api.OK {
			continue
		}
		putFails(t, "drawn", p, want)
		ranges++
		at := r.Intn(len(p.Code))
		p.Code[at].A = []int{-1, 10, 15, 16, 26, least, greatest}[r.Intn(7)]
		putFails(t, "drawn, not hard", p, api.Fault{Code: api.ErrForm})
		forms++
	}
	if ranges < 2000 || forms < 2000 {
		t.Errorf("only %d and %d faults", ranges, forms)
	}
}

// as sees that Get of words is as the plain telling of them asks, and tells whether they are a program.
func as(t *testing.T, regions []api.Region, words []uint32) bool {
	t.Helper()
	p := api.Program{Regions: regions}
	for _, w := range words {
		p.Code = append(p.Code, plainIns(w))
	}
	if !layout.Hard(p) {
		getFails(t, "words", regions, words)
		return false
	}
	bothWays(t, "words", p, words)
	return true
}

// Some bits of the words of a hard program are turned: many of what comes out are programs, too, and many are not.
func TestH3DrawnWords(t *testing.T) {
	r := rand.New(rand.NewSource(83))
	programs, others := 0, 0
	for range 20000 {
		p := drawProgram(r)
		words := plainWords(p.Code)
		for range 1 + r.Intn(2) {
			words[r.Intn(len(words))] ^= 1 << r.Intn(32)
		}
		if as(t, p.Regions, words) {
			programs++
		} else {
			others++
		}
	}
	if programs < 3000 || others < 3000 {
		t.Errorf("only %d programs and %d others", programs, others)
	}
}

func TestH3AnyDrawnWords(t *testing.T) {
	r := rand.New(rand.NewSource(84))
	programs := 0
	for range 500000 {
		words := []uint32{r.Uint32()}
		for r.Intn(4) == 0 {
			words = append(words, r.Uint32())
		}
		if as(t, sixRegions()[:r.Intn(api.MaxRegions+1)], words) {
			programs++
		}
	}
	if programs < 500 {
		t.Errorf("only %d programs", programs)
	}
}

// Each Op, A, B and C that a word can have, with Ns at all edges, as a program of one word.
func TestH3EachOpAndField(t *testing.T) {
	programs := 0
	for high := range uint32(1 << 18) {
		for _, n := range []uint32{0, 1, 63, 64, 65, 8191, 8192, 16383} {
			if as(t, sixRegions(), []uint32{high<<14 + n}) {
				programs++
			}
		}
	}
	// ISet 10 · 8; IMove 100; IAdd 100 · 8; ILoad, IPut 100 · 6 · 8 each; ILoadK, IPutK: of the six regions 3, 1, 2, 2, 1, 3 Ns, 10 times each;
	// IJump 1; IIf 100 · 4; IHalt 10; IMask 10 · 3; IFence 1; ten operations 1000 each.
	want := 80 + 100 + 800 + 2*4800 + 2*10*12 + 1 + 400 + 10 + 30 + 1 + 10000
	if programs != want {
		t.Errorf("%d programs of one word, want %d", programs, want)
	}
}

func TestTheSameForTheSame(t *testing.T) {
	r := rand.New(rand.NewSource(85))
	for range 200 {
		p := drawProgram(r)
		one, _ := Put(p)
		two, _ := Put(copied(p))
		q, _ := Get(p.Regions, one)
		s, _ := Get(slices.Clone(p.Regions), two)
		if !slices.Equal(one, two) || !equal(q, s) {
			t.Fatalf("other answers for the same: %v", p)
		}
	}
}
