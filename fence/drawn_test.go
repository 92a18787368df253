package fence

import (
	"math/rand"
	"slices"
	"testing"

	"evenkeel/api"
	"evenkeel/check"
)

// anywhere stands for the beginning of a piece that is not drawn yet.
const anywhere = -1

// A drawer lays programs out of pieces; public registers are most often those below secretFrom.
type drawer struct {
	*rand.Rand
	api.Program
	starts []int64 // where pieces begin
}

const secretFrom = 5

func (d *drawer) lay(code ...api.Ins) { d.Code = append(d.Code, code...) }

func (d *drawer) public() int { return d.Intn(secretFrom) }

func (d *drawer) secret() int { return secretFrom + d.Intn(api.Regs-secretFrom) }

func (d *drawer) cond() int { return api.CondSame + d.Intn(api.CondMost) }

func (d *drawer) number() int64 {
	numbers := []int64{0, 1, 2, 3, 7, 8, 15, 31, 63, 64, -1, 1000, least, greatest}
	return numbers[d.Intn(len(numbers))]
}

// register gives one that may hang on what words of the region do.
func (d *drawer) register(c int) int {
	if d.Regions[c].Secret {
		return d.secret()
	}
	return d.public()
}

// region gives the number of one, and that of one of its words.
func (d *drawer) region() (int, int64) {
	c := d.Intn(len(d.Regions))
	return c, d.Int63n(1 << d.Regions[c].Log)
}

// kind gives a region that is secret, or public, as is asked.
func (d *drawer) kind(secret bool) (int, int64) {
	for {
		if c, n := d.region(); d.Regions[c].Secret == secret {
			return c, n
		}
	}
}

func (d *drawer) plain() api.Ins {
	a, b, c := d.public(), d.public(), d.public()
	if d.Intn(3) == 0 {
		a, b, c = d.secret(), d.Intn(api.Regs), d.Intn(api.Regs)
	}
	switch d.Intn(6) {
	case 0:
		return set(a, d.number())
	case 1:
		return move(a, b)
	case 2:
		return add(a, b, d.number())
	case 3:
		return mask(a, 1+d.Int63n(64))
	case 4:
		return fence()
	}
	return op(api.OpAdd+d.Intn(api.OpShr), a, b, c)
}

// constant takes or puts a word that is there always.
func (d *drawer) constant() api.Ins {
	c, n := d.region()
	if d.Intn(2) == 0 {
		return loadK(d.register(c), c, n)
	}
	return putK(d.register(c), c, n)
}

// access takes or puts the word at the register b and n.
func (d *drawer) access(b, c int, n int64) api.Ins {
	if d.Intn(3) == 0 {
		return put(d.register(c), b, c, n)
	}
	return load(d.register(c), b, c, n)
}

// show lets the register r be seen by who watches.
func (d *drawer) show(r int) {
	c, _ := d.region()
	switch d.Intn(6) {
	case 0:
		d.lay(op(api.OpDiv+d.Intn(2), d.public(), r, d.public()))
	case 1:
		d.lay(op(api.OpDiv+d.Intn(2), d.public(), d.public(), r))
	case 2:
		d.lay(when(r, d.cond(), d.public(), anywhere))
	case 3:
		d.lay(mask(r, 1<<d.Regions[c].Log), d.access(r, c, 0))
	case 4:
		d.guarded(r)
	case 5:
		c, n := d.kind(false)
		d.lay(putK(r, c, n))
	}
}

// guarded takes or puts a word at the register b behind an IIf that lets only so great ones on.
func (d *drawer) guarded(b int) {
	c, _ := d.region()
	i := d.access(b, c, 0)
	if d.Intn(2) == 0 {
		i = d.reaching(b)
	}
	log := d.Regions[i.C].Log
	if log > 0 && d.Intn(4) == 0 {
		log--
		i.N = d.Int63n(1 << log)
	}
	bound := (b + 1 + d.Intn(secretFrom-1)) % secretFrom
	at := int64(len(d.Code))
	d.lay(set(bound, 1<<log-1))
	switch d.Intn(4) {
	case 0:
		d.lay(when(b, api.CondMost, bound, anywhere))
	case 1:
		d.lay(when(bound, api.CondLess, b, anywhere))
	case 2:
		d.lay(when(b, api.CondLess, bound, at+3), jump(anywhere))
	case 3:
		d.lay(when(b, api.CondOther, bound, anywhere))
	}
	d.lay(i)
	d.follow(i)
}

// reaching takes a public word, or puts a secret one: if it reaches a word of another region, that may be told.
func (d *drawer) reaching(b int) api.Ins {
	if d.Intn(2) == 0 {
		c, _ := d.kind(true)
		return put(d.secret(), b, c, 0)
	}
	c, _ := d.kind(false)
	return load(d.public(), b, c, 0)
}

// follow shows what i has loaded, or what its put may have been put onto.
func (d *drawer) follow(i api.Ins) {
	if i.Op == api.ILoad && i.A < secretFrom && d.Intn(3) > 0 {
		d.show(i.A)
	}
	if i.Op == api.IPut && d.Intn(3) > 0 {
		r := d.public()
		for range 2 {
			c, n := d.kind(false)
			d.lay(loadK(r, c, n), op(api.OpMod, d.public(), r, r))
		}
	}
}

// again puts a word several times, and takes it.
func (d *drawer) again() {
	c, n := d.region()
	for range 1 + d.Intn(3) {
		r := d.register(c)
		switch d.Intn(3) {
		case 0:
			d.lay(set(r, d.number()))
		case 1:
			d.lay(set(r, drawReach(d.Rand, d.Regions)))
		}
		d.lay(putK(r, c, n))
	}
	r := d.register(c)
	if d.Intn(2) == 0 {
		d.lay(loadK(r, c, n))
	} else {
		zero := d.public()
		d.lay(set(zero, 0), load(r, zero, c, n))
	}
	switch {
	case r >= secretFrom:
	case d.Intn(3) == 0:
		d.show(r)
	default:
		d.guarded(r)
	}
}

func (d *drawer) piece() {
	r := d.public()
	c, n := d.kind(false)
	switch d.Intn(12) {
	case 0, 1:
		d.lay(d.plain(), d.plain())
	case 2:
		d.lay(d.constant())
	case 3, 4, 5:
		d.lay(loadK(r, c, n))
		d.guarded(r)
	case 6, 10, 11:
		d.again()
	case 7:
		d.lay(loadK(r, c, n))
		d.show(r)
	case 8:
		d.lay(when(r, d.cond(), d.public(), anywhere))
	case 9:
		c, n := d.region()
		if d.Intn(4) == 0 {
			d.lay(halt(r))
		} else {
			d.lay(set(r, 0), d.access(r, c, n))
		}
	}
}

// drawRegions has both a public and a secret region at least.
func drawRegions(r *rand.Rand) []api.Region {
	out := []api.Region{{}, {Secret: true}}
	for range r.Intn(api.MaxRegions - 1) {
		out = append(out, api.Region{Secret: r.Intn(2) == 0})
	}
	most := 1 + min(r.Intn(api.MaxLog), r.Intn(api.MaxLog))
	for c := range out {
		out[c].Log = r.Intn(most + 1)
	}
	r.Shuffle(len(out), func(a, b int) { out[a], out[b] = out[b], out[a] })
	return out
}

// drawProgram draws one of so many instructions, and mends its faults; now and then that does not succeed.
func drawProgram(r *rand.Rand, size int) (api.Program, bool) {
	d := drawer{Rand: r, Program: api.Program{Regions: drawRegions(r)}}
	for r := secretFrom; r < api.Regs; r++ {
		c, n := d.kind(true)
		d.lay(loadK(r, c, n))
	}
	for len(d.Code) < size {
		d.starts = append(d.starts, int64(len(d.Code)))
		d.piece()
	}
	d.Code = d.Code[:size]
	d.Code[size-1] = halt(d.public())
	for at, i := range d.Code {
		if (i.Op == api.IIf || i.Op == api.IJump) && (i.N == anywhere || i.N >= int64(size)) {
			d.Code[at].N = d.place(at)
		}
	}
	for range 20 * size {
		f := check.Check(d.Program)
		if f.Code == api.OK {
			return d.Program, true
		}
		d.mend(f)
	}
	return api.Program{}, false
}

// place gives most often the beginning of the next piece, so that others are done, too, and programs come to an end.
func (d *drawer) place(at int) int64 {
	if d.Intn(8) == 0 {
		edges := []int{0, at, min(at+1, len(d.Code)-1), len(d.Code) - 1, d.Intn(len(d.Code))}
		return int64(edges[d.Intn(len(edges))])
	}
	if d.Intn(5) == 0 {
		return d.starts[d.Intn(len(d.starts))]
	}
	for _, n := range d.starts {
		if n > int64(at) {
			return n
		}
	}
	return int64(len(d.Code)) - 1
}

func (d *drawer) mend(f api.Fault) {
	i := &d.Code[f.At]
	switch {
	case i.Op == api.IHalt || f.At == len(d.Code)-1:
		*i = halt(d.Intn(api.Regs))
	case f.Code == api.ErrBound && f.At > 0 && d.Intn(2) == 0:
		d.Code[f.At-1], i.N = mask(i.B, 1<<d.Regions[i.C].Log), 0
	case d.Intn(2) == 0:
		*i = set(i.A, int64(d.Intn(4)))
	default:
		*i = d.constant()
	}
}

// drawPrograms gives to try programs without fault, of at least and at most so many instructions, and what they are made into.
func drawPrograms(t *testing.T, seed int64, count, fewest, most int, try func(r *rand.Rand, p, h api.Program)) {
	t.Helper()
	r := rand.New(rand.NewSource(seed))
	missed := 0
	for range count {
		p, found := drawProgram(r, fewest+r.Intn(most-fewest+1))
		if !found {
			missed++
			continue
		}
		try(r, p, made(t, "drawn", p))
	}
	if missed > count/10 {
		t.Errorf("%d of %d programs were not mended", missed, count)
	}
}

// drawReach gives an index that reaches, from one region on, a word of another one.
func drawReach(r *rand.Rand, regions []api.Region) int64 {
	from, to := r.Intn(len(regions)), r.Intn(len(regions))
	index := r.Int63n(1 << regions[to].Log)
	for _, region := range regions[:to] {
		index += 1 << region.Log
	}
	for _, region := range regions[:from] {
		index -= 1 << region.Log
	}
	return index
}

func drawWord(r *rand.Rand, regions []api.Region) int64 {
	switch r.Intn(6) {
	case 0:
		return int64(r.Uint64())
	case 1:
		return int64(r.Intn(4))
	}
	return drawReach(r, regions)
}

// drawMemories gives two memories with the same public words.
func drawMemories(r *rand.Rand, regions []api.Region) (one, two [][]int64) {
	draw := func(region api.Region) []int64 {
		words := make([]int64, 1<<region.Log)
		for n := range words {
			words[n] = drawWord(r, regions)
		}
		return words
	}
	for _, region := range regions {
		words := draw(region)
		one = append(one, words)
		if region.Secret {
			words = draw(region)
		}
		two = append(two, slices.Clone(words))
	}
	return one, two
}

// drawScript gives one with a single wrong guess, some in a row, or wrong guesses and words as they were, few or many.
func drawScript(r *rand.Rand) []int {
	script := make([]int, 1+r.Intn(60))
	if r.Intn(20) == 0 {
		script = make([]int, api.MaxScript)
	}
	from := r.Intn(min(len(script), 20))
	switch kind := r.Intn(5); kind {
	case 0:
		script[from] = 1 + r.Intn(4)
	case 1:
		for n := from; n < len(script) && n < from+6; n++ {
			script[n] = 1
		}
	default:
		for n := range script {
			script[n] = max(0, r.Intn(4*kind)-4*kind+5)
		}
	}
	if r.Intn(10) == 0 {
		script[from] = greatest
	}
	return script
}

func drawFuel(r *rand.Rand) int {
	if r.Intn(5) == 0 {
		return r.Intn(60)
	}
	return 100 + r.Intn(300)
}

func TestJ1J2DrawnPrograms(t *testing.T) {
	ended, long := 0, 0
	try := func(r *rand.Rand, p, h api.Program) {
		for range 3 {
			one, two := drawMemories(r, p.Regions)
			for _, memory := range [][][]int64{one, two} {
				if doesTheSame(t, "drawn", p, h, memory, drawFuel(r)) {
					ended++
				} else if doesTheSame(t, "drawn", p, h, memory, mostFuel) {
					long++
				}
			}
		}
	}
	drawPrograms(t, 71, 3000, 1, 40, try)
	drawPrograms(t, 72, 150, api.MaxCode, api.MaxCode, try)
	if ended < 12000 || long < 50 {
		t.Errorf("only %d and %d drawn runs end", ended, long)
	}
}

// A tally counts what drawn runs came to, so that a drawing that has gone dull is noticed.
type tally struct {
	runs  int
	told  int // the program as it is tells the memories apart
	backs int // something was taken back
	fuel  int // the run ended by EndFuel
	ifs   int // it was taken back right behind an IIf
	words int // it was taken back elsewhere: a word was taken as it was
}

// count adds what is seen of a run of h.
func (c *tally) count(h api.Program, shown api.Shown) {
	if slices.Contains(shown.Seen, api.See{Kind: api.SeeBack}) {
		c.backs++
	}
	if shown.End == api.EndFuel {
		c.fuel++
	}
	var last, before api.Ins
	for _, see := range shown.Seen {
		switch {
		case see.Kind == api.SeeStep:
			before, last = last, h.Code[see.A]
		case see.Kind == api.SeeBack && last.Op == api.IFence && before.Op == api.IIf:
			c.ifs++
		case see.Kind == api.SeeBack:
			c.words++
		}
	}
}

func TestJ3DrawnPrograms(t *testing.T) {
	var c tally
	try := func(r *rand.Rand, p, h api.Program) {
		for range 12 {
			one, two := drawMemories(r, p.Regions)
			script, fuel := drawScript(r), drawFuel(r)
			tellsNothing(t, "drawn", p, h, one, two, script, fuel)
			c.runs++
			if tells(t, p, one, two, script, fuel) {
				c.told++
			}
			c.count(h, runAhead(t, h, one, script, fuel))
		}
	}
	drawPrograms(t, 73, 6000, 1, 50, try)
	drawPrograms(t, 74, 100, api.MaxCode, api.MaxCode, try)
	if c.told < 800 || c.backs < 20000 || c.fuel < 5000 || c.ifs < 50000 || c.words < 4000 {
		t.Errorf("too few of a kind: %+v", c)
	}
}

// The drawn programs have each kind of instruction where it is done.
func TestDrawnProgramsHaveEachKind(t *testing.T) {
	done := map[int]int{}
	drawPrograms(t, 75, 3000, 1, 50, func(r *rand.Rand, p, _ api.Program) {
		one, _ := drawMemories(r, p.Regions)
		for _, see := range run(t, p, one, 300).Seen {
			if see.Kind == api.SeeStep {
				done[p.Code[see.A].Op]++
			}
		}
	})
	kinds := []int{
		api.ISet, api.IMove, api.ILoad, api.IPut, api.ILoadK, api.IPutK,
		api.IJump, api.IIf, api.IHalt, api.IAdd, api.IMask, api.IFence,
	}
	for o := api.OpAdd; o <= api.OpMod; o++ {
		kinds = append(kinds, api.IOp+o)
	}
	for _, kind := range kinds {
		if done[kind] < 50 {
			t.Errorf("only %d times the kind %d", done[kind], kind)
		}
	}
}
