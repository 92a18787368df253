package find

import (
	"math/rand"
	"slices"
	"testing"

	"evenkeel/api"
	"evenkeel/check"
	"evenkeel/layout"
)

// anywhere stands for the beginning of a piece that is not drawn yet.
const anywhere = -1

// A drawer lays programs out of pieces; public registers are most often those below secretFrom.
type drawer struct {
	*rand.Rand
	api.Program
	starts []int64 // where pieces begin
}

const secretFrom = 5

func (d *drawer) lay(code ...api.Ins) { d.Code = append(d.Code, code...) }

func (d *drawer) public() int { return d.Intn(secretFrom) }

func (d *drawer) secret() int { return secretFrom + d.Intn(api.Regs-secretFrom) }

func (d *drawer) cond() int { return api.CondSame + d.Intn(api.CondMost) }

func (d *drawer) number() int64 {
	numbers := []int64{0, 1, 2, 3, 7, 8, 15, 31, 63, 64, -1, 1000, least, greatest}
	return numbers[d.Intn(len(numbers))]
}

// register gives one that may hang on what words of the region do.
func (d *drawer) register(c int) int {
	if d.Regions[c].Secret {
		return d.secret()
	}
	return d.public()
}

// region gives the number of one, and that of one of its words.
func (d *drawer) region() (int, int64) {
	c := d.Intn(len(d.Regions))
	return c, d.Int63n(1 << d.Regions[c].Log)
}

// kind gives a region that is secret, or public, as is asked.
func (d *drawer) kind(secret bool) (int, int64) {
	for {
		if c, n := d.region(); d.Regions[c].Secret == secret {
			return c, n
		}
	}
}

func (d *drawer) plain() api.Ins {
	a, b, c := d.public(), d.public(), d.public()
	if d.Intn(3) == 0 {
		a, b, c = d.secret(), d.Intn(api.Regs), d.Intn(api.Regs)
	}
	switch d.Intn(6) {
	case 0:
		return set(a, d.number())
	case 1:
		return move(a, b)
	case 2:
		return add(a, b, d.number())
	case 3:
		return mask(a, 1+d.Int63n(64))
	case 4:
		return stop()
	}
	return op(api.OpAdd+d.Intn(api.OpShr), a, b, c)
}

// constant takes or puts a word that is there always.
func (d *drawer) constant() api.Ins {
	c, n := d.region()
	if d.Intn(2) == 0 {
		return loadK(d.register(c), c, n)
	}
	return putK(d.register(c), c, n)
}

// access takes or puts the word at the register b and n.
func (d *drawer) access(b, c int, n int64) api.Ins {
	if d.Intn(3) == 0 {
		return put(d.register(c), b, c, n)
	}
	return load(d.register(c), b, c, n)
}

// show lets the register r be seen by who watches.
func (d *drawer) show(r int) {
	c, _ := d.region()
	switch d.Intn(6) {
	case 0:
		d.lay(op(api.OpDiv+d.Intn(2), d.public(), r, d.public()))
	case 1:
		d.lay(op(api.OpDiv+d.Intn(2), d.public(), d.public(), r))
	case 2:
		d.lay(when(r, d.cond(), d.public(), anywhere))
	case 3:
		d.lay(mask(r, 1<<d.Regions[c].Log), d.access(r, c, 0))
	case 4:
		d.guarded(r)
	case 5:
		c, n := d.kind(false)
		d.lay(putK(r, c, n))
	}
}

// guarded takes or puts a word at the register b behind an IIf that lets only so great ones on.
func (d *drawer) guarded(b int) {
	c, _ := d.region()
	i := d.access(b, c, 0)
	if d.Intn(2) == 0 {
		i = d.reaching(b)
	}
	bound := (b + 1 + d.Intn(secretFrom-1)) % secretFrom
	at := int64(len(d.Code))
	d.lay(set(bound, 1<<d.Regions[i.C].Log-1))
	switch d.Intn(4) {
	case 0:
		d.lay(when(b, api.CondMost, bound, anywhere))
	case 1:
		d.lay(when(bound, api.CondLess, b, anywhere))
	case 2:
		d.lay(when(b, api.CondLess, bound, at+3), jump(anywhere))
	case 3:
		d.lay(when(b, api.CondOther, bound, anywhere))
	}
	d.lay(i)
	d.follow(i)
}

// reaching takes a public word, or puts a secret one: if it reaches a word of another region, that may be told.
func (d *drawer) reaching(b int) api.Ins {
	if d.Intn(2) == 0 {
		c, _ := d.kind(true)
		return put(d.secret(), b, c, 0)
	}
	c, _ := d.kind(false)
	return load(d.public(), b, c, 0)
}

// follow shows what i has loaded, or what its put may have been put onto.
func (d *drawer) follow(i api.Ins) {
	if i.Op == api.ILoad && i.A < secretFrom && d.Intn(3) > 0 {
		d.show(i.A)
	}
	if i.Op == api.IPut && d.Intn(3) > 0 {
		r := d.public()
		for range 2 {
			c, n := d.kind(false)
			d.lay(loadK(r, c, n), op(api.OpMod, d.public(), r, r))
		}
	}
}

// again puts a word several times, and takes it.
func (d *drawer) again() {
	c, n := d.region()
	for range 1 + d.Intn(3) {
		r := d.register(c)
		switch d.Intn(3) {
		case 0:
			d.lay(set(r, d.number()))
		case 1:
			d.lay(set(r, drawReach(d.Rand, d.Regions)))
		}
		d.lay(putK(r, c, n))
	}
	r := d.register(c)
	if d.Intn(2) == 0 {
		d.lay(loadK(r, c, n))
	} else {
		zero := d.public()
		d.lay(set(zero, 0), load(r, zero, c, n))
	}
	switch {
	case r >= secretFrom:
	case d.Intn(3) == 0:
		d.show(r)
	default:
		d.guarded(r)
	}
}

func (d *drawer) piece() {
	r := d.public()
	c, n := d.kind(false)
	switch d.Intn(12) {
	case 0, 1:
		d.lay(d.plain(), d.plain())
	case 2:
		d.lay(d.constant())
	case 3, 4, 5:
		d.lay(loadK(r, c, n))
		d.guarded(r)
	case 6, 7, 8:
		d.again()
	case 9:
		d.lay(loadK(r, c, n))
		d.show(r)
	case 10:
		d.lay(when(r, d.cond(), d.public(), anywhere))
	case 11:
		c, n := d.region()
		if d.Intn(4) == 0 {
			d.lay(halt(r))
		} else {
			d.lay(set(r, 0), d.access(r, c, n))
		}
	}
}

// drawRegions has both a public and a secret region at least.
func drawRegions(r *rand.Rand) []api.Region {
	out := []api.Region{{}, {Secret: true}}
	for range r.Intn(api.MaxRegions - 1) {
		out = append(out, api.Region{Secret: r.Intn(2) == 0})
	}
	most := 1 + min(r.Intn(api.MaxLog), r.Intn(api.MaxLog))
	for c := range out {
		out[c].Log = r.Intn(most + 1)
	}
	r.Shuffle(len(out), func(a, b int) { out[a], out[b] = out[b], out[a] })
	return out
}

// drawProgram draws one of so many instructions, and mends its faults; now and then that does not succeed.
func drawProgram(r *rand.Rand, size int) (api.Program, bool) {
	d := drawer{Rand: r, Program: api.Program{Regions: drawRegions(r)}}
	for r := secretFrom; r < api.Regs; r++ {
		c, n := d.kind(true)
		d.lay(loadK(r, c, n))
	}
	for len(d.Code) < size {
		d.starts = append(d.starts, int64(len(d.Code)))
		d.piece()
	}
	d.Code = d.Code[:size]
	d.Code[size-1] = halt(d.public())
	for at, i := range d.Code {
		if (i.Op == api.IIf || i.Op == api.IJump) && (i.N == anywhere || i.N >= int64(size)) {
			d.Code[at].N = d.place(at)
		}
	}
	for range 20 * size {
		f := check.Check(d.Program)
		if f.Code == api.OK {
			return d.Program, true
		}
		d.mend(f)
	}
	return api.Program{}, false
}

// place gives most often the beginning of the next piece, so that others are done, too, and programs come to an end.
func (d *drawer) place(at int) int64 {
	if d.Intn(8) == 0 {
		edges := []int{0, at, min(at+1, len(d.Code)-1), len(d.Code) - 1, d.Intn(len(d.Code))}
		return int64(edges[d.Intn(len(edges))])
	}
	if d.Intn(5) == 0 {
		return d.starts[d.Intn(len(d.starts))]
	}
	for _, n := range d.starts {
		if n > int64(at) {
			return n
		}
	}
	return int64(len(d.Code)) - 1
}

func (d *drawer) mend(f api.Fault) {
	i := &d.Code[f.At]
	switch {
	case i.Op == api.IHalt || f.At == len(d.Code)-1:
		*i = halt(d.Intn(api.Regs))
	case f.Code == api.ErrBound && f.At > 0 && d.Intn(2) == 0:
		d.Code[f.At-1], i.N = mask(i.B, 1<<d.Regions[i.C].Log), 0
	case d.Intn(2) == 0:
		*i = set(i.A, int64(d.Intn(4)))
	default:
		*i = d.constant()
	}
}

// drawPrograms gives to try programs without fault, of at least and at most so many instructions, and all that they are made into.
func drawPrograms(t *testing.T, seed int64, count, fewest, most int, try func(r *rand.Rand, p api.Program, all []api.Program)) {
	t.Helper()
	r := rand.New(rand.NewSource(seed))
	missed := 0
	for range count {
		p, found := drawProgram(r, fewest+r.Intn(most-fewest+1))
		if !found {
			missed++
			continue
		}
		try(r, p, made(t, "drawn", p))
	}
	if missed > count/10 {
		t.Errorf("%d of %d programs were not mended", missed, count)
	}
}

// drawReach gives an index that reaches, from one region on, a word of another one.
func drawReach(r *rand.Rand, regions []api.Region) int64 {
	from, to := r.Intn(len(regions)), r.Intn(len(regions))
	index := r.Int63n(1 << regions[to].Log)
	for _, region := range regions[:to] {
		index += 1 << region.Log
	}
	for _, region := range regions[:from] {
		index -= 1 << region.Log
	}
	return index
}

func drawWord(r *rand.Rand, regions []api.Region) int64 {
	switch r.Intn(6) {
	case 0:
		return int64(r.Uint64())
	case 1:
		return int64(r.Intn(4))
	}
	return drawReach(r, regions)
}

// drawMemories gives two memories with the same public words; now and then only one secret word differs, or none.
func drawMemories(r *rand.Rand, regions []api.Region) (one, two [][]int64) {
	few := r.Intn(4) == 0
	for _, region := range regions {
		words := make([]int64, 1<<region.Log)
		for n := range words {
			words[n] = drawWord(r, regions)
		}
		others := slices.Clone(words)
		for n := range others {
			if region.Secret && (!few || r.Intn(len(others)) == 0) {
				others[n] = drawWord(r, regions)
			}
		}
		one, two = append(one, words), append(two, others)
	}
	return one, two
}

// drawScript gives one with a single wrong guess, some in a row, or wrong guesses and words as they were, few or many.
func drawScript(r *rand.Rand) []int {
	script := make([]int, 1+r.Intn(60))
	if r.Intn(20) == 0 {
		script = make([]int, api.MaxScript)
	}
	from := r.Intn(min(len(script), 20))
	switch kind := r.Intn(5); kind {
	case 0:
		script[from] = 1 + r.Intn(4)
	case 1:
		for n := from; n < len(script) && n < from+6; n++ {
			script[n] = 1
		}
	default:
		for n := range script {
			script[n] = max(0, r.Intn(4*kind)-4*kind+5)
		}
	}
	if r.Intn(10) == 0 {
		script[from] = greatest
	}
	return script
}

func drawFuel(r *rand.Rand) int {
	if r.Intn(5) == 0 {
		return r.Intn(60)
	}
	return 100 + r.Intn(300)
}

// Programs without fault, with drawn scripts: made so they tell nothing, and as they are what is found is the first that differs.
func TestK2DrawnPrograms(t *testing.T) {
	runs, told, backs := 0, 0, 0
	try := func(r *rand.Rand, p api.Program, all []api.Program) {
		for range 8 {
			one, two := drawMemories(r, p.Regions)
			script, fuel := drawScript(r), drawFuel(r)
			findsNothing(t, "drawn", all, one, two, script, fuel)
			runs++
			if right(t, "as it is", p, one, two, script, fuel).found {
				told++
			}
			if got := asked(p, one, two, nil, fuel); got != nothing {
				t.Fatalf("without a script: %+v of %v", got, p)
			}
			if slices.Contains(run(t, all[r.Intn(len(all))], one, script, fuel).Seen, back()) {
				backs++
			}
		}
	}
	drawPrograms(t, 111, 4000, 1, 50, try)
	drawPrograms(t, 112, 60, api.MaxCode, api.MaxCode, try)
	if told < 300 || backs < 10000 {
		t.Errorf("of %d runs only %d tell as they are, and in %d something is taken back", runs, told, backs)
	}
}

// takers gives the instructions that take choices in a run without a script, in order.
func takers(t *testing.T, p api.Program, memory [][]int64, fuel int) []api.Ins {
	t.Helper()
	var out []api.Ins
	for _, see := range run(t, p, memory, nil, fuel).Seen {
		if see.Kind != api.SeeStep {
			continue
		}
		if i := p.Code[see.A]; i.Op == api.IIf || i.Op == api.ILoad || i.Op == api.ILoadK {
			out = append(out, i)
		}
	}
	return out
}

// A tally counts by which choices drawn runs went ahead of time, so that a drawing that has gone dull is noticed.
type tally struct {
	ifs, open, hidden int // guesses of IIfs, and words of public and of secret regions as they were
	both              int // a word as it was, and more that was guessed wrong before it was taken back
}

// count adds a run in which i alone was guessed wrong, and one with further wrong guesses.
func (c *tally) count(p api.Program, i api.Ins, alone, further []api.See) {
	switch {
	case i.Op == api.IIf:
		c.ifs++
		return
	case p.Regions[i.C].Secret:
		c.hidden++
	default:
		c.open++
	}
	if !slices.Equal(untilBack(alone), untilBack(further)) {
		c.both++
	}
}

// untilBack gives what is shown until something is taken back.
func untilBack(seen []api.See) []api.See { return seen[:slices.Index(seen, back())] }

// Each choice alone, and each one with wrong guesses behind it.
func TestK2EachChoice(t *testing.T) {
	const fuel = 120
	var c tally
	try := func(h api.Program, one, two [][]int64) {
		for n, i := range takers(t, h, one, fuel) {
			for choice := 1; choice <= 3 && n < 30; choice++ {
				script := make([]int, n+1)
				script[n] = choice
				further := append(slices.Clone(script), 1, 1, 1)
				for _, s := range [][]int{script, further, append(slices.Clone(script), 0, 1, 0, 2)} {
					if got := asked(h, one, two, s, fuel); got != nothing {
						t.Fatalf("script %v, memories %v and %v: %+v of %v", s, one, two, got, h)
					}
				}
				alone := run(t, h, one, script, fuel).Seen
				if slices.Contains(alone, back()) {
					c.count(h, i, alone, run(t, h, one, further, fuel).Seen)
				}
			}
		}
	}
	drawPrograms(t, 113, 600, 10, 50, func(r *rand.Rand, p api.Program, all []api.Program) {
		one, two := drawMemories(r, p.Regions)
		for _, h := range all {
			try(h, one, two)
		}
	})
	if c.ifs < 5000 || c.open < 1000 || c.hidden < 1000 || c.both < 1000 {
		t.Errorf("too few of a kind: %+v", c)
	}
}

// drawHard draws any program that is hard, checked or not. It has secrets from the first instructions on, and uses few registers.
func drawHard(r *rand.Rand) api.Program {
	d := drawer{Rand: r, Program: api.Program{Regions: drawRegions(r)}}
	few := r.Perm(api.Regs + 2)[:4]
	register := func() int { return few[r.Intn(len(few))] }
	for range 1 + r.Intn(3) {
		c, n := d.kind(true)
		d.lay(loadK(register(), c, n))
	}
	size := int64(len(d.Code) + 1 + r.Intn(30))
	place := func() int64 {
		if r.Intn(3) == 0 {
			return 0
		}
		return r.Int63n(size)
	}
	for int64(len(d.Code)) < size {
		a, b := register(), register()
		c, n := d.region()
		all := []api.Ins{
			set(a, d.number()), move(a, b), add(a, b, d.number()), mask(a, 1+r.Int63n(64)), stop(), halt(a), jump(place()),
			when(a, d.cond(), b, place()), load(a, b, c, 0), put(a, b, c, n), loadK(a, c, n), putK(a, c, n),
			op(1+r.Intn(api.OpMod), a, b, register()), op(api.OpDiv, a, b, register()),
		}
		d.lay(all[r.Intn(len(all))])
	}
	if r.Intn(3) == 0 {
		d.Code[size-1] = when(register(), d.cond(), register(), place())
	}
	return d.Program
}

// A spread counts in which way what is found differs.
type spread struct {
	none            int
	kind, a, b      int // this field alone
	several         int
	shorter, longer int // the first run ends earlier than the second one, or later
}

func (s *spread) count(one, two []api.See, got answer) {
	switch n := got.at; {
	case !got.found:
		s.none++
	case n == len(one):
		s.shorter++
	case n == len(two):
		s.longer++
	default:
		s.countFields(one[n], two[n])
	}
}

func (s *spread) countFields(one, two api.See) {
	switch [3]bool{one.Kind != two.Kind, one.A != two.A, one.B != two.B} {
	case [3]bool{true, false, false}:
		s.kind++
	case [3]bool{false, true, false}:
		s.a++
	case [3]bool{false, false, true}:
		s.b++
	default:
		s.several++
	}
}

// Any programs that are hard, whether they may be or not, and any two memories.
func TestK1DrawnPrograms(t *testing.T) {
	r := rand.New(rand.NewSource(114))
	var s spread
	may := 0
	for range 12000 {
		p := drawHard(r)
		if !layout.Hard(p) {
			t.Fatalf("not hard: %v", p)
		}
		if layout.May(p) {
			may++
		}
		one, two := drawMemories(r, p.Regions)
		for n := range 4 {
			script, fuel := drawScript(r), drawFuel(r)
			if n == 0 {
				script = nil
			}
			got := right(t, "drawn", p, one, two, script, fuel)
			if round := asked(p, two, one, script, fuel); round != got {
				t.Fatalf("%+v, and the other way round %+v of %v, %v and %v, script %v, fuel %d", got, round, p, one, two, script, fuel)
			}
			s.count(run(t, p, one, script, fuel).Seen, run(t, p, two, script, fuel).Seen, got)
		}
	}
	if s.none < 1000 || s.a < 1000 || s.b < 1000 || s.kind < 10 || s.several < 200 || s.shorter < 500 || s.longer < 500 || may < 1000 || may > 11000 {
		t.Errorf("too few of a kind: %+v, %d programs that may be", s, may)
	}
}
