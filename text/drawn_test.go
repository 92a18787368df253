package text

import (
	"math/rand"
	"slices"
	"strings"
	"testing"

	"evenkeel/api"
	"evenkeel/layout"
)

// ops has all Ops that there are.
func ops() []int {
	out := []int{
		api.ISet, api.IMove, api.ILoad, api.IPut, api.ILoadK, api.IPutK,
		api.IJump, api.IIf, api.IHalt, api.IAdd, api.IMask, api.IFence,
	}
	for op := api.OpAdd; op <= api.OpMod; op++ {
		out = append(out, api.IOp+op)
	}
	return out
}

// A drawer draws hard programs.
type drawer struct {
	*rand.Rand
	api.Program
	size int // how many instructions the program has
}

func (d *drawer) register() int { return d.Intn(api.Regs + 2) }

// number is of any size; the edges come often.
func (d *drawer) number() int64 {
	edges := []int64{least, least + 1, -10, -9, -1, 0, 1, 9, 10, 999999999999999999, 1000000000000000000, greatest - 1, greatest}
	if d.Intn(3) == 0 {
		return edges[d.Intn(len(edges))]
	}
	return int64(d.Uint64()) >> d.Intn(64)
}

// region gives the number of one, and that of one of its words.
func (d *drawer) region() (int, int64) {
	c := d.Intn(len(d.Regions))
	return c, d.Int63n(1 << d.Regions[c].Log)
}

func (d *drawer) instruction() api.Ins {
	i := api.Ins{Op: ops()[d.Intn(len(ops()))]}
	if len(d.Regions) == 0 && i.Op >= api.ILoad && i.Op <= api.IPutK {
		i.Op = api.IAdd
	}
	switch i.Op {
	case api.ISet:
		i.A, i.N = d.register(), d.number()
	case api.IMove:
		i.A, i.B = d.register(), d.register()
	case api.IAdd:
		i.A, i.B, i.N = d.register(), d.register(), d.number()
	case api.ILoad, api.IPut:
		i.A, i.B, i.N = d.register(), d.register(), d.number()
		i.C, _ = d.region()
	case api.ILoadK, api.IPutK:
		i.A = d.register()
		i.C, i.N = d.region()
	case api.IJump:
		i.N = d.Int63n(int64(d.size))
	case api.IIf:
		i.A, i.B, i.C, i.N = d.register(), d.register(), 1+d.Intn(4), d.Int63n(int64(d.size))
	case api.IHalt:
		i.A = d.register()
	case api.IMask:
		i.A, i.N = d.register(), 1+d.Int63n(64)
	case api.IFence:
	default:
		i.A, i.B, i.C = d.register(), d.register(), d.register()
	}
	return i
}

func drawProgram(r *rand.Rand, most int) api.Program {
	d := drawer{Rand: r, size: 1 + r.Intn(most)}
	for range r.Intn(api.MaxRegions + 1) {
		d.Regions = append(d.Regions, api.Region{Log: r.Intn(api.MaxLog + 1), Secret: r.Intn(2) == 0})
	}
	for range d.size {
		d.Code = append(d.Code, d.instruction())
	}
	return d.Program
}

func TestL2DrawnPrograms(t *testing.T) {
	r := rand.New(rand.NewSource(121))
	drawn := map[int]int{}
	for n := range 5000 {
		most := 30
		if n%500 == 0 {
			most = api.MaxHard
		}
		p := drawProgram(r, most)
		if !layout.Hard(p) {
			t.Fatalf("drawn wrong: %v", p)
		}
		bothWays(t, "drawn", p, plainText(p))
		for _, i := range p.Code {
			drawn[i.Op]++
		}
	}
	for _, op := range ops() {
		if drawn[op] < 1000 {
			t.Errorf("the Op %d was drawn %d times only", op, drawn[op])
		}
	}
}

func TestL2DrawnProgramsThatAreNotHard(t *testing.T) {
	r := rand.New(rand.NewSource(122))
	wrong := []int{least, -1, 10, 1 << 40, greatest}
	others := 0
	for range 5000 {
		p := drawProgram(r, 10)
		i := &p.Code[r.Intn(len(p.Code))]
		bad := wrong[r.Intn(len(wrong))]
		switch r.Intn(5) {
		case 0:
			i.Op = bad * 7
		case 1:
			i.A = bad
		case 2:
			i.B = bad
		case 3:
			i.C = bad
		case 4:
			i.N = int64(bad)
		}
		if !layout.Hard(p) {
			printFails(t, "drawn", p)
			others++
		}
	}
	if others < 3000 {
		t.Errorf("only %d that are not hard", others)
	}
}

// tally counts what became of texts, and sees that each came often enough.
type tally [3]int

func (c tally) atLeast(t *testing.T, programs, noLines, notHard int) {
	t.Helper()
	if c[isProgram] < programs || c[hasNoLine] < noLines || c[isNoneHard] < notHard {
		t.Errorf("only %d programs, %d with a line that is none, and %d of no program", c[isProgram], c[hasNoLine], c[isNoneHard])
	}
}

// changed gives s with one byte more, less or other; often it is a digit for a digit.
func changed(r *rand.Rand, s string) string {
	bytes := []byte(s)
	if at := r.Intn(len(bytes)); bytes[at] >= '0' && bytes[at] <= '9' && r.Intn(2) == 0 {
		bytes[at] = '0' + byte(r.Intn(10))
		return string(bytes)
	}
	some := []byte("\n\n  0123456789--+rgrgabcdefhiklmnopstuvxANL\r\t\x00\xff")
	b := some[r.Intn(len(some))]
	if r.Intn(10) == 0 {
		b = byte(r.Intn(256))
	}
	at := r.Intn(len(bytes) + 1)
	switch {
	case at == len(bytes) || r.Intn(3) == 0:
		bytes = slices.Insert(bytes, at, b)
	case r.Intn(2) == 0:
		bytes = slices.Delete(bytes, at, at+1)
	default:
		bytes[at] = b
	}
	return string(bytes)
}

func TestL2DrawnTextsChangedByBytes(t *testing.T) {
	r := rand.New(rand.NewSource(123))
	plain := newPlainReader()
	var became tally
	for range 120000 {
		s := plainText(drawProgram(r, 6))
		for range 1 + r.Intn(2) {
			s = changed(r, s)
		}
		became[plain.as(t, s)]++
	}
	became.atLeast(t, 5000, 20000, 1500)
}

// Lines are moved, doubled, left out, or taken from another text.
func TestL2DrawnTextsChangedByLines(t *testing.T) {
	r := rand.New(rand.NewSource(124))
	plain := newPlainReader()
	var became tally
	for range 30000 {
		lines := strings.SplitAfter(plainText(drawProgram(r, 6)), "\n")
		others := strings.SplitAfter(plainText(drawProgram(r, 6)), "\n")
		for range 1 + r.Intn(2) {
			at, from := r.Intn(len(lines)), r.Intn(len(lines))
			switch r.Intn(4) {
			case 0:
				lines[at], lines[from] = lines[from], lines[at]
			case 1:
				lines = slices.Insert(lines, at, lines[from])
			case 2:
				lines = slices.Insert(lines, at, others[r.Intn(len(others))])
			case 3:
				lines[at] = ""
			}
		}
		became[plain.as(t, strings.Join(lines, ""))]++
	}
	became.atLeast(t, 10000, 5000, 2000)
}

// pieces has words, numbers and marks that lines are made of, and some that they are not.
func pieces() []string {
	out := []string{
		"region", "set", "move", "plus", "load", "put", "loadk", "putk", "jump", "halt", "mask", "fence", "public", "secret",
		"r0", "r1", "r9", "r10", "r-1", "g0", "g1", "g6", "0", "1", "2", "6", "7", "64", "65", "-1", "-0", "01", "r01", "g-0", "r", "g", "-", "+1", "",
	}
	return append(append(out, whenWords[1:]...), opWords[1:]...)
}

func drawNumber(r *rand.Rand) string {
	some := []string{
		"0", "1", "1", "2", "5", "9", "10", "63", "64", "65", "-1", "-64", "999999999999999999", "-999999999999999999", "1000000000000000000",
		"9223372036854775807", "9223372036854775808", "-9223372036854775808", "-9223372036854775809", "00", "01", "-0", "-01", "+1", "-", "",
	}
	return some[r.Intn(len(some))]
}

// drawLine gives a line with a number that was drawn for one of its fields; sometimes one word is another, too many or missing.
func drawLine(r *rand.Rand) string {
	some := pieces()
	forms := spots()
	number := drawNumber(r)
	words := strings.Split(strings.NewReplacer("#", number, "%", number).Replace(forms[r.Intn(len(forms))]), " ")
	at := r.Intn(len(words))
	switch r.Intn(9) {
	case 0:
		words[at] = some[r.Intn(len(some))]
	case 1:
		words = slices.Insert(words, at, some[r.Intn(len(some))])
	case 2:
		words = slices.Delete(words, at, at+1)
	}
	return strings.Join(words, " ")
}

func TestL2DrawnLines(t *testing.T) {
	r := rand.New(rand.NewSource(125))
	plain := newPlainReader()
	var became tally
	for range 200000 {
		lines := []string{"region 1 public", "region 6 secret", drawLine(r)}
		for r.Intn(3) == 0 {
			lines = append(lines, drawLine(r))
		}
		became[plain.as(t, lined(append(lines, "fence")...))]++
	}
	became.atLeast(t, 20000, 50000, 10000)
}

// Each byte of a text that has all kinds of lines is left out, and each other byte laid in its place and ahead of it.
func TestL2EachByteOther(t *testing.T) {
	plain := newPlainReader()
	var became tally
	lines := []string{"region 6 public", "region 1 secret", "set r1 -50", "move r1 r2", "plus r1 r2 0", "load r1 g1 r2 3", "put r1 g0 r2 -4", "loadk r3 g0 10", "putk r0 g1 1",
		"jump 11", "same r1 r2 3", "other r4 r5 0", "less r6 r7 24", "most r8 r9 1", "halt r5", "mask r6 64", "fence"}
	for _, word := range opWords[1:] {
		lines = append(lines, word+" r1 r2 r3")
	}
	s := lined(lines...)
	if plain.as(t, s) != isProgram {
		t.Fatal("not what is to be tried")
	}
	for at := range len(s) + 1 {
		if at < len(s) {
			became[plain.as(t, s[:at]+s[at+1:])]++
		}
		for b := range 256 {
			other := string([]byte{byte(b)})
			became[plain.as(t, s[:at]+other+s[at:])]++
			if at < len(s) {
				became[plain.as(t, s[:at]+other+s[at+1:])]++
			}
		}
	}
	became.atLeast(t, 1000, 100000, 500)
}

// All texts of up to five of these pieces; few of them are programs.
func TestL2AllShortTexts(t *testing.T) {
	plain := newPlainReader()
	var became tally
	some := []string{"fence", "region 1 public", "halt r", "jump ", "0", "9", "-", " ", "\n"}
	texts := []string{""}
	for range 6 {
		for _, s := range texts {
			became[plain.as(t, s)]++
		}
		var longer []string
		for _, s := range texts {
			for _, piece := range some {
				longer = append(longer, s+piece)
			}
		}
		texts = longer
	}
	became.atLeast(t, 15, 50000, 25)
}

func TestL2AnyDrawnBytes(t *testing.T) {
	r := rand.New(rand.NewSource(126))
	plain := newPlainReader()
	for range 20000 {
		bytes := make([]byte, r.Intn(40))
		for n := range bytes {
			bytes[n] = byte(r.Intn(256))
			if r.Intn(4) == 0 {
				bytes[n] = '\n'
			}
		}
		plain.as(t, string(bytes))
	}
}

func TestTheSameForTheSame(t *testing.T) {
	r := rand.New(rand.NewSource(127))
	for range 200 {
		p := drawProgram(r, 30)
		one, _ := Print(p)
		two, _ := Print(copied(p))
		q, _ := Parse(one)
		s, _ := Parse(strings.Clone(two))
		if one != two || !equal(q, s) {
			t.Fatalf("other answers for the same: %v", p)
		}
	}
}
