package drive

import (
	"fmt"
	"math/rand"
	"slices"
	"strings"
	"testing"

	"evenkeel/api"
)

// A drawer draws scripts; it knows roughly what there is, so that many of its lines are played well.
type drawer struct {
	*rand.Rand
	logs []int // of the regions that there are
	size int   // how many instructions there will be
}

// any gives one of some.
func (d *drawer) any(some ...string) string { return some[d.Intn(len(some))] }

// number is any, well written or not; the edges come often.
func (d *drawer) number() string {
	switch d.Intn(12) {
	case 0:
		return d.any("999999", "-999999", "1000000", "-1000000", "100000", "-0", "00", "01", "+1", "-", "", "-1", "999999999999", "x")
	case 1:
		return fmt.Sprint(d.Intn(2400000) - 1200000)
	case 2:
		return fmt.Sprint(-d.Intn(10))
	}
	return fmt.Sprint(d.Intn(9))
}

// numbers gives up to most of them, each behind a blank.
func (d *drawer) numbers(most int) string {
	var out strings.Builder
	for range d.Intn(most + 1) {
		if d.Intn(8) == 0 {
			out.WriteString(" " + d.number())
		} else {
			fmt.Fprint(&out, " ", d.Intn(4))
		}
	}
	return out.String()
}

func (d *drawer) region() string {
	log := d.Intn(8)
	if d.Intn(2) == 0 {
		log = d.Intn(3)
	}
	if log <= api.MaxLog && len(d.logs) < api.MaxRegions {
		d.logs = append(d.logs, log)
	}
	return fmt.Sprintf("region %d %s", log, d.any("0", "0", "1", "1", "2", "-1"))
}

// fill has often as many numbers as there are words, or one more.
func (d *drawer) fill() string {
	if len(d.logs) == 0 || d.Intn(4) == 0 {
		return fmt.Sprintf("fill %d%s", d.Intn(8)-1, d.numbers(5))
	}
	region := d.Intn(len(d.logs))
	if d.Intn(3) == 0 {
		return fmt.Sprint("fill ", region, d.numbers(1<<d.logs[region]))
	}
	var out strings.Builder
	for range 1<<d.logs[region] + d.Intn(2) {
		fmt.Fprint(&out, " ", d.Intn(9)-2)
	}
	return fmt.Sprint("fill ", region, out.String())
}

func (d *drawer) register() int { return d.Intn(api.Regs) }

// instruction is mostly one that may be.
func (d *drawer) instruction() string {
	region, word := 0, 0
	if len(d.logs) > 0 {
		region = d.Intn(len(d.logs))
		word = d.Intn(1 << d.logs[region])
	}
	a, b, to := d.register(), d.register(), d.Intn(d.size)
	switch d.Intn(13) {
	case 0:
		return fmt.Sprintf("ins 1 %d 0 0 %d", a, d.Intn(30000)-10000)
	case 1:
		return fmt.Sprintf("ins 2 %d %d 0 0", a, b)
	case 2:
		return fmt.Sprintf("ins 10 %d %d 0 %d", a, b, d.Intn(5))
	case 3:
		return fmt.Sprintf("ins %d %d %d %d %d", 3+d.Intn(2), a, b, region, d.Intn(2)*word)
	case 4, 5:
		return fmt.Sprintf("ins %d %d 0 %d %d", 5+d.Intn(2), a, region, word)
	case 6:
		return fmt.Sprintf("ins 7 0 0 0 %d", to)
	case 7, 8:
		return fmt.Sprintf("ins 8 %d %d %d %d", a, b, 1+d.Intn(4), to)
	case 9:
		return fmt.Sprintf("ins 11 %d 0 0 %d", a, 1+d.Intn(8))
	case 10:
		return "ins 12 0 0 0 0"
	case 11:
		return fmt.Sprintf("ins 9 %d 0 0 0", a)
	}
	return fmt.Sprintf("ins %d %d %d %d 0", 21+d.Intn(10), a, b, d.register())
}

// fuel is seldom as much as there may be: such runs take long.
func (d *drawer) fuel() string {
	if d.Intn(100) == 0 {
		return "40000"
	}
	return d.any("0", "1", "5", "20", "20", "200", "200", "1000", "40001", "-1", d.number())
}

func (d *drawer) asked() string {
	switch d.Intn(10) {
	case 0:
		return "check"
	case 1:
		return "run " + d.fuel()
	case 2, 3:
		return "ahead " + d.fuel() + d.numbers(6)
	case 4:
		return "hard"
	case 5:
		return "load"
	case 6:
		return "text"
	case 7, 8:
		return fmt.Sprint("look ", d.Intn(max(1, len(d.logs)+1)))
	}
	return d.fill()
}

// other is a line of any word with any numbers behind it.
func (d *drawer) other() string {
	line := d.any("region", "fill", "ins", "check", "run", "ahead", "hard", "load", "text", "look", "", "regions", "x")
	for range d.Intn(7) {
		line += " " + d.number()
	}
	return line
}

func (d *drawer) line() string {
	switch d.Intn(20) {
	case 0, 1:
		return d.region()
	case 2, 3:
		return d.fill()
	case 4, 5, 6, 7, 8:
		return d.instruction()
	case 9:
		return d.other()
	}
	return d.asked()
}

// drawScript gives lines that lay regions, words and instructions first, with others among them, and ask then.
func drawScript(r *rand.Rand) []string {
	d := drawer{Rand: r, size: 1 + r.Intn(10)}
	var lines []string
	lay := func(line string) {
		if r.Intn(25) == 0 {
			lines = append(lines, d.line())
		}
		lines = append(lines, line)
	}
	for range r.Intn(4) {
		lay(d.region())
		if r.Intn(2) == 0 {
			lay(d.fill())
		}
	}
	for range d.size - 1 {
		lay(d.instruction())
	}
	lay(fmt.Sprintf("ins 9 %d 0 0 0", d.register()))
	for range r.Intn(20) {
		lines = append(lines, d.asked())
	}
	for range r.Intn(8) {
		lines = append(lines, d.line())
	}
	return lines
}

// A tally counts lines by their word, and the word that their answer begins with.
type tally map[[2]string]int

// first gives the word that a line begins with.
func first(line string) string {
	word, _, _ := strings.Cut(line, " ")
	return word
}

// add counts the lines of a script and their answers.
func (c tally) add(script, answer string) {
	lines := strings.Split(script, "\n")
	for n, a := range strings.Split(strings.TrimSuffix(answer, "\n"), "\n") {
		c[[2]string{first(lines[n]), first(a)}]++
	}
}

// enough sees that each answer that a word may have came often enough.
func (c tally) enough(t *testing.T, least int) {
	t.Helper()
	for word, answers := range map[string]string{
		"region": "ok ?", "fill": "ok ?", "ins": "ok ?", "check": "ok bad ?", "run": "fuel done fault bad ?", "ahead": "fuel done fault bad ?",
		"hard": "ok bad ?", "load": "ok bad ?", "text": "ok bad ?", "look": "is ?", "x": "?", "": "?",
	} {
		for _, answer := range strings.Fields(answers) {
			if count := c[[2]string{word, answer}]; count < least {
				t.Errorf("%q was answered by %q %d times only", word, answer, count)
			}
		}
	}
}

// asReckoned sees that Play of script answers what is reckoned another way, and gives it.
func asReckoned(t *testing.T, script string) string {
	t.Helper()
	want := plainly(script)
	if s := Play(script); s != want {
		t.Fatalf("Play of %q\nanswers %q\nwant    %q", cut(script), cut(s), cut(want))
	}
	return want
}

func TestM1M2DrawnScripts(t *testing.T) {
	r := rand.New(rand.NewSource(131))
	came := tally{}
	for range 20000 {
		script := strings.Join(drawScript(r), "\n")
		if r.Intn(2) == 0 {
			script += "\n"
		}
		came.add(script, asReckoned(t, script))
	}
	came.enough(t, 50)
}

// Behind hard, more may be laid and asked.
func TestM2DrawnScriptsWithHard(t *testing.T) {
	r := rand.New(rand.NewSource(132))
	grown := 0
	for range 10000 {
		lines := drawScript(r)
		lines = slices.Insert(lines, len(lines)/2+r.Intn(len(lines)/2+1), "text", "load", "hard", "check", "run 200", "ahead 200 1 0 1", "text", "ins 9 0 0 0 0", "text")
		answer := asReckoned(t, lined(lines...))
		if answers := strings.Split(answer, "\n"); slices.Index(lines, "hard") < 39 && strings.HasPrefix(answers[slices.Index(lines, "hard")], "ok ") {
			grown++
		}
	}
	if grown < 1000 {
		t.Errorf("only %d were hardened", grown)
	}
}

func TestM3DrawnScripts(t *testing.T) {
	r := rand.New(rand.NewSource(133))
	for range 700 {
		script := strings.Join(append(drawScript(r), drawScript(r)...), "\n")
		if r.Intn(2) == 0 {
			script += "\n"
		}
		beginnings(t, script)
	}
}

// changed gives s with one byte more, less or other.
func changed(r *rand.Rand, s string) string {
	some := []byte("\n\n  0123456789--+abcdefhiklnorstuxAR\r\t\x00\xff")
	b := some[r.Intn(len(some))]
	if r.Intn(10) == 0 {
		b = byte(r.Intn(256))
	}
	bytes := []byte(s)
	at := r.Intn(len(bytes) + 1)
	switch {
	case at == len(bytes) || r.Intn(3) == 0:
		bytes = slices.Insert(bytes, at, b)
	case r.Intn(2) == 0:
		bytes = slices.Delete(bytes, at, at+1)
	default:
		bytes[at] = b
	}
	return string(bytes)
}

func TestM1M2DrawnScriptsChangedByBytes(t *testing.T) {
	r := rand.New(rand.NewSource(134))
	came := tally{}
	for range 20000 {
		script := strings.Join(drawScript(r), "\n")
		for range 1 + r.Intn(5) {
			script = changed(r, script)
		}
		came.add(script, asReckoned(t, script))
	}
	came.enough(t, 50)
}

// Each byte of a script with all words is left out, and each other byte laid in its place and ahead of it.
func TestM1M2EachByteOther(t *testing.T) {
	script := lined("region 1 0", "fill 0 -1 20", "ins 5 1 0 0 1", "ins 9 1 0 0 0", "check", "run 99", "ahead 99 0 1", "load", "text", "hard", "look 0")
	if asReckoned(t, script) != lined("ok 1", "ok", "ok 1", "ok 2", "ok", "done 20 2 3", "done 20 2 3", "ok 2", "ok 38", "ok 2", "is -1 20") {
		t.Fatal("not what is to be tried")
	}
	for at := range len(script) + 1 {
		if at < len(script) {
			asReckoned(t, script[:at]+script[at+1:])
		}
		for b := range 256 {
			other := string([]byte{byte(b)})
			asReckoned(t, script[:at]+other+script[at:])
			if at < len(script) {
				asReckoned(t, script[:at]+other+script[at+1:])
			}
		}
	}
}

func TestM1AnyDrawnBytes(t *testing.T) {
	r := rand.New(rand.NewSource(135))
	for range 20000 {
		bytes := make([]byte, r.Intn(80))
		for n := range bytes {
			bytes[n] = byte(r.Intn(256))
			if r.Intn(3) == 0 {
				bytes[n] = '\n'
			}
		}
		asReckoned(t, string(bytes))
	}
}

// All scripts of up to five of these pieces.
func TestM1M2AllShortScripts(t *testing.T) {
	some := []string{"region 0 0", "fill 0", "look", "check", "0", "9", "-", " ", "\n"}
	scripts := []string{""}
	for range 6 {
		for _, s := range scripts {
			asReckoned(t, s)
		}
		var longer []string
		for _, s := range scripts {
			for _, piece := range some {
				longer = append(longer, s+piece)
			}
		}
		scripts = longer
	}
}
