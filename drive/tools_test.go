package drive

import (
	"fmt"
	"regexp"
	"strconv"
	"strings"
	"testing"

	"evenkeel/api"
	"evenkeel/check"
	"evenkeel/harden"
	"evenkeel/load"
	"evenkeel/seq"
	"evenkeel/spec"
	"evenkeel/text"
)

// cut gives a text short enough to be told.
func cut(s string) string { return s[:min(len(s), 2000)] }

// lined gives a text of those lines.
func lined(lines ...string) string {
	var out strings.Builder
	for _, line := range lines {
		out.WriteString(line + "\n")
	}
	return out.String()
}

// playsAs sees that Play of script answers want.
func playsAs(t *testing.T, script, want string) {
	t.Helper()
	if s := Play(script); s != want {
		t.Errorf("Play of %q\nanswers %q\nwant    %q", cut(script), cut(s), cut(want))
	}
}

// A said is a line and the answer to it.
type said struct{ line, answer string }

// talks sees that Play answers each line as is said, whether the last one has an end or not.
func talks(t *testing.T, name string, lines ...said) {
	t.Helper()
	if len(lines) > 40 {
		t.Fatalf("%s: too many lines to be played", name)
	}
	var script, want string
	for _, l := range lines {
		script += l.line + "\n"
		want += l.answer + "\n"
	}
	for _, s := range []string{script, strings.TrimSuffix(script, "\n")} {
		answers := strings.SplitAfter(Play(s), "\n")
		for n, l := range lines {
			if n >= len(answers) || answers[n] != l.answer+"\n" {
				t.Errorf("%s: line %d, %q: answers %q; want %q", name, n, cut(l.line), answers[n:min(n+1, len(answers))], cut(l.answer))
				return
			}
		}
		if got := strings.Join(answers, ""); got != want {
			t.Errorf("%s: answers %q, want %q", name, cut(got), cut(want))
		}
	}
}

// refused sees that line has the answer ?, and changes nothing, where the lines of begin were played.
func refused(t *testing.T, begin []string, line string) {
	t.Helper()
	behind := []string{"ins 9 1 0 0 0", "look 0", "look 1", "look 2", "look 3", "look 4", "look 5", "text", "run 99"}
	without := Play(lined(append(append([]string{}, begin...), behind...)...))
	ahead := Play(lined(begin...))
	if with := Play(lined(append(append(append([]string{}, begin...), line), behind...)...)); with != ahead+"?\n"+without[len(ahead):] {
		t.Errorf("%q behind %q: answers %q", cut(line), begin, cut(with))
	}
}

// A plainPlayer reckons answers another way: lines are told by regular expressions, answers by package fmt.
type plainPlayer struct {
	program api.Program
	memory  map[int][64]int64
}

// number is what a NUMBER is by the chapter.
const numberForm = `(?:0|-?[1-9][0-9]{0,5})`

// forms has what each line that is one may be, whole.
var forms = func() map[string]*regexp.Regexp {
	out := map[string]*regexp.Regexp{}
	for word, behind := range map[string]string{
		"region": ` ([0-6]) ([01])`,
		"fill":   ` ([0-5])((?: NUMBER)*)`,
		"ins":    ` (NUMBER) (NUMBER) (NUMBER) (NUMBER) (NUMBER)`,
		"check":  ``,
		"run":    ` (NUMBER)`,
		"ahead":  ` (NUMBER)((?: NUMBER)*)`,
		"hard":   ``,
		"load":   ``,
		"text":   ``,
		"look":   ` ([0-5])`,
	} {
		out[word] = regexp.MustCompile(`\A` + word + strings.ReplaceAll(behind, "NUMBER", numberForm) + `\z`)
	}
	return out
}()

// numbered gives the numbers that are in a text.
func numbered(s string) []int {
	var out []int
	for _, field := range strings.Fields(s) {
		n, err := strconv.Atoi(field)
		if err != nil {
			panic(err)
		}
		out = append(out, n)
	}
	return out
}

// plainly reckons the answer to a script.
func plainly(script string) string {
	lines := strings.Split(script, "\n")
	if lines[len(lines)-1] == "" {
		lines = lines[:len(lines)-1]
	}
	if len(lines) > 40 {
		lines = lines[:40]
	}
	p := plainPlayer{memory: map[int][64]int64{}}
	var out strings.Builder
	for _, line := range lines {
		out.WriteString(p.reckon(line))
	}
	return out.String()
}

// reckon gives the answer to a line, with its end.
func (p *plainPlayer) reckon(line string) string {
	for word, form := range forms {
		if parts := form.FindStringSubmatch(line); parts != nil {
			return p.reckonWord(word, append(parts[1:], "", ""))
		}
	}
	return "?\n"
}

func (p *plainPlayer) reckonWord(word string, parts []string) string {
	first := append(numbered(parts[0]), 0)[0]
	rest := numbered(parts[1])
	switch word {
	case "region":
		if len(p.program.Regions) == 6 {
			return "?\n"
		}
		p.program.Regions = append(p.program.Regions, api.Region{Log: first, Secret: parts[1] == "1"})
		return fmt.Sprintln("ok", len(p.program.Regions))
	case "fill":
		return p.reckonFill(first, rest)
	case "look":
		if first >= len(p.program.Regions) {
			return "?\n"
		}
		return fmt.Sprintln("is", strings.Trim(fmt.Sprint(p.words()[first]), "[]"))
	case "ins":
		if len(p.program.Code) > 199 {
			return "?\n"
		}
		n := numbered(strings.Join(parts, " "))
		p.program.Code = append(p.program.Code, api.Ins{Op: n[0], A: n[1], B: n[2], C: n[3], N: int64(n[4])})
		return fmt.Sprintln("ok", len(p.program.Code))
	case "run":
		return reckonRun(seq.Run(p.program, p.words(), first))
	case "ahead":
		return reckonRun(spec.Run(p.program, p.words(), rest, first))
	}
	return p.reckonMade(word)
}

// reckonMade is of the words that have no number behind them.
func (p *plainPlayer) reckonMade(word string) string {
	var fault api.Fault
	var size int
	switch word {
	case "check":
		if fault = check.Check(p.program); fault == (api.Fault{}) {
			return "ok\n"
		}
	case "hard":
		var made api.Program
		if made, fault = harden.Make(p.program); fault == (api.Fault{}) {
			p.program = made
		}
		size = len(made.Code)
	case "load":
		var made []uint32
		made, fault = load.Load(p.program)
		size = len(made)
	case "text":
		made, code := text.Print(p.program)
		if code != api.OK {
			return fmt.Sprintln("bad", int(code))
		}
		size = len(made)
	}
	if fault != (api.Fault{}) {
		return fmt.Sprintln("bad", int(fault.Code), fault.At)
	}
	return fmt.Sprintln("ok", size)
}

// words gives the memory, as long as its regions are.
func (p *plainPlayer) words() [][]int64 {
	var out [][]int64
	for n, r := range p.program.Regions {
		words := p.memory[n]
		out = append(out, append([]int64{}, words[:1<<r.Log]...))
	}
	return out
}

func (p *plainPlayer) reckonFill(region int, numbers []int) string {
	if region >= len(p.program.Regions) || len(numbers) > 1<<p.program.Regions[region].Log {
		return "?\n"
	}
	words := p.memory[region]
	for n := range numbers {
		words[n] = int64(numbers[n])
	}
	p.memory[region] = words
	return "ok\n"
}

func reckonRun(shown api.Shown, code api.Errno) string {
	if code != api.OK {
		return fmt.Sprintln("bad", int(code))
	}
	end := map[int]string{api.EndFuel: "fuel", api.EndDone: "done", api.EndFault: "fault"}[shown.End]
	return fmt.Sprintln(end, shown.Value, shown.Steps, len(shown.Seen))
}
