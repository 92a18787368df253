package text

import (
	"fmt"
	"math"
	"regexp"
	"slices"
	"strconv"
	"strings"
	"testing"

	"evenkeel/api"
	"evenkeel/layout"
)

const (
	least    = math.MinInt64
	greatest = math.MaxInt64
)

func set(a int, n int64) api.Ins { return api.Ins{Op: api.ISet, A: a, N: n} }

func halt(a int) api.Ins { return api.Ins{Op: api.IHalt, A: a} }

func stop() api.Ins { return api.Ins{Op: api.IFence} }

// sixRegions has MaxRegions of them.
func sixRegions() []api.Region {
	return []api.Region{{Log: 6}, {Secret: true}, {Log: 1}, {Log: 3, Secret: true}, {Log: 0}, {Log: 6, Secret: true}}
}

const sixLines = "region 6 public\nregion 0 secret\nregion 1 public\nregion 3 secret\nregion 0 public\nregion 6 secret\n"

func copied(p api.Program) api.Program {
	return api.Program{Regions: slices.Clone(p.Regions), Code: slices.Clone(p.Code)}
}

func equal(p, q api.Program) bool {
	return slices.Equal(p.Regions, q.Regions) && slices.Equal(p.Code, q.Code)
}

// lined gives a text of those lines.
func lined(lines ...string) string {
	if len(lines) == 0 {
		return ""
	}
	return strings.Join(lines, "\n") + "\n"
}

// cut gives a text short enough to be told.
func cut(s string) string { return s[:min(len(s), 2000)] }

// printsAs sees that Print of p answers want, and changes nothing.
func printsAs(t *testing.T, name string, p api.Program, want string) {
	t.Helper()
	before := copied(p)
	if s, wrong := Print(p); wrong != api.OK || s != want {
		t.Fatalf("%s: Print answers %q, %v; want %q", name, cut(s), wrong, cut(want))
	}
	if !equal(p, before) {
		t.Fatalf("%s: Print has changed what was handed in", name)
	}
}

// parsesAs sees that Parse of s answers want.
func parsesAs(t *testing.T, name, s string, want api.Program) {
	t.Helper()
	if p, fault := Parse(s); fault != (api.Fault{}) || !equal(p, want) {
		t.Fatalf("%s: Parse answers %v, %v; of %q", name, p, fault, cut(s))
	}
}

// bothWays sees that p and s are each other.
func bothWays(t *testing.T, name string, p api.Program, s string) {
	t.Helper()
	printsAs(t, name, p, s)
	parsesAs(t, name, s, p)
}

// printFails sees that Print of p answers ErrForm alone, and changes nothing.
func printFails(t *testing.T, name string, p api.Program) {
	t.Helper()
	before := copied(p)
	if s, wrong := Print(p); wrong != api.ErrForm || s != "" {
		t.Fatalf("%s: Print answers %q, %v; want ErrForm alone", name, cut(s), wrong)
	}
	if !equal(p, before) {
		t.Fatalf("%s: Print has changed what was handed in", name)
	}
}

// parseFails sees that Parse of s answers ErrForm and the number alone.
func parseFails(t *testing.T, name, s string, at int) {
	t.Helper()
	p, fault := Parse(s)
	if fault != (api.Fault{Code: api.ErrForm, At: at}) || len(p.Regions) != 0 || len(p.Code) != 0 {
		t.Fatalf("%s: Parse answers %v and %d, %d; want ErrForm at %d alone; of %q", name, fault, len(p.Regions), len(p.Code), at, cut(s))
	}
}

// What the words of a line are by the chapter: of IIf by C, of IOp by the operation, each from 1 on.
var (
	whenWords = []string{"", "same", "other", "less", "most"}
	opWords   = []string{"", "add", "sub", "mul", "and", "or", "xor", "shl", "shr", "div", "mod"}
)

// plainText tells the text of a hard program another way.
func plainText(p api.Program) string {
	var out strings.Builder
	for _, r := range p.Regions {
		fmt.Fprintf(&out, "region %d %s\n", r.Log, map[bool]string{false: "public", true: "secret"}[r.Secret])
	}
	for _, i := range p.Code {
		out.WriteString(plainLine(i) + "\n")
	}
	return out.String()
}

func plainLine(i api.Ins) string {
	switch i.Op {
	case api.ISet:
		return fmt.Sprintf("set r%d %d", i.A, i.N)
	case api.IMove:
		return fmt.Sprintf("move r%d r%d", i.A, i.B)
	case api.IAdd:
		return fmt.Sprintf("plus r%d r%d %d", i.A, i.B, i.N)
	case api.ILoad:
		return fmt.Sprintf("load r%d g%d r%d %d", i.A, i.C, i.B, i.N)
	case api.IPut:
		return fmt.Sprintf("put r%d g%d r%d %d", i.A, i.C, i.B, i.N)
	case api.ILoadK:
		return fmt.Sprintf("loadk r%d g%d %d", i.A, i.C, i.N)
	case api.IPutK:
		return fmt.Sprintf("putk r%d g%d %d", i.A, i.C, i.N)
	case api.IJump:
		return fmt.Sprintf("jump %d", i.N)
	case api.IIf:
		return fmt.Sprintf("%s r%d r%d %d", whenWords[i.C], i.A, i.B, i.N)
	case api.IHalt:
		return fmt.Sprintf("halt r%d", i.A)
	case api.IMask:
		return fmt.Sprintf("mask r%d %d", i.A, i.N)
	case api.IFence:
		return "fence"
	}
	return fmt.Sprintf("%s r%d r%d r%d", opWords[i.Op-api.IOp], i.A, i.B, i.C)
}

// A lineForm is what a line may be, whole, and what its numbers make of it.
type lineForm struct {
	whole *regexp.Regexp
	make  func(n []int64) api.Ins
}

// A plainReader tells what is wrong with a text another way; it keeps what it has found of a line.
type plainReader struct {
	region *regexp.Regexp
	forms  []lineForm
	known  map[string]plainFound
}

type plainFound struct {
	region api.Region
	ins    api.Ins
	kind   int // 0: a line that is none, 1: of a region, 2: of an instruction
}

// newForm has # for a number of up to 18 digits, and @ for one of any.
func newForm(form string) *regexp.Regexp {
	form = strings.ReplaceAll(form, "#", `(0|-?[1-9][0-9]{0,17})`)
	form = strings.ReplaceAll(form, "@", `(0|-?[1-9][0-9]*)`)
	return regexp.MustCompile(`\A` + form + `\z`)
}

func newPlainReader() *plainReader {
	r := &plainReader{region: newForm(`region # (public|secret)`), known: map[string]plainFound{}}
	add := func(form string, make func(n []int64) api.Ins) {
		r.forms = append(r.forms, lineForm{newForm(form), make})
	}
	add("set r# @", func(n []int64) api.Ins { return set(int(n[0]), n[1]) })
	add("move r# r#", func(n []int64) api.Ins { return api.Ins{Op: api.IMove, A: int(n[0]), B: int(n[1])} })
	add("plus r# r# @", func(n []int64) api.Ins { return api.Ins{Op: api.IAdd, A: int(n[0]), B: int(n[1]), N: n[2]} })
	add("load r# g# r# @", func(n []int64) api.Ins {
		return api.Ins{Op: api.ILoad, A: int(n[0]), C: int(n[1]), B: int(n[2]), N: n[3]}
	})
	add("put r# g# r# @", func(n []int64) api.Ins {
		return api.Ins{Op: api.IPut, A: int(n[0]), C: int(n[1]), B: int(n[2]), N: n[3]}
	})
	add("loadk r# g# @", func(n []int64) api.Ins { return api.Ins{Op: api.ILoadK, A: int(n[0]), C: int(n[1]), N: n[2]} })
	add("putk r# g# @", func(n []int64) api.Ins { return api.Ins{Op: api.IPutK, A: int(n[0]), C: int(n[1]), N: n[2]} })
	add("jump @", func(n []int64) api.Ins { return api.Ins{Op: api.IJump, N: n[0]} })
	for c := api.CondSame; c <= api.CondMost; c++ {
		add(whenWords[c]+" r# r# @", func(n []int64) api.Ins {
			return api.Ins{Op: api.IIf, A: int(n[0]), B: int(n[1]), C: c, N: n[2]}
		})
	}
	add("halt r#", func(n []int64) api.Ins { return halt(int(n[0])) })
	add("mask r# @", func(n []int64) api.Ins { return api.Ins{Op: api.IMask, A: int(n[0]), N: n[1]} })
	add("fence", func([]int64) api.Ins { return stop() })
	for op := api.OpAdd; op <= api.OpMod; op++ {
		add(opWords[op]+" r# r# r#", func(n []int64) api.Ins {
			return api.Ins{Op: api.IOp + op, A: int(n[0]), B: int(n[1]), C: int(n[2])}
		})
	}
	return r
}

func (r *plainReader) line(line string) plainFound {
	if found, ok := r.known[line]; ok {
		return found
	}
	found := r.look(line)
	if len(line) < 100 {
		r.known[line] = found
	}
	return found
}

func (r *plainReader) look(line string) plainFound {
	if parts := r.region.FindStringSubmatch(line); parts != nil {
		log, _ := strconv.Atoi(parts[1])
		return plainFound{kind: 1, region: api.Region{Log: log, Secret: parts[2] == "secret"}}
	}
	for _, form := range r.forms {
		parts := form.whole.FindStringSubmatch(line)
		if parts == nil {
			continue
		}
		var numbers []int64
		for _, part := range parts[1:] {
			n, err := strconv.ParseInt(part, 10, 64)
			if err != nil {
				return plainFound{}
			}
			numbers = append(numbers, n)
		}
		return plainFound{kind: 2, ins: form.make(numbers)}
	}
	return plainFound{}
}

// parse tells what Parse must answer.
func (r *plainReader) parse(s string) (api.Program, api.Fault) {
	lines := strings.Split(s, "\n")
	last := len(lines) - 1
	var p api.Program
	for at, line := range lines[:last] {
		found := r.line(line)
		switch {
		case found.kind == 1 && len(p.Code) == 0:
			p.Regions = append(p.Regions, found.region)
		case found.kind == 2:
			p.Code = append(p.Code, found.ins)
		default:
			return api.Program{}, api.Fault{Code: api.ErrForm, At: at}
		}
	}
	if lines[last] != "" || !layout.Hard(p) {
		return api.Program{}, api.Fault{Code: api.ErrForm, At: last}
	}
	return p, api.Fault{}
}

// What became of a text.
const (
	isProgram  = 0
	hasNoLine  = 1 // a line that is none, or at a wrong place
	isNoneHard = 2 // all lines are some
)

// as sees that Parse of s is as the plain reader asks, and that Print answers s again, where it is a text; and tells what became of it.
func (r *plainReader) as(t *testing.T, s string) int {
	t.Helper()
	want, wrong := r.parse(s)
	if wrong == (api.Fault{}) {
		bothWays(t, "a text", want, s)
		return isProgram
	}
	parseFails(t, "no text", s, wrong.At)
	if wrong.At == strings.Count(s, "\n") && strings.HasSuffix("\n"+s, "\n") {
		return isNoneHard
	}
	return hasNoLine
}
