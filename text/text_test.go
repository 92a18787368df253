package text

import (
	"fmt"
	"slices"
	"strconv"
	"strings"
	"testing"

	"evenkeel/api"
	"evenkeel/fence"
	"evenkeel/harden"
	"evenkeel/layout"
)

func TestL1TheExample(t *testing.T) {
	p := api.Program{Regions: []api.Region{{Log: 2, Secret: true}}, Code: []api.Ins{{Op: api.ILoadK, A: 1, N: 3}, halt(0)}}
	bothWays(t, "the example", p, "region 2 secret\nloadk r1 g0 3\nhalt r0\n")
}

// A handmade is an instruction and its line.
type handmade struct {
	i    api.Ins
	line string
}

// handmades has each kind of instruction, each operation and each condition, the fields at their least and greatest and all different,
// in a program with sixRegions and at least 65 instructions.
func handmades() []handmade {
	return []handmade{
		{set(0, 0), "set r0 0"},
		{set(9, -1), "set r9 -1"},
		{set(1, 1), "set r1 1"},
		{set(8, 10), "set r8 10"},
		{set(2, greatest), "set r2 9223372036854775807"},
		{set(3, least), "set r3 -9223372036854775808"},
		{set(4, 1000000000000000000), "set r4 1000000000000000000"},
		{set(5, -1000000000000000000), "set r5 -1000000000000000000"},
		{api.Ins{Op: api.IMove}, "move r0 r0"},
		{api.Ins{Op: api.IMove, A: 9, B: 8}, "move r9 r8"},
		{api.Ins{Op: api.IMove, A: 1, B: 2}, "move r1 r2"},
		{api.Ins{Op: api.IAdd}, "plus r0 r0 0"},
		{api.Ins{Op: api.IAdd, A: 8, B: 9, N: greatest}, "plus r8 r9 9223372036854775807"},
		{api.Ins{Op: api.IAdd, A: 7, B: 6, N: least}, "plus r7 r6 -9223372036854775808"},
		{api.Ins{Op: api.IAdd, A: 1, B: 2, N: -30}, "plus r1 r2 -30"},
		{api.Ins{Op: api.ILoad}, "load r0 g0 r0 0"},
		{api.Ins{Op: api.ILoad, A: 9, B: 8, C: 5, N: greatest}, "load r9 g5 r8 9223372036854775807"},
		{api.Ins{Op: api.ILoad, A: 1, B: 2, C: 3, N: 4}, "load r1 g3 r2 4"},
		{api.Ins{Op: api.ILoad, A: 1, B: 2, C: 3, N: -4}, "load r1 g3 r2 -4"},
		{api.Ins{Op: api.IPut}, "put r0 g0 r0 0"},
		{api.Ins{Op: api.IPut, A: 8, B: 9, C: 5, N: least}, "put r8 g5 r9 -9223372036854775808"},
		{api.Ins{Op: api.IPut, A: 1, B: 2, C: 3, N: 4}, "put r1 g3 r2 4"},
		{api.Ins{Op: api.ILoadK}, "loadk r0 g0 0"},
		{api.Ins{Op: api.ILoadK, A: 9, C: 5, N: 63}, "loadk r9 g5 63"},
		{api.Ins{Op: api.ILoadK, A: 1, C: 3, N: 7}, "loadk r1 g3 7"},
		{api.Ins{Op: api.IPutK}, "putk r0 g0 0"},
		{api.Ins{Op: api.IPutK, A: 9, C: 5, N: 63}, "putk r9 g5 63"},
		{api.Ins{Op: api.IPutK, A: 4, C: 2, N: 1}, "putk r4 g2 1"},
		{api.Ins{Op: api.IJump}, "jump 0"},
		{api.Ins{Op: api.IJump, N: 64}, "jump 64"},
		{api.Ins{Op: api.IIf, C: api.CondSame}, "same r0 r0 0"},
		{api.Ins{Op: api.IIf, A: 1, B: 2, C: api.CondSame, N: 3}, "same r1 r2 3"},
		{api.Ins{Op: api.IIf, A: 9, B: 8, C: api.CondOther, N: 64}, "other r9 r8 64"},
		{api.Ins{Op: api.IIf, A: 3, B: 4, C: api.CondLess, N: 5}, "less r3 r4 5"},
		{api.Ins{Op: api.IIf, A: 0, B: 9, C: api.CondMost, N: 10}, "most r0 r9 10"},
		{halt(0), "halt r0"},
		{halt(9), "halt r9"},
		{api.Ins{Op: api.IMask, N: 1}, "mask r0 1"},
		{api.Ins{Op: api.IMask, A: 9, N: 64}, "mask r9 64"},
		{stop(), "fence"},
		{api.Ins{Op: api.IOp + api.OpAdd}, "add r0 r0 r0"},
		{api.Ins{Op: api.IOp + api.OpAdd, A: 1, B: 2, C: 3}, "add r1 r2 r3"},
		{api.Ins{Op: api.IOp + api.OpSub, A: 9, B: 8, C: 7}, "sub r9 r8 r7"},
		{api.Ins{Op: api.IOp + api.OpMul, A: 2, B: 4, C: 6}, "mul r2 r4 r6"},
		{api.Ins{Op: api.IOp + api.OpAnd, A: 0, B: 1, C: 9}, "and r0 r1 r9"},
		{api.Ins{Op: api.IOp + api.OpOr, A: 3, B: 2, C: 1}, "or r3 r2 r1"},
		{api.Ins{Op: api.IOp + api.OpXor, A: 5, B: 6, C: 4}, "xor r5 r6 r4"},
		{api.Ins{Op: api.IOp + api.OpShl, A: 7, B: 0, C: 8}, "shl r7 r0 r8"},
		{api.Ins{Op: api.IOp + api.OpShr, A: 8, B: 7, C: 0}, "shr r8 r7 r0"},
		{api.Ins{Op: api.IOp + api.OpDiv, A: 4, B: 5, C: 9}, "div r4 r5 r9"},
		{api.Ins{Op: api.IOp + api.OpMod, A: 6, B: 9, C: 5}, "mod r6 r9 r5"},
		{api.Ins{Op: api.IOp + api.OpMod, A: 9, B: 9, C: 9}, "mod r9 r9 r9"},
	}
}

// all gives a program of all handmades, with fences behind them, and its text.
func all() (api.Program, string) {
	p := api.Program{Regions: sixRegions()}
	s := sixLines
	for _, h := range handmades() {
		p.Code = append(p.Code, h.i)
		s += h.line + "\n"
	}
	for len(p.Code) < 70 {
		p.Code = append(p.Code, stop())
		s += "fence\n"
	}
	return p, s
}

func TestL1L2EachLine(t *testing.T) {
	for _, h := range handmades() {
		for _, at := range []int{0, 1, 69} {
			code, lines := slices.Repeat([]api.Ins{stop()}, 70), slices.Repeat([]string{"fence"}, 70)
			code[at], lines[at] = h.i, h.line
			bothWays(t, h.line, api.Program{Regions: sixRegions(), Code: code}, sixLines+lined(lines...))
		}
	}
	p, s := all()
	bothWays(t, "all of them", p, s)
	words := map[string]bool{}
	for _, h := range handmades() {
		word, _, _ := strings.Cut(h.line, " ")
		words[word] = true
	}
	if len(words) != 25 {
		t.Errorf("%d words of instructions only", len(words))
	}
}

func TestL1L2Regions(t *testing.T) {
	for n := range api.MaxRegions + 1 {
		lines := strings.SplitAfter(sixLines, "\n")
		bothWays(t, "so many regions", api.Program{Regions: sixRegions()[:n], Code: []api.Ins{halt(1)}}, strings.Join(lines[:n], "")+"halt r1\n")
	}
	for log := range api.MaxLog + 1 {
		for _, secret := range []bool{false, true} {
			line := "region " + strconv.Itoa(log) + " public\n"
			if secret {
				line = "region " + strconv.Itoa(log) + " secret\n"
			}
			bothWays(t, line, api.Program{Regions: []api.Region{{Log: log, Secret: secret}}, Code: []api.Ins{stop()}}, line+"fence\n")
			bothWays(t, line, api.Program{Regions: []api.Region{{Log: 1}, {Log: log, Secret: secret}}, Code: []api.Ins{stop()}}, "region 1 public\n"+line+"fence\n")
		}
	}
	bothWays(t, "an empty list", api.Program{Regions: []api.Region{}, Code: []api.Ins{stop()}}, "fence\n")
}

// wideLines has a line for each kind of instruction whose N may be any, with % for it.
func wideLines() map[string]func(n int64) api.Ins {
	return map[string]func(n int64) api.Ins{
		"set r9 %":        func(n int64) api.Ins { return set(9, n) },
		"plus r1 r2 %":    func(n int64) api.Ins { return api.Ins{Op: api.IAdd, A: 1, B: 2, N: n} },
		"load r3 g1 r4 %": func(n int64) api.Ins { return api.Ins{Op: api.ILoad, A: 3, B: 4, C: 1, N: n} },
		"put r5 g0 r6 %":  func(n int64) api.Ins { return api.Ins{Op: api.IPut, A: 5, B: 6, C: 0, N: n} },
	}
}

func TestL1L2NumbersOfAnySize(t *testing.T) {
	numbers := []int64{0, greatest, greatest - 1, least, least + 1}
	for ten := int64(1); ; ten *= 10 {
		numbers = append(numbers, ten-1, ten, ten+1, 1-ten, -ten, -1-ten)
		if ten == 1000000000000000000 {
			break
		}
	}
	for bit := range 63 {
		numbers = append(numbers, 1<<bit, -1<<bit)
	}
	for form, ins := range wideLines() {
		for _, n := range numbers {
			line := strings.ReplaceAll(form, "%", fmt.Sprint(n))
			bothWays(t, line, api.Program{Regions: sixRegions(), Code: []api.Ins{ins(n)}}, sixLines+line+"\n")
		}
	}
}

// notHard has programs of which all but their size, or one field, is as it should.
func notHard() map[string]api.Program {
	out := map[string]api.Program{
		"nothing":             {},
		"regions alone":       {Regions: sixRegions()},
		"too many":            {Code: slices.Repeat([]api.Ins{stop()}, api.MaxHard+1)},
		"too many regions":    {Regions: append(sixRegions(), api.Region{}), Code: []api.Ins{stop()}},
		"far too many":        {Code: make([]api.Ins, 3*api.MaxHard)},
		"no region":           {Code: []api.Ins{{Op: api.ILoad}}},
		"a word of no region": {Code: []api.Ins{{Op: api.IPutK}}},
	}
	for _, log := range []int{least, -64, -1, api.MaxLog + 1, 63, 64, greatest} {
		out[fmt.Sprint("Log ", log)] = api.Program{Regions: []api.Region{{Log: 1}, {Log: log}}, Code: []api.Ins{stop()}}
	}
	for _, bad := range []api.Ins{
		{}, {Op: -1}, {Op: 13}, {Op: 19}, {Op: api.IOp}, {Op: api.IOp + api.OpMod + 1}, {Op: least}, {Op: greatest},
		set(10, 1), set(-1, 1), halt(10), halt(least), halt(greatest),
		{Op: api.ISet, B: 1}, {Op: api.ISet, C: 1},
		{Op: api.IMove, A: 10}, {Op: api.IMove, B: 10}, {Op: api.IMove, C: 1}, {Op: api.IMove, N: 1},
		{Op: api.IAdd, A: -1}, {Op: api.IAdd, B: -1}, {Op: api.IAdd, C: 1},
		{Op: api.ILoad, A: 10}, {Op: api.ILoad, B: 10}, {Op: api.ILoad, C: 6}, {Op: api.ILoad, C: -1},
		{Op: api.IPut, A: 10}, {Op: api.IPut, B: 10}, {Op: api.IPut, C: 6}, {Op: api.IPut, C: -1},
		{Op: api.ILoadK, A: 10}, {Op: api.ILoadK, B: 1}, {Op: api.ILoadK, C: 6}, {Op: api.ILoadK, N: 64}, {Op: api.ILoadK, N: -1},
		{Op: api.IPutK, A: 10}, {Op: api.IPutK, B: 1}, {Op: api.IPutK, C: 6}, {Op: api.IPutK, C: 1, N: 1}, {Op: api.IPutK, N: least},
		{Op: api.IJump, A: 1}, {Op: api.IJump, B: 1}, {Op: api.IJump, C: 1}, {Op: api.IJump, N: 3}, {Op: api.IJump, N: -1},
		{Op: api.IIf}, {Op: api.IIf, C: 5}, {Op: api.IIf, C: -1}, {Op: api.IIf, C: 1, A: 10}, {Op: api.IIf, C: 2, B: 10},
		{Op: api.IIf, C: 3, N: 3}, {Op: api.IIf, C: 4, N: -1},
		{Op: api.IHalt, B: 1}, {Op: api.IHalt, C: 1}, {Op: api.IHalt, N: 1},
		{Op: api.IMask}, {Op: api.IMask, N: 65}, {Op: api.IMask, N: -1}, {Op: api.IMask, A: 10, N: 1}, {Op: api.IMask, B: 1, N: 1}, {Op: api.IMask, C: 1, N: 1},
		{Op: api.IFence, A: 1}, {Op: api.IFence, B: 1}, {Op: api.IFence, C: 1}, {Op: api.IFence, N: 1},
		{Op: api.IOp + api.OpAdd, A: 10}, {Op: api.IOp + api.OpXor, B: 10}, {Op: api.IOp + api.OpMod, C: 10}, {Op: api.IOp + api.OpMod, N: 1},
	} {
		out[fmt.Sprint(bad)] = api.Program{Regions: sixRegions(), Code: []api.Ins{set(1, 1), bad, halt(1)}}
	}
	return out
}

func TestL2PrintOfWhatIsNotHard(t *testing.T) {
	for name, p := range notHard() {
		if layout.Hard(p) {
			t.Fatalf("%s: not what is to be tried", name)
		}
		printFails(t, name, p)
	}
}

// noLines has lines that are none, whatever stands ahead of them.
func noLines() []string {
	out := []string{
		"", " ", "  ", "\t", "\r", "\x00", "\xff", "\xc3\xa9", "r", "r1", "g0", "1", "-1", "?", "#", "# fence",
		// unknown words, and words that are nearly some
		"nop", "x", "fences", "fenc", "Fence", "FENCE", "regions 1 public", "Region 1 public", "reg 1 public", "SET r1 1", "sets r1 1", "se r1 1",
		"jmp 0", "if r1 r2 0", "equal r1 r2 0", "not r1 r2 r3", "rol r1 r2 r3", "loadkk r0 g0 0", "lo r0 g0 0", "secret", "public", "region",
		"op r1 r2 r3", "1 r1 r2 r3", "plus r1 r2 r3", "add r1 r2 3", "add r1 r2", "set r1 r2", "move r1 2", "more r1 r2 0",
		// r or g missing, or the wrong one of both
		"set 1 1", "set g1 1", "set R1 1", "set rr1 1", "set r 1", "set r1", "move r1 g2", "move g1 r2", "move 1 r2", "halt 1", "halt g1", "halt r", "halt",
		"load r1 r0 r2 3", "load r1 0 r2 3", "load r1 g0 g2 3", "load r1 g r2 3", "load g1 g0 r2 3", "load r1 r2 g0 3", "load r1 G0 r2 3",
		"put r1 r0 r2 3", "put r1 g0 2 3", "loadk r1 r0 3", "loadk r1 0 3", "loadk g1 g0 3", "loadk r1 g0 r3", "putk r1 r0 3", "putk r1 g0 g3",
		"jump r1", "jump g1", "jump", "same r1 g2 0", "same r1 2 0", "less g1 r2 0", "most r1 r2 r0", "other r1 r2", "mask 1 4", "mask g1 4", "mask r1 r4",
		"add g1 r2 r3", "sub r1 g2 r3", "mod r1 r2 g3", "xor 1 2 3", "div r1 r2 3", "region r2 secret", "region g2 secret",
		// a blank too many
		"fence ", " fence", "fence  ", " set r1 1", "set  r1 1", "set r1  1", "set r1 1 ", "set r 1 1", "set r1 - 1", "jump  0", "jump 0 ", "halt r1 ",
		"region  2 secret", "region 2  secret", "region 2 secret ", " region 2 secret", "load r1 g0  r2 3", "load r1 g 0 r2 3", "add r1 r2  r3",
		// other bytes for a blank, or ahead of the end
		"set\tr1 1", "set r1\t1", "set r1,1", "set r1 1\r", "fence\r", "fence\x00", "fence\xff", "halt r1\x00", "region 2 secret\r", "set\u00a0r1 1", "halt r1;",
		"\xef\xbb\xbffence", "fence\v", "halt r1\xc3",
		// words of a region
		"region 2", "region secret", "region 2 private", "region 2 Secret", "region 2 PUBLIC", "region 2 publi", "region 2 secrets", "region 2 1",
		"region 2 true", "region secret 2", "region 2 secret public", "region 2 public 1", "region 2publicx", "region 2public", "region 2 ", "region ",
		"region public public", "region 2 secret\x00", "region x public", "region 2 L", "region L public",
		// capitals are no numbers
		"set rA N", "set rA 1", "set r1 N", "move rA rB", "jump N", "load rA gC rB N",
		// numbers that are written as no number is
		"halt rx", "halt r1x", "halt rx1", "halt r0x1", "halt r1_0", "halt r1.0", "halt r1e1", "halt r\u0661", "halt r--1", "halt r1-", "halt r1-1",
		"jump 0x10", "jump 1_000", "jump 1.", "jump 1e3", "jump --1", "jump 1-", "jump \u0661", "jump 0b1", "jump 0o7", "jump \xb2", "jump '1'",
	}
	for _, h := range handmades() {
		words := strings.Split(h.line, " ")
		out = append(out, h.line+" ", " "+h.line, h.line+" 0", h.line+" r0", h.line+" g0", h.line+"x", h.line+"\r", h.line+" "+h.line, "z"+h.line, strings.ToUpper(h.line))
		for n := range words {
			out = append(out, strings.Join(slices.Delete(slices.Clone(words), n, n+1), " "))
			out = append(out, strings.Join(slices.Insert(slices.Clone(words), n, ""), " "))
			out = append(out, strings.Join(slices.Insert(slices.Clone(words), n, "r1"), " "))
			out = append(out, strings.Join(slices.Insert(slices.Clone(words), n, "1"), " "))
		}
	}
	return out
}

// A line that is none is told wherever it is, behind regions or instructions, and whatever is behind it.
func TestL2LinesThatAreNone(t *testing.T) {
	plain := newPlainReader()
	for _, line := range noLines() {
		if found := plain.line(line); found.kind != 0 {
			t.Fatalf("not what is to be tried: %q", line)
		}
		parseFails(t, "alone", line+"\n", 0)
		parseFails(t, "behind an instruction", "fence\n"+line+"\n", 1)
		parseFails(t, "behind regions", sixLines+line+"\n", 6)
		parseFails(t, "amid others", sixLines+"fence\nhalt r1\n"+line+"\nset r1 1\nhalt r1\n", 8)
		parseFails(t, "ahead of others", line+"\n"+sixLines+"fence\n", 0)
		parseFails(t, "amid regions", "region 1 public\n"+line+"\nregion 2 secret\nfence\n", 1)
		parseFails(t, "twice", "fence\n"+line+"\n"+line+"\n", 1)
		if line != "" {
			parseFails(t, "without its end", "fence\n"+line, 1)
		}
	}
}

// numberWords has for each field that is no N what may stand for it, and what may not.
func numberWords() (some, none []string) {
	nines, tens := strings.Repeat("9", 18), "1"+strings.Repeat("0", 17)
	some = []string{
		"0", "1", "5", "9", "10", "63", "64", "99", "-1", "-9", "-10", "2147483647", "2147483648", "-2147483649", "4294967296", "4294967297",
		nines, tens, "-" + nines, "-" + tens, "123456789012345678", "-876543210987654321",
	}
	none = []string{
		"", "-", "+", "+0", "+1", "-0", "--1", "+-1", "00", "01", "-01", "-00", "007", "0" + nines[1:], "1 ", "1x", "x1", "1,0", "1-", "0x1", "1e0", "1.0", "1_0",
		nines + "9", tens + "0", "-" + nines + "9", "-" + tens + "0", "0" + nines, "-0" + nines, "1000000000000000001",
		"9223372036854775807", "-9223372036854775808", "9223372036854775808", "18446744073709551615", "18446744073709551617", strings.Repeat("1", 1000),
		"\u0661", "\xff", "\x00", "1\x00", "A", "r1", "g1",
	}
	return some, none
}

// wideWords is as numberWords, for an N.
func wideWords() (some, none []string) {
	some, _ = numberWords()
	some = append(some, "9223372036854775807", "-9223372036854775808", "9223372036854775806", "-9223372036854775807",
		"1000000000000000000", "-1000000000000000000", "9000000000000000000")
	none = []string{
		"", "-", "+", "+0", "+1", "-0", "--1", "00", "01", "-01", "-00", "09223372036854775807", "-09223372036854775808", "+9223372036854775807",
		"9223372036854775808", "-9223372036854775809", "9223372036854775810", "9300000000000000000", "9999999999999999999", "-9999999999999999999",
		"10000000000000000000", "-10000000000000000000", "18446744073709551615", "18446744073709551616", "18446744073709551617", "-18446744073709551615",
		"92233720368547758070", strings.Repeat("1", 1000), "-" + strings.Repeat("9", 1000), strings.Repeat("0", 1000),
		"\u0661", "\xff", "\x00", "1\x00", "N", "r1", "1x", "0x1", "1e0", "1.0", "1_0",
	}
	return some, none
}

// spots has a line for each field of each kind of line, with # for its number, and % if it is an N.
func spots() []string {
	out := []string{
		"region # public", "region # secret", "set r# 1", "set r1 %", "move r# r1", "move r1 r#", "plus r# r1 1", "plus r1 r# 1", "plus r1 r1 %",
		"load r# g0 r1 1", "load r1 g# r1 1", "load r1 g0 r# 1", "load r1 g0 r1 %", "put r# g0 r1 1", "put r1 g# r1 1", "put r1 g0 r# 1", "put r1 g0 r1 %",
		"loadk r# g0 1", "loadk r1 g# 1", "loadk r1 g0 %", "putk r# g0 1", "putk r1 g# 1", "putk r1 g0 %", "jump %", "halt r#", "mask r# 1", "mask r1 %",
	}
	for _, word := range whenWords[1:] {
		out = append(out, word+" r# r1 0", word+" r1 r# 0", word+" r1 r1 %")
	}
	for _, word := range opWords[1:] {
		out = append(out, word+" r# r1 r1", word+" r1 r# r1", word+" r1 r1 r#")
	}
	return out
}

// A number that may be written leaves a line that is some, so that what is told is a program, or how many lines there are.
func TestL2NumbersOfEachField(t *testing.T) {
	plain := newPlainReader()
	programs := 0
	for _, spot := range spots() {
		some, none := numberWords()
		if strings.Contains(spot, "%") {
			some, none = wideWords()
		}
		fill := func(number string) string { return strings.NewReplacer("#", number, "%", number).Replace(spot) }
		for _, number := range some {
			s := lined("region 1 public", fill(number), "fence")
			if became := plain.as(t, s); became == hasNoLine {
				t.Fatalf("not what is to be tried: %q", s)
			} else if became == isProgram {
				programs++
			} else {
				parseFails(t, "so many lines", s, 3)
			}
		}
		for _, number := range none {
			parseFails(t, "no number", lined("region 1 public", fill(number), "fence"), 1)
			parseFails(t, "no number, alone", lined(fill(number)), 0)
		}
	}
	if programs < 300 {
		t.Errorf("only %d programs", programs)
	}
}

func TestL2ARegionBehindAnInstruction(t *testing.T) {
	for _, region := range []string{"region 1 public", "region 0 secret", "region 7 public", "region -1 secret", "region 999999999999999999 public"} {
		for _, h := range handmades() {
			parseFails(t, "right behind", lined(h.line, region), 1)
			parseFails(t, "behind", lined("region 6 secret", h.line, "fence", region, "fence"), 3)
		}
		parseFails(t, "behind one that may not be", lined("halt r10", region), 1)
		parseFails(t, "behind too many", strings.Repeat("fence\n", api.MaxHard+5)+region+"\n", api.MaxHard+5)
	}
	parseFails(t, "ahead of a line that is none", lined("fence", "region 1 public", "x"), 1)
	parseFails(t, "behind a line that is none", lined("fence", "x", "region 1 public"), 1)
	// A line that is none is not one of an instruction, but it is the first one to be told.
	parseFails(t, "behind a line that is none, and nothing else", lined("x", "region 1 public"), 0)
}

func TestL2TheEnd(t *testing.T) {
	parseFails(t, "the empty text", "", 0)
	parseFails(t, "a byte 10 alone", "\n", 0)
	parseFails(t, "two of them", "\n\n", 0)
	parseFails(t, "no byte 10", "fence", 0)
	parseFails(t, "no byte 10 at the end", "fence\nfence", 1)
	parseFails(t, "no byte 10 at the end of a region", "region 1 public", 0)
	parseFails(t, "a byte 10 too many", "fence\n\n", 1)
	parseFails(t, "a byte 10 too many ahead", "\nfence\n", 0)
	parseFails(t, "a blank behind", "fence\n ", 1)
	parseFails(t, "a byte 0 behind", "fence\n\x00", 1)
	parseFails(t, "a byte 13 behind", "fence\n\r", 1)
	parseFails(t, "byte 13 and 10", "fence\r\n", 0)
	parseFails(t, "byte 13 for 10", "fence\rfence\r", 0)
	parseFails(t, "byte 11 for 10", "fence\vfence\n", 0)
	parseFails(t, "another end of a line", "fence\u2028fence\n", 0)
	parseFails(t, "nothing but a region", "region 1 public\n", 1)
	parseFails(t, "a line that is some, without its end, behind a program that is not hard", "halt r10\nfence", 1)
	for _, h := range handmades() {
		parseFails(t, "no byte 10", h.line, 0)
		parseFails(t, "no byte 10", sixLines+h.line, 6)
	}
	_, s := all()
	lines := 0
	for n := range s {
		if n > 0 && s[n-1] == '\n' {
			lines++
			continue
		}
		if n > 0 {
			parseFails(t, "a beginning", s[:n], lines)
		}
	}
}

// All lines are some, but no program that is hard has them.
func TestL2LinesOfNoProgram(t *testing.T) {
	for _, line := range []string{
		"set r10 1", "set r-1 1", "set r999999999999999999 1", "set r-999999999999999999 1", "set r4294967297 1",
		"move r10 r0", "move r0 r10", "plus r10 r0 1", "plus r0 r10 1",
		"load r10 g0 r0 1", "load r0 g6 r0 1", "load r0 g-1 r0 1", "load r0 g0 r10 1", "load r0 g4294967296 r0 1", "load r0 g999999999999999999 r0 1",
		"put r10 g0 r0 1", "put r0 g6 r0 1", "put r0 g0 r-1 1", "loadk r10 g0 1", "loadk r0 g6 0", "loadk r0 g0 64", "loadk r0 g1 1", "loadk r0 g0 -1",
		"loadk r0 g0 18014398509481984", "putk r10 g0 1", "putk r0 g6 0", "putk r0 g0 64", "putk r0 g2 2", "putk r0 g0 -9223372036854775808",
		"jump 3", "jump -1", "jump 9223372036854775807", "jump 4294967296", "same r10 r0 0", "same r0 r10 0", "same r0 r0 3", "other r0 r0 -1",
		"less r-5 r0 0", "most r0 r0 9223372036854775807", "halt r10", "halt r-1", "mask r0 0", "mask r0 65", "mask r0 -1", "mask r10 1",
		"mask r0 -9223372036854775808", "add r10 r0 r0", "sub r0 r10 r0", "mul r0 r0 r10", "and r-1 r0 r0", "or r0 r-1 r0", "xor r0 r0 r-1",
		"shl r10 r10 r10", "shr r0 r0 r999999999999999999", "div r0 r99 r0", "mod r0 r0 r11",
	} {
		parseFails(t, line, sixLines+lined("fence", line, "fence"), 9)
		parseFails(t, line, sixLines+lined(line, "fence", "fence"), 9)
		parseFails(t, line, sixLines+lined("fence", "fence", line), 9)
		parseFails(t, line+", and a line that is none", sixLines+lined("fence", line, "x"), 8)
		parseFails(t, line+", and a blank at the end", sixLines+lined("fence", line, "fence "), 8)
		parseFails(t, line+", and no end", sixLines+lined("fence", line)+"fence", 8)
	}
	for _, line := range []string{"region 7 public", "region 7 secret", "region -1 public", "region 64 secret", "region 999999999999999999 public", "region -999999999999999999 secret"} {
		parseFails(t, line, lined(line, "fence"), 2)
		parseFails(t, line, lined("region 1 public", line, "fence"), 3)
		parseFails(t, line+" alone", lined(line), 1)
		parseFails(t, line+", and a load of it", lined(line, "loadk r0 g0 0"), 2)
		parseFails(t, line+", and a line that is none", lined(line, "fence", ""), 2)
	}
	parseFails(t, "no region for a load", lined("load r0 g0 r0 0"), 1)
	parseFails(t, "no region for a put", lined("region 1 public", "putk r0 g1 0"), 2)
}

// Of programs that are not hard, those that can be written are told so.
func TestL2NotHardWritten(t *testing.T) {
	plain := newPlainReader()
	tried := 0
	for name, p := range notHard() {
		writable := true
		for _, i := range p.Code {
			operation := i.Op > api.IOp && i.Op <= api.IOp+api.OpMod
			writable = writable && (i.Op >= api.ISet && i.Op <= api.IFence || operation) && (i.Op != api.IIf || i.C >= api.CondSame && i.C <= api.CondMost)
		}
		if !writable {
			continue
		}
		s := plainText(p)
		q, _ := plain.parse(s)
		// Fields that must be 0 are not written, and numbers of more than 18 digits leave no line: these are tried elsewhere.
		if len(q.Code) == 0 {
			tried++
			if plain.as(t, s) == isProgram {
				t.Fatalf("%s: a program", name)
			}
		}
	}
	if tried < 40 {
		t.Errorf("only %d tried", tried)
	}
}

func TestL2HowMany(t *testing.T) {
	for _, n := range []int{1, 2, api.MaxCode, api.MaxCode + 1, api.MaxHard - 1, api.MaxHard} {
		p := api.Program{Regions: sixRegions(), Code: slices.Repeat([]api.Ins{stop()}, n)}
		s := sixLines + strings.Repeat("fence\n", n)
		bothWays(t, "so many", p, s)
		p.Code[n-1] = api.Ins{Op: api.IJump, N: int64(n - 1)}
		s = sixLines + strings.Repeat("fence\n", n-1) + fmt.Sprintf("jump %d\n", n-1)
		bothWays(t, "so many, and a jump to the last one", p, s)
		parseFails(t, "a jump behind the last one", sixLines+strings.Repeat("fence\n", n-1)+fmt.Sprintf("jump %d\n", n), n+6)
	}
	for _, n := range []int{api.MaxHard + 1, api.MaxHard + 2, 3 * api.MaxHard, 200000} {
		s := strings.Repeat("set r1 5\n", n)
		parseFails(t, "too many", s, n)
		parseFails(t, "too many, and regions", sixLines+s, n+6)
		parseFails(t, "too many, and a line that is none", s+"set r1 05\n", n)
		parseFails(t, "too many, and a line that is none amid them", s+"\n"+s, n)
		parseFails(t, "too many, and no end", s+"set r1 5", n)
	}
	for _, n := range []int{api.MaxRegions + 1, api.MaxRegions + 2, 100, 100000} {
		s := strings.Repeat("region 1 secret\n", n)
		parseFails(t, "too many regions", s+"fence\n", n+1)
		parseFails(t, "too many regions, and a load of the last one", s+fmt.Sprintf("loadk r0 g%d 0\n", n-1), n+1)
		parseFails(t, "too many regions, and no instruction", s, n)
		parseFails(t, "too many regions, and a line that is none", s+"regio 1 secret\nfence\n", n)
		parseFails(t, "too many of all", s+strings.Repeat("fence\n", api.MaxHard+1), n+api.MaxHard+1)
	}
	parseFails(t, "no instruction", sixLines, 6)
}

// A word or a line may be as long as it likes; it is none.
func TestL2LongLines(t *testing.T) {
	const many = 1 << 20
	for _, line := range []string{
		strings.Repeat("x", many), strings.Repeat(" ", many), strings.Repeat("fence ", many), "fence" + strings.Repeat(" ", many),
		"set r1 " + strings.Repeat("1", many), "set r1 -" + strings.Repeat("1", many), "set r1 " + strings.Repeat("0", many), "set r" + strings.Repeat("0", many) + " 1",
		"set r1" + strings.Repeat(" 1", many), "region " + strings.Repeat("2", many) + " public", "region 2 " + strings.Repeat("public", many), strings.Repeat("\r", many),
	} {
		parseFails(t, "a long line", "fence\n"+line+"\nfence\n", 1)
		parseFails(t, "a long line without its end", line, 0)
	}
	parseFails(t, "many ends", strings.Repeat("\n", many), 0)
}

func TestL2TheFirstIsTold(t *testing.T) {
	wrong := []string{"", "x", "fence ", "set r01 1", "region 1 publi", "halt r", "jump 9223372036854775808", "halt r1000000000000000000"}
	for _, one := range wrong {
		for _, two := range wrong {
			for at := range 6 {
				for other := at + 1; other < 6; other++ {
					lines := []string{"region 1 public", "fence", "halt r10", "jump 50", "mask r0 0", "fence"}
					lines[at], lines[other] = one, two
					parseFails(t, "two of them", lined(lines...), at)
					lines[other] = "region 2 secret"
					if other > 1 && at > 0 {
						parseFails(t, "a region behind", lined(lines...), at)
					}
				}
			}
		}
	}
	parseFails(t, "a region at a wrong place ahead", lined("halt r10", "region 9 public", "x"), 1)
	parseFails(t, "fields beyond ahead", lined("region 9 public", "halt r10", "x"), 2)
}

func TestL2HardenedAndFenced(t *testing.T) {
	p := api.Program{
		Regions: []api.Region{{Log: 2}, {Log: 2, Secret: true}},
		Code: []api.Ins{
			{Op: api.ILoadK, A: 1},
			{Op: api.ISet, A: 2, N: 3},
			{Op: api.IIf, A: 2, B: 1, C: api.CondLess, N: 5},
			{Op: api.ILoad, A: 3, B: 1},
			{Op: api.IOp + api.OpDiv, A: 4, B: 3, C: 2},
			{Op: api.IHalt, A: 1},
		},
	}
	const regions = "region 2 public\nregion 2 secret\n"
	bothWays(t, "as it is", p, regions+"loadk r1 g0 0\nset r2 3\nless r2 r1 5\nload r3 g0 r1 0\ndiv r4 r3 r2\nhalt r1\n")
	h, fault := harden.Make(p)
	if fault != (api.Fault{}) {
		t.Fatal(fault)
	}
	bothWays(t, "hardened", h, regions+"loadk r1 g0 0\nset r2 3\nless r2 r1 7\nplus r8 r1 0\nmask r8 4\nload r3 g0 r8 0\ndiv r4 r3 r2\nhalt r1\n")
	f, fault := fence.Make(p)
	if fault != (api.Fault{}) {
		t.Fatal(fault)
	}
	bothWays(t, "fenced", f, regions+"loadk r1 g0 0\nset r2 3\nless r2 r1 6\nfence\nload r3 g0 r1 0\ndiv r4 r3 r2\nfence\nhalt r1\n")
}

func TestNewMemory(t *testing.T) {
	want, s := all()
	p, _ := Parse(s)
	again, _ := Parse(s)
	clear(p.Regions[:cap(p.Regions)])
	clear(p.Code[:cap(p.Code)])
	if !equal(again, want) {
		t.Error("what Parse answers is shared with what it answers again")
	}
	parsesAs(t, "once more", s, want)
}

func TestWhatLiesBehindALength(t *testing.T) {
	regions := append(sixRegions(), api.Region{Log: -1}, api.Region{Log: 99})
	code := []api.Ins{stop(), halt(0), set(99, greatest), {Op: api.IJump, N: 2}}
	p := api.Program{Regions: regions[:2], Code: code[:2]}
	printsAs(t, "a part", p, "region 6 public\nregion 0 secret\nfence\nhalt r0\n")
	if !slices.Equal(regions, append(sixRegions(), api.Region{Log: -1}, api.Region{Log: 99})) ||
		!slices.Equal(code, []api.Ins{stop(), halt(0), set(99, greatest), {Op: api.IJump, N: 2}}) {
		t.Error("Print has written behind a length")
	}
	printFails(t, "a jump behind the length", api.Program{Code: []api.Ins{{Op: api.IJump, N: 1}, stop()}[:1]})
	printFails(t, "a region behind the length", api.Program{Regions: sixRegions()[:1], Code: []api.Ins{{Op: api.ILoad, C: 1}}})
	parseFails(t, "a part of a text", "fence\nhalt r0\n"[:12], 1)
}
