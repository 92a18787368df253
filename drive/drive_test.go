package drive

import (
	"fmt"
	"slices"
	"strings"
	"testing"

	"evenkeel/api"
)

func TestM1Lines(t *testing.T) {
	for script, want := range map[string]string{
		"":                    "",
		"\n":                  "?\n",
		"\n\n":                "?\n?\n",
		"\n\n\n":              "?\n?\n?\n",
		"check":               "bad 2 0\n",
		"check\n":             "bad 2 0\n",
		"check\n\n":           "bad 2 0\n?\n",
		"\ncheck":             "?\nbad 2 0\n",
		"\ncheck\n":           "?\nbad 2 0\n",
		"check\ncheck":        "bad 2 0\nbad 2 0\n",
		"check\n\ncheck\n":    "bad 2 0\n?\nbad 2 0\n",
		"check\r\ncheck":      "?\nbad 2 0\n",
		"check\rcheck":        "?\n",
		" ":                   "?\n",
		" \n ":                "?\n?\n",
		"region 0 0\nlook 0":  "ok 1\nis 0\n",
		"region 0 0\nlook 0 ": "ok 1\n?\n",
		"region 0\n0\nlook 0": "?\n?\n?\n",
	} {
		playsAs(t, script, want)
	}
}

func TestM1FortyLines(t *testing.T) {
	for _, count := range []int{1, 38, 39, 40, 41, 42, 79, 80, 81, 1000} {
		var script, want string
		for n := range count {
			script += fmt.Sprintln("ins 9 0 0 0 0")
			if n < 40 {
				want += fmt.Sprintln("ok", n+1)
			}
		}
		playsAs(t, script, want)
		playsAs(t, strings.TrimSuffix(script, "\n"), want)
	}
	// Lines that are empty, or no lines of words, count as well.
	for _, line := range []string{"", "x", "look 0", " "} {
		begin := strings.Repeat(line+"\n", 39)
		answers := strings.Repeat("?\n", 39)
		playsAs(t, begin+"check", answers+"bad 2 0\n")
		playsAs(t, begin+"check\n", answers+"bad 2 0\n")
		playsAs(t, begin+"check\ncheck", answers+"bad 2 0\n")
		playsAs(t, begin+"check\n\n", answers+"bad 2 0\n")
		playsAs(t, begin+line+"\ncheck\n", answers+"?\n")
	}
}

// goodNumbers are written as NUMBERs are.
func goodNumbers() []string {
	out := []string{"-1", "-9", "-10", "-99999", "-100000", "-999998", "-999999", "99999", "100000", "999998", "999999", "123456", "-987650", "1000"}
	for digit := range 10 {
		out = append(out, fmt.Sprint(digit), fmt.Sprint(10+digit), fmt.Sprint(100000*(digit+1)-1))
	}
	return out
}

// noNumbers are not.
func noNumbers() []string {
	return []string{
		"", "-", "+", "--", "-0", "+0", "00", "000000", "01", "-01", "-00", "0000001", "+1", "--1", "-+1", "+-1", "1-", "1+", "1-1", "- 1",
		"1000000", "-1000000", "9999999", "-9999999", "1234567", "01000000", "0999999", "-0999999", "+999999", "9999990",
		"18446744073709551616", "18446744073709551617", "-18446744073709551615", "9223372036854775808", "99999999999999999999999999",
		"4294967296", "4294967297", "1.0", "1.", ".1", "1e3", "1E0", "0x1", "0b1", "0o7", "1_0", "1_000", "1,0", "'1'", "\"1\"", "x", "a", "r1", "g1", "1x", "x1",
		"1\r", "\t1", "1\t", "1\x00", "\x001", "\xff", "\xb1", "1\xff", "1\v", "\u00a01", "\u0661", "\uff11", "\u22121", "\u00b2", "\u00bd", "0 ", " 0", "ok", "?", "/", ":",
		strings.Repeat("0", 5000), strings.Repeat("9", 5000), "-" + strings.Repeat("0", 5000) + "1",
	}
}

func TestM1Numbers(t *testing.T) {
	for _, n := range goodNumbers() {
		talks(t, n,
			said{"region 1 0", "ok 1"}, said{"fill 0 " + n, "ok"}, said{"look 0", "is " + n + " 0"}, said{"fill 0 5 " + n, "ok"}, said{"look 0", "is 5 " + n},
			said{"ins 1 3 0 0 " + n, "ok 1"}, said{"ins 9 3 0 0 0", "ok 2"}, said{"run 2", "done " + n + " 2 2"}, said{"ahead 2", "done " + n + " 2 2"})
	}
}

// A line with one number that is none is no line, whichever one it is.
func TestM1NoNumbers(t *testing.T) {
	begin := []string{"region 1 0", "region 2 1", "fill 1 3", "ins 5 1 0 1 0"}
	for _, n := range noNumbers() {
		for _, form := range []string{
			"region # 0", "region 1 #", "fill # 1", "fill #", "fill 0 #", "fill 1 1 #", "fill 1 # 1", "fill 0 1 2 3 #", "ins # 1 0 0 5", "ins 1 # 0 0 5", "ins 1 1 # 0 5",
			"ins 1 1 0 # 5", "ins 1 1 0 0 #", "run #", "ahead #", "ahead # 1", "ahead 9 #", "ahead 9 # 1", "ahead 9 1 #", "look #",
		} {
			refused(t, begin, strings.ReplaceAll(form, "#", n))
		}
	}
}

// Numbers of answers may be greater than those of lines.
func TestM1NumbersOfAnswers(t *testing.T) {
	talks(t, "products",
		said{"ins 1 1 0 0 999999", "ok 1"}, said{"ins 23 2 1 1 0", "ok 2"}, said{"ins 9 2 0 0 0", "ok 3"}, said{"run 9", "done 999998000001 3 3"})
	talks(t, "products below 0",
		said{"ins 1 1 0 0 999999", "ok 1"}, said{"ins 1 2 0 0 -999999", "ok 2"}, said{"ins 23 2 1 2 0", "ok 3"}, said{"ins 9 2 0 0 0", "ok 4"}, said{"run 9", "done -999998000001 4 4"})
	talks(t, "the greatest",
		said{"ins 1 1 0 0 -1", "ok 1"}, said{"ins 1 2 0 0 2", "ok 2"}, said{"ins 29 3 1 2 0", "ok 3"}, said{"ins 9 3 0 0 0", "ok 4"}, said{"run 9", "done 9223372036854775807 4 5"})
	talks(t, "the least",
		said{"ins 1 1 0 0 1", "ok 1"}, said{"ins 1 2 0 0 63", "ok 2"}, said{"ins 27 3 1 2 0", "ok 3"}, said{"ins 9 3 0 0 0", "ok 4"}, said{"run 9", "done -9223372036854775808 4 4"})
}

// All that there is, and again behind hard.
func TestM2Whole(t *testing.T) {
	talks(t, "whole",
		said{"check", "bad 2 0"},
		said{"region 2 0", "ok 1"},
		said{"region 1 1", "ok 2"},
		said{"fill 0 3 -4 5 6", "ok"},
		said{"fill 1 7", "ok"},
		said{"look 0", "is 3 -4 5 6"},
		said{"look 1", "is 7 0"},
		said{"ins 5 1 0 0 0", "ok 1"},  // loadk r1 g0 0
		said{"ins 11 1 0 0 4", "ok 2"}, // mask r1 4
		said{"ins 3 2 1 0 0", "ok 3"},  // load r2 g0 r1 0
		said{"ins 6 2 0 1 1", "ok 4"},  // putk r2 g1 1
		said{"check", "bad 4 3"},
		said{"run 99", "fault 0 4 7"},
		said{"ins 9 2 0 0 0", "ok 5"}, // halt r2
		said{"check", "ok"},
		said{"run 99", "done 6 5 8"},
		said{"run 4", "fuel 0 4 7"},
		said{"ahead 99", "done 6 5 8"},
		said{"ahead 99 1 1", "done 6 5 8"},
		said{"load", "ok 7"},
		said{"text", "ok 93"},
		said{"look 1", "is 7 0"},
		said{"hard", "ok 7"},
		said{"check", "bad 2 0"}, // the register 8 is none of a program that may be
		said{"hard", "bad 2 0"},
		said{"load", "bad 2 0"},
		said{"run 99", "done 6 7 10"},
		said{"run 5", "fuel 0 5 7"},
		said{"ahead 99 0", "done 6 7 10"},
		said{"text", "ok 116"},
		said{"look 0", "is 3 -4 5 6"},
		said{"look 1", "is 7 0"},
		said{"fill 0 2", "ok"},
		said{"run 99", "done 5 7 10"},
		said{"region 0 1", "ok 3"},
		said{"look 2", "is 0"},
		said{"run 99", "done 5 7 10"},
		said{"ins 12 0 0 0 0", "ok 8"},
		said{"text", "ok 138"},
		said{"what", "?"},
	)
}

// A program that is hard as it is stays so: what may be asked ahead of hard may be asked behind it.
func TestM2HardTwice(t *testing.T) {
	talks(t, "twice",
		said{"ins 1 1 0 0 99999", "ok 1"}, said{"ins 9 1 0 0 0", "ok 2"}, said{"check", "ok"}, said{"hard", "ok 2"}, said{"check", "ok"}, said{"hard", "ok 2"},
		said{"load", "ok 5"}, said{"text", "ok 21"}, said{"run 2", "done 99999 2 2"}, said{"ahead 2 1", "done 99999 2 2"})
}

func TestM2Region(t *testing.T) {
	for log := range 7 {
		for secret, name := range []string{"public", "secret"} {
			words := "is" + strings.Repeat(" 0", 1<<log)
			line := fmt.Sprintf("region %d %d", log, secret)
			bytes := len("region 1 public\n") + len("fence\n")
			talks(t, name, said{line, "ok 1"}, said{"look 0", words}, said{"look 1", "?"}, said{line, "ok 2"}, said{"look 1", words}, said{"look 2", "?"},
				said{"ins 12 0 0 0 0", "ok 1"}, said{"text", fmt.Sprint("ok ", bytes+16)})
		}
	}
	for _, line := range []string{
		"region -1 0", "region 7 0", "region 8 1", "region 63 0", "region 64 0", "region 999999 0", "region -999999 1", "region -1 1", "region 7 1",
		"region 1 2", "region 1 -1", "region 1 999999", "region 1 -999999", "region 7 2", "region 0 10", "region 0 3",
	} {
		refused(t, nil, line)
		refused(t, []string{"region 1 1"}, line)
	}
}

// Secret is what hangs on the second number.
func TestM2RegionSecret(t *testing.T) {
	ask := func(secret string) []said {
		return []said{{"region 0 " + secret, "ok 1"}, {"fill 0 5", "ok"}, {"ins 5 1 0 0 0", "ok 1"}, {"ins 9 1 0 0 0", "ok 2"}, {"run 9", "done 5 2 3"}}
	}
	talks(t, "public", append(ask("0"), said{"check", "ok"}, said{"hard", "ok 2"}, said{"load", "ok 2"}, said{"run 9", "done 5 2 3"})...)
	talks(t, "secret", append(ask("1"), said{"check", "bad 5 1"}, said{"hard", "bad 5 1"}, said{"load", "bad 5 1"}, said{"text", "ok 38"}, said{"run 9", "done 5 2 3"})...)
}

func TestM2MaxRegions(t *testing.T) {
	var begin []string
	var lines []said
	for n := range 6 {
		begin = append(begin, fmt.Sprintf("region %d %d", n, n%2))
		lines = append(lines, said{begin[n], fmt.Sprint("ok ", n+1)})
	}
	lines = append(lines, said{"region 0 0", "?"}, said{"look 5", "is" + strings.Repeat(" 0", 32)}, said{"look 6", "?"}, said{"fill 6", "?"}, said{"fill 5 1", "ok"}, said{"look 4", "is" + strings.Repeat(" 0", 16)})
	talks(t, "six", lines...)
	for _, line := range []string{"region 0 0", "region 1 1", "region 6 1", "region 7 0"} {
		refused(t, begin, line)
	}
	// Behind hard there are as many regions as ahead of it.
	talks(t, "hard", append(lines[:6:6], said{"ins 9 0 0 0 0", "ok 1"}, said{"hard", "ok 1"}, said{"region 0 0", "?"}, said{"look 0", "is 0"}, said{"look 6", "?"})...)
	talks(t, "five and hard", append(lines[:5:5], said{"ins 9 0 0 0 0", "ok 1"}, said{"hard", "ok 1"}, said{"region 1 0", "ok 6"}, said{"look 5", "is 0 0"}, said{"region 0 0", "?"}, said{"run 9", "done 0 1 1"})...)
}

func TestM2Fill(t *testing.T) {
	talks(t, "fill",
		said{"fill 0", "?"}, said{"fill 0 1", "?"}, said{"region 2 0", "ok 1"}, said{"region 0 1", "ok 2"},
		said{"fill 0", "ok"}, said{"look 0", "is 0 0 0 0"},
		said{"fill 0 1 2 3 4", "ok"}, said{"look 0", "is 1 2 3 4"},
		said{"fill 0 1 2 3 4 5", "?"}, said{"look 0", "is 1 2 3 4"},
		said{"fill 0 9 8 7 6 5", "?"}, said{"look 0", "is 1 2 3 4"},
		said{"fill 0", "ok"}, said{"look 0", "is 1 2 3 4"},
		said{"fill 0 -7", "ok"}, said{"look 0", "is -7 2 3 4"},
		said{"fill 0 0 999999 -999999", "ok"}, said{"look 0", "is 0 999999 -999999 4"},
		said{"look 1", "is 0"}, said{"fill 1 6", "ok"}, said{"look 1", "is 6"}, said{"fill 1 6 6", "?"},
		said{"fill 2", "?"}, said{"fill 2 1", "?"}, said{"fill -1", "?"}, said{"fill -1 5", "?"}, said{"fill 999999", "?"}, said{"fill -999999 1", "?"},
		said{"fill", "?"}, said{"fill ", "?"}, said{"look 0", "is 0 999999 -999999 4"}, said{"look 1", "is 6"}, said{"look 2", "?"},
	)
	for log := range 7 {
		full := strings.Repeat(" 8", 1<<log)
		region := fmt.Sprintf("region %d 0", log)
		talks(t, region, said{"region 6 0", "ok 1"}, said{region, "ok 2"}, said{"region 6 0", "ok 3"}, said{"fill 1" + full + " 8", "?"}, said{"fill 1" + full, "ok"}, said{"look 1", "is" + full},
			said{"look 0", "is" + strings.Repeat(" 0", 64)}, said{"look 2", "is" + strings.Repeat(" 0", 64)}, said{"fill 1" + full + full, "?"})
	}
	// Far too many.
	playsAs(t, "region 6 0\nfill 0"+strings.Repeat(" 1", 100000)+"\nlook 0", "ok 1\n?\nis"+strings.Repeat(" 0", 64)+"\n")
}

func TestM2Look(t *testing.T) {
	for _, line := range []string{"look 0", "look 1", "look -1", "look 6", "look 999999", "look -999999"} {
		talks(t, line, said{line, "?"})
	}
	for _, line := range []string{"look 1", "look 2", "look -1", "look 6", "look 999999", "look -999999"} {
		refused(t, []string{"region 2 1", "fill 0 1 2"}, line)
	}
}

// Each field of an instruction is the number that stands for it.
func TestM2InsFields(t *testing.T) {
	var p player
	if answer := p.answer("ins 3 4 2 1 -5"); answer != "ok 1" || len(p.Code) != 1 || p.Code[0] != (api.Ins{Op: 3, A: 4, B: 2, C: 1, N: -5}) {
		t.Errorf("answers %q, and there is %v", answer, p.Code)
	}
	talks(t, "a load", said{"region 1 0", "ok 1"}, said{"region 2 0", "ok 2"}, said{"fill 1 10 20 30 40", "ok"},
		said{"ins 1 2 0 0 1", "ok 1"}, said{"ins 3 4 2 1 2", "ok 2"}, said{"ins 9 4 0 0 0", "ok 3"}, said{"run 9", "done 40 3 4"}, said{"check", "bad 4 1"})
	// The instruction is the last one, whatever numbers it has.
	talks(t, "any numbers", said{"ins 9 0 0 0 0", "ok 1"}, said{"text", "ok 8"}, said{"ins 999999 -999999 0 -1 7", "ok 2"}, said{"text", "bad 2"}, said{"run 9", "bad 2"}, said{"ins 0 0 0 0 0", "ok 3"})
	talks(t, "the last one", said{"ins 1 1 0 0 5", "ok 1"}, said{"ins 1 1 0 0 6", "ok 2"}, said{"ins 9 1 0 0 0", "ok 3"}, said{"ins 9 0 0 0 0", "ok 4"}, said{"run 9", "done 6 3 3"})
}

// A script has too few lines for MaxCode instructions: so a player is asked.
func answers(t *testing.T, p *player, line, want string) {
	t.Helper()
	if answer := p.answer(line); answer != want {
		t.Errorf("%q: answers %q; want %q", line, answer, want)
	}
}

func TestM2MaxCode(t *testing.T) {
	var p player
	for n := range 200 {
		answers(t, &p, "ins 9 1 0 0 0", fmt.Sprint("ok ", n+1))
	}
	for range 3 {
		answers(t, &p, "ins 9 1 0 0 0", "?")
		answers(t, &p, "ins 0 0 0 0 0", "?")
	}
	answers(t, &p, "text", "ok 1600")
	answers(t, &p, "check", "ok")
	answers(t, &p, "hard", "ok 200")
	answers(t, &p, "ins 9 1 0 0 0", "?")
	answers(t, &p, "load", "ok 200")
	if len(p.Code) != 200 {
		t.Errorf("%d instructions", len(p.Code))
	}
}

func TestM2MaxCodeBehindHard(t *testing.T) {
	for _, c := range []struct{ loads, hardened int }{{65, 196}, {66, 199}, {67, 202}, {68, 205}, {199, 598}} {
		var p player
		answers(t, &p, "region 0 0", "ok 1")
		for n := range c.loads {
			answers(t, &p, "ins 3 2 1 0 0", fmt.Sprint("ok ", n+1))
		}
		answers(t, &p, "ins 9 2 0 0 0", fmt.Sprint("ok ", c.loads+1))
		answers(t, &p, "hard", fmt.Sprint("ok ", c.hardened))
		count := c.hardened
		for range 5 {
			want := "?"
			if count < 200 {
				count++
				want = fmt.Sprint("ok ", count)
			}
			answers(t, &p, "ins 9 2 0 0 0", want)
		}
		if len(p.Code) != count {
			t.Errorf("%d instructions, not %d", len(p.Code), count)
		}
		answers(t, &p, "run 40000", fmt.Sprintf("done 0 %d %d", c.hardened, c.hardened+c.loads))
		answers(t, &p, "check", "bad 2 0")
	}
}

// Ends, and what is told of runs.
func TestM2Run(t *testing.T) {
	talks(t, "no instruction left", said{"ins 1 1 0 0 5", "ok 1"}, said{"run 0", "fuel 0 0 0"}, said{"run 1", "fuel 0 1 1"}, said{"run 2", "fault 0 1 1"}, said{"run 40000", "fault 0 1 1"})
	talks(t, "done", said{"ins 1 1 0 0 -5", "ok 1"}, said{"ins 9 1 0 0 0", "ok 2"}, said{"run 0", "fuel 0 0 0"}, said{"run 1", "fuel 0 1 1"}, said{"run 2", "done -5 2 2"}, said{"run 3", "done -5 2 2"})
	talks(t, "for ever", said{"ins 7 0 0 0 0", "ok 1"}, said{"run 39999", "fuel 0 39999 39999"}, said{"run 40000", "fuel 0 40000 40000"}, said{"run 40001", "bad 3"}, said{"run 999999", "bad 3"},
		said{"run -1", "bad 3"}, said{"run -999999", "bad 3"}, said{"ahead 40000", "fuel 0 40000 40000"}, said{"ahead 40001", "bad 3"}, said{"ahead -1", "bad 3"}, said{"check", "ok"})
	talks(t, "no word", said{"region 0 0", "ok 1"}, said{"ins 3 1 0 0 1", "ok 1"}, said{"ins 9 1 0 0 0", "ok 2"}, said{"check", "bad 4 0"}, said{"run 9", "fault 0 1 1"}, said{"hard", "bad 4 0"}, said{"load", "bad 4 0"})
	talks(t, "registers of a hard one", said{"ins 1 9 0 0 5", "ok 1"}, said{"ins 9 9 0 0 0", "ok 2"}, said{"check", "bad 2 0"}, said{"run 9", "done 5 2 2"}, said{"text", "ok 17"}, said{"hard", "bad 2 0"}, said{"load", "bad 2 0"}, said{"ahead 9 7", "done 5 2 2"})
}

// What a run has put is in what it shows, and not in the memory of the script.
func TestM2RunLeavesTheMemory(t *testing.T) {
	run := []said{{"run 9", "done 5 4 6"}, {"look 0", "is 1 2"}, {"run 9", "done 5 4 6"}, {"ahead 9", "done 5 4 6"}, {"look 0", "is 1 2"}, {"ahead 9 0 0", "done 5 4 6"}, {"look 0", "is 1 2"}}
	lines := []said{{"region 1 0", "ok 1"}, {"fill 0 1 2", "ok"}, {"ins 1 1 0 0 5", "ok 1"}, {"ins 6 1 0 0 0", "ok 2"}, {"ins 5 2 0 0 0", "ok 3"}, {"ins 9 2 0 0 0", "ok 4"}}
	talks(t, "memory", slices.Concat(lines, run, []said{{"hard", "ok 4"}, {"look 0", "is 1 2"}}, run)...)
	// And what is there is what a run begins with.
	talks(t, "filled", said{"region 1 0", "ok 1"}, said{"ins 5 2 0 0 1", "ok 1"}, said{"ins 9 2 0 0 0", "ok 2"}, said{"run 9", "done 0 2 3"}, said{"fill 0 3 4", "ok"}, said{"run 9", "done 4 2 3"},
		said{"ahead 9", "done 4 2 3"}, said{"fill 0 5", "ok"}, said{"run 9", "done 4 2 3"}, said{"fill 0 5 6", "ok"}, said{"ahead 9", "done 6 2 3"})
}

func TestM2Ahead(t *testing.T) {
	// same r0 r0 2, fence, halt r0
	talks(t, "a guess", said{"ins 8 0 0 1 2", "ok 1"}, said{"ins 12 0 0 0 0", "ok 2"}, said{"ins 9 0 0 0 0", "ok 3"}, said{"run 9", "done 0 2 2"},
		said{"ahead 9", "done 0 2 2"}, said{"ahead 9 0", "done 0 2 2"}, said{"ahead 9 0 1", "done 0 2 2"}, said{"ahead 9 1", "done 0 3 4"}, said{"ahead 9 999999", "done 0 3 4"},
		said{"ahead 2 1", "fuel 0 2 3"}, said{"ahead 0 1", "fuel 0 0 0"}, said{"ahead 9 -1", "bad 3"}, said{"ahead 9 0 0 0 -1", "bad 3"}, said{"ahead -1 1", "bad 3"}, said{"ahead 40001 1", "bad 3"},
		said{"ahead 9" + strings.Repeat(" 1", 2000), "done 0 3 4"}, said{"ahead 9" + strings.Repeat(" 1", 2001), "bad 3"}, said{"ahead 9" + strings.Repeat(" 1", 2002), "bad 3"},
		said{"ahead 9" + strings.Repeat(" 1", 300000), "bad 3"}, said{"ahead", "?"}, said{"ahead 9" + strings.Repeat(" 1", 5000) + " x", "?"}, said{"ahead 9" + strings.Repeat(" 1", 5000) + " ", "?"},
		said{"ahead 9" + strings.Repeat(" 1", 1999) + " -1", "bad 3"})
	// Choices are taken in the order of the line: of both ifs the first one, or the second one, goes the other way.
	talks(t, "two guesses", said{"ins 8 0 0 1 2", "ok 1"}, said{"ins 12 0 0 0 0", "ok 2"}, said{"ins 8 0 0 2 0", "ok 3"}, said{"ins 9 0 0 0 0", "ok 4"}, said{"run 9", "done 0 3 3"},
		said{"ahead 9 1 0", "done 0 4 5"}, said{"ahead 9 0 1", "done 0 6 7"}, said{"ahead 9 0 0 1", "done 0 3 3"})
}

// A program that may not be: what is asked of it is answered by an error, and that of the form first.
func TestM2NoProgram(t *testing.T) {
	asked := []said{{"check", "bad 2 0"}, {"hard", "bad 2 0"}, {"load", "bad 2 0"}, {"text", "bad 2"}, {"run 9", "bad 2"}, {"run -1", "bad 2"}, {"run 999999", "bad 2"},
		{"ahead 9", "bad 2"}, {"ahead 9 1", "bad 2"}, {"ahead 9 -1", "bad 2"}, {"ahead -1", "bad 2"}, {"ahead 9" + strings.Repeat(" 0", 2001), "bad 2"}}
	talks(t, "nothing", asked...)
	talks(t, "a region alone", append([]said{{"region 1 0", "ok 1"}}, asked...)...)
	for _, line := range []string{"ins 0 0 0 0 0", "ins 13 0 0 0 0", "ins 20 0 0 0 0", "ins 31 0 0 0 0", "ins -1 0 0 0 0", "ins 1 10 0 0 0", "ins 1 -1 0 0 0", "ins 9 0 1 0 0", "ins 3 0 0 1 0", "ins 5 0 0 0 2", "ins 7 0 0 0 9", "ins 12 0 0 0 1"} {
		talks(t, line, slices.Concat([]said{{"region 1 0", "ok 1"}, {"ins 1 0 0 0 5", "ok 1"}, {line, "ok 2"}, {"ins 9 0 0 0 0", "ok 3"}}, asked)...)
	}
	// What was not may become one.
	talks(t, "later", slices.Concat([]said{{"ins 5 0 0 1 3", "ok 1"}, {"ins 7 0 0 0 2", "ok 2"}}, asked, []said{{"region 0 0", "ok 1"}}, asked,
		[]said{{"region 2 0", "ok 2"}, {"text", "bad 2"}, {"ins 9 0 0 0 0", "ok 3"}, {"check", "ok"}, {"hard", "ok 3"}, {"load", "ok 3"}, {"run 9", "done 0 3 4"}, {"text", "ok 61"}})...)
}

// What hard refuses stays the program.
func TestM2HardRefused(t *testing.T) {
	talks(t, "refused", said{"region 0 1", "ok 1"}, said{"fill 0 5", "ok"}, said{"ins 3 1 0 0 0", "ok 1"}, said{"ins 9 1 0 0 0", "ok 2"}, said{"hard", "bad 5 1"}, said{"text", "ok 40"}, said{"run 9", "done 5 2 3"},
		said{"ins 9 0 0 0 0", "ok 3"}, said{"look 0", "is 5"}, said{"load", "bad 5 1"}, said{"check", "bad 5 1"})
}

func TestM2LoadLeavesTheProgram(t *testing.T) {
	talks(t, "load", said{"region 0 1", "ok 1"}, said{"ins 3 1 0 0 0", "ok 1"}, said{"ins 1 2 0 0 8192", "ok 2"}, said{"ins 9 0 0 0 0", "ok 3"}, said{"load", "ok 8"}, said{"load", "ok 8"}, said{"text", "ok 52"},
		said{"ins 9 0 0 0 0", "ok 4"}, said{"check", "ok"}, said{"hard", "ok 6"}, said{"text", "ok 83"})
}

// goodLines has a line of each word, all of which may be played behind one another.
func goodLines() []string {
	return []string{"region 1 1", "fill 0 1 2", "ins 9 1 0 0 0", "check", "run 9", "ahead 9 0 1", "hard", "load", "text", "look 0"}
}

func TestM2TooFewOrTooManyNumbers(t *testing.T) {
	begin := []string{"region 1 0", "ins 1 1 0 0 5"}
	for word, counts := range map[string][]int{
		"region": {2}, "fill": {1, 2, 3}, "ins": {5}, "check": {0}, "run": {1}, "ahead": {1, 2, 3, 4, 5, 6, 7, 8, 9}, "hard": {0}, "load": {0}, "text": {0}, "look": {1},
	} {
		for count := range 10 {
			line := word + strings.Repeat(" 0", count)
			if !slices.Contains(counts, count) {
				refused(t, begin, line)
			} else if answer := Play(lined(append(begin, line)...)); strings.HasSuffix(answer, "?\n") {
				t.Errorf("%q is refused", line)
			}
		}
		refused(t, begin, word+strings.Repeat(" 0", 10)+" x")
		if word != "ahead" {
			refused(t, begin, word+strings.Repeat(" 0", 3000))
		}
	}
}

func TestM2Blanks(t *testing.T) {
	begin := []string{"region 1 0", "ins 1 1 0 0 5"}
	for _, line := range goodLines() {
		refused(t, begin, " "+line)
		refused(t, begin, line+" ")
		refused(t, begin, line+"  ")
		refused(t, begin, "\t"+line)
		refused(t, begin, line+"\t")
		refused(t, begin, line+"\r")
		refused(t, begin, line+"\x00")
		for at, b := range line {
			if b == ' ' {
				for _, other := range []string{"  ", "\t", "\t ", " \t", "", "\v", "\r", "\u00a0", ",", ", ", "\x00", "_", "+"} {
					if changed := line[:at] + other + line[at+1:]; changed != "fill 0 12" && changed != "ahead 90 1" {
						refused(t, begin, changed)
					}
				}
			}
		}
	}
}

func TestM2NoWords(t *testing.T) {
	begin := []string{"region 1 0", "ins 1 1 0 0 5"}
	for _, word := range []string{
		"", " ", "?", "ok", "bad", "is", "done", "fuel", "fault", "Region", "REGION", "regions", "regio", "reg", "egion", "fills", "fil", "Fill", "in", "inst", "Ins", "INS", "checks", "chec", "Check", "CHECK",
		"runs", "ru", "Run", "ahea", "aheads", "Ahead", "har", "hards", "harden", "Hard", "loads", "loa", "Load", "texts", "tex", "Text", "looks", "loo", "Look", "fence", "find", "word", "parse", "print",
		"set", "halt", "0", "1", "-1", "#", "# check", "//", ";", "check;", "check?", "\"check\"", "check check", "checkcheck", "hardhard", "check\x00", "\x00check", "\xffcheck", "check\xff", "\ufeffcheck", "\u212aheck",
		"\x00", "\xff", "\xc3", "\xc3\xa9", "\u00a0", "\u2028", "\t", "\r", "\v", "\f", "\x7f", "\x80",
	} {
		for count := range 7 {
			refused(t, begin, word+strings.Repeat(" 0", count))
		}
	}
	for b := range 256 {
		if b == '\n' {
			continue
		}
		refused(t, begin, string([]byte{byte(b)}))
		refused(t, begin, "check"+string([]byte{byte(b)}))
		refused(t, begin, string([]byte{byte(b)})+"text")
	}
}

func TestM3Beginnings(t *testing.T) {
	script := lined(goodLines()...) + lined("", "x", "check", "region 2 0", "look 1", "ins 9 0 0 0 0", "text", "fill 1 5", "look 1", "look 0", "run 4")
	for _, s := range []string{script, script + script, script + script + script, strings.TrimSuffix(script, "\n"), "\n" + script + "\n\n\n" + script} {
		beginnings(t, s)
	}
}

// beginnings sees that the answer to s begins with that to each beginning, and has a line for each line that counts.
func beginnings(t *testing.T, s string) {
	t.Helper()
	whole := Play(s)
	for at := range len(s) + 1 {
		if at > 0 && s[at-1] != '\n' {
			continue
		}
		answer := Play(s[:at])
		if !strings.HasPrefix(whole, answer) {
			t.Errorf("%q answers %q\nbut its beginning %q answers %q", cut(s), cut(whole), cut(s[:at]), cut(answer))
			return
		}
		if lines := min(40, strings.Count(s[:at], "\n")); strings.Count(answer, "\n") != lines || lines > 0 && !strings.HasSuffix(answer, "\n") {
			t.Errorf("%q has not %d answers: %q", cut(s[:at]), lines, cut(answer))
			return
		}
	}
}

// Nothing is kept from one script to the next one.
func TestTheSameForTheSame(t *testing.T) {
	script := lined(goodLines()...)
	want := lined("ok 1", "ok", "ok 1", "ok", "done 0 1 1", "done 0 1 1", "ok 1", "ok 1", "ok 24", "is 1 2")
	for range 3 {
		playsAs(t, script, want)
		playsAs(t, "look 0\ntext", "?\nbad 2\n")
	}
}

func TestP1GreatScripts(t *testing.T) {
	forty := strings.Repeat("?\n", 40)
	many := 3000000
	playsAs(t, strings.Repeat("\n", many), forty)
	playsAs(t, strings.Repeat("x\n", many), forty)
	playsAs(t, strings.Repeat(" ", many), "?\n")
	playsAs(t, strings.Repeat("x", many), "?\n")
	playsAs(t, "run "+strings.Repeat("9", many), "?\n")
	playsAs(t, "run"+strings.Repeat(" 9", many), "?\n")
	playsAs(t, "ahead 9"+strings.Repeat(" 9", many), "bad 2\n")
	playsAs(t, "fence\nahead 9"+strings.Repeat(" -999999", many)+"\n", "?\nbad 2\n")
	playsAs(t, "region 6 0\nfill 0"+strings.Repeat(" 9", many)+"\ncheck", "ok 1\n?\nbad 2 0\n")
	playsAs(t, "ins 7 0 0 0 0\n"+strings.Repeat("run 40000\n", many), "ok 1\n"+strings.Repeat("fuel 0 40000 40000\n", 39))
}
