package word

import (
	"slices"
	"testing"

	"evenkeel/api"
	"evenkeel/harden"
)

func TestH1TheExample(t *testing.T) {
	p := api.Program{Code: []api.Ins{set(1, 5)}}
	bothWays(t, "ISet 1 5", p, []uint32{71303173})
}

// A handmade is an instruction and its word, the fields parted: Op, A, B, C, N.
type handmade struct {
	i    api.Ins
	word uint32
}

// handmades has each kind of instruction with each field at its least and its greatest, in a program of MaxHard instructions and sixRegions.
func handmades() []handmade {
	return []handmade{
		{set(0, -8192), 0b_000001_0000_0000_0000_10000000000000},
		{set(9, 8191), 0b_000001_1001_0000_0000_01111111111111},
		{set(9, -1), 0b_000001_1001_0000_0000_11111111111111},
		{set(0, 0), 0b_000001_0000_0000_0000_00000000000000},
		{api.Ins{Op: api.IMove}, 0b_000010_0000_0000_0000_00000000000000},
		{api.Ins{Op: api.IMove, A: 9}, 0b_000010_1001_0000_0000_00000000000000},
		{api.Ins{Op: api.IMove, B: 9}, 0b_000010_0000_1001_0000_00000000000000},
		{api.Ins{Op: api.IMove, A: 9, B: 9}, 0b_000010_1001_1001_0000_00000000000000},
		{api.Ins{Op: api.ILoad, N: -8192}, 0b_000011_0000_0000_0000_10000000000000},
		{api.Ins{Op: api.ILoad, A: 9, B: 9, C: 5, N: 8191}, 0b_000011_1001_1001_0101_01111111111111},
		{api.Ins{Op: api.ILoad, A: 3, B: 6, C: 1, N: -2}, 0b_000011_0011_0110_0001_11111111111110},
		{api.Ins{Op: api.IPut, N: -8192}, 0b_000100_0000_0000_0000_10000000000000},
		{api.Ins{Op: api.IPut, A: 9, B: 9, C: 5, N: 8191}, 0b_000100_1001_1001_0101_01111111111111},
		{api.Ins{Op: api.IPut, A: 1, B: 8, C: 4, N: -8191}, 0b_000100_0001_1000_0100_10000000000001},
		{api.Ins{Op: api.ILoadK}, 0b_000101_0000_0000_0000_00000000000000},
		{api.Ins{Op: api.ILoadK, A: 9, C: 5, N: 63}, 0b_000101_1001_0000_0101_00000000111111},
		{api.Ins{Op: api.IPutK}, 0b_000110_0000_0000_0000_00000000000000},
		{api.Ins{Op: api.IPutK, A: 9, C: 5, N: 63}, 0b_000110_1001_0000_0101_00000000111111},
		{api.Ins{Op: api.IPutK, A: 7, C: 3, N: 7}, 0b_000110_0111_0000_0011_00000000000111},
		{api.Ins{Op: api.IJump}, 0b_000111_0000_0000_0000_00000000000000},
		{api.Ins{Op: api.IJump, N: 7999}, 0b_000111_0000_0000_0000_01111100111111},
		{api.Ins{Op: api.IIf, C: api.CondSame}, 0b_001000_0000_0000_0001_00000000000000},
		{api.Ins{Op: api.IIf, A: 9, C: api.CondOther, N: 1}, 0b_001000_1001_0000_0010_00000000000001},
		{api.Ins{Op: api.IIf, B: 9, C: api.CondLess, N: 4096}, 0b_001000_0000_1001_0011_01000000000000},
		{api.Ins{Op: api.IIf, A: 9, B: 9, C: api.CondMost, N: 7999}, 0b_001000_1001_1001_0100_01111100111111},
		{halt(0), 0b_001001_0000_0000_0000_00000000000000},
		{halt(9), 0b_001001_1001_0000_0000_00000000000000},
		{api.Ins{Op: api.IAdd, N: -8192}, 0b_001010_0000_0000_0000_10000000000000},
		{api.Ins{Op: api.IAdd, A: 9, B: 9, N: 8191}, 0b_001010_1001_1001_0000_01111111111111},
		{api.Ins{Op: api.IAdd, A: 5, B: 2, N: -3}, 0b_001010_0101_0010_0000_11111111111101},
		{api.Ins{Op: api.IMask, N: 1}, 0b_001011_0000_0000_0000_00000000000001},
		{api.Ins{Op: api.IMask, A: 9, N: 64}, 0b_001011_1001_0000_0000_00000001000000},
		{api.Ins{Op: api.IFence}, 0b_001100_0000_0000_0000_00000000000000},
		{api.Ins{Op: api.IOp + api.OpAdd}, 0b_010101_0000_0000_0000_00000000000000},
		{api.Ins{Op: api.IOp + api.OpSub, A: 9}, 0b_010110_1001_0000_0000_00000000000000},
		{api.Ins{Op: api.IOp + api.OpMul, B: 9}, 0b_010111_0000_1001_0000_00000000000000},
		{api.Ins{Op: api.IOp + api.OpAnd, C: 9}, 0b_011000_0000_0000_1001_00000000000000},
		{api.Ins{Op: api.IOp + api.OpOr, A: 1, B: 2, C: 4}, 0b_011001_0001_0010_0100_00000000000000},
		{api.Ins{Op: api.IOp + api.OpXor, A: 9, B: 9}, 0b_011010_1001_1001_0000_00000000000000},
		{api.Ins{Op: api.IOp + api.OpShl, A: 9, C: 9}, 0b_011011_1001_0000_1001_00000000000000},
		{api.Ins{Op: api.IOp + api.OpShr, B: 9, C: 9}, 0b_011100_0000_1001_1001_00000000000000},
		{api.Ins{Op: api.IOp + api.OpDiv, A: 8, B: 7, C: 6}, 0b_011101_1000_0111_0110_00000000000000},
		{api.Ins{Op: api.IOp + api.OpMod, A: 9, B: 9, C: 9}, 0b_011110_1001_1001_1001_00000000000000},
	}
}

const fenceWord = 0b_001100_0000_0000_0000_00000000000000

// filled has the instructions first, and as many IFences behind them that there are n in all; and their words.
func filled(n int, first []api.Ins, firstWords []uint32) ([]api.Ins, []uint32) {
	rest := n - len(first)
	return slices.Concat(first, slices.Repeat([]api.Ins{{Op: api.IFence}}, rest)),
		slices.Concat(firstWords, slices.Repeat([]uint32{fenceWord}, rest))
}

func TestH1H2EachKindByHand(t *testing.T) {
	for _, h := range handmades() {
		code, words := filled(api.MaxHard, []api.Ins{h.i}, []uint32{h.word})
		p := api.Program{Regions: sixRegions(), Code: code}
		got, fault := Put(p)
		if fault != (api.Fault{}) || !slices.Equal(got, words) {
			t.Errorf("%+v: %v, %032b; want %032b", h.i, fault, got[:min(1, len(got))], h.word)
		}
		q, fault := Get(sixRegions(), words)
		if fault != (api.Fault{}) || !equal(q, p) {
			t.Errorf("%032b: %v, %+v; want %+v", h.word, fault, q.Code[:min(1, len(q.Code))], h.i)
		}
	}
}

func TestH2WordsInOrder(t *testing.T) {
	var code []api.Ins
	var words []uint32
	for _, h := range handmades() {
		code, words = append(code, h.i), append(words, h.word)
	}
	code, words = filled(api.MaxHard, code, words)
	bothWays(t, "all kinds", api.Program{Regions: sixRegions(), Code: code}, words)
	slices.Reverse(code)
	slices.Reverse(words)
	bothWays(t, "all kinds, the other way round", api.Program{Regions: sixRegions(), Code: code}, words)
}

func TestHandmadesHaveEachKind(t *testing.T) {
	for _, op := range kinds() {
		if !slices.ContainsFunc(handmades(), func(h handmade) bool { return h.i.Op == op }) {
			t.Errorf("no word by hand of the Op %d", op)
		}
	}
}

// The same in decimal digits, as the chapter's example is told.
func TestH1DecimalWords(t *testing.T) {
	p := api.Program{
		Regions: []api.Region{{Log: 2}, {Log: 2, Secret: true}},
		Code: []api.Ins{
			{Op: api.ILoadK, A: 1, C: 0, N: 3},
			{Op: api.IAdd, A: 8, B: 1, N: -1},
			{Op: api.IMask, A: 8, N: 4},
			{Op: api.ILoad, A: 4, B: 8, C: 1},
			{Op: api.IOp + api.OpMod, A: 9, B: 9, C: 9},
			{Op: api.IIf, A: 1, B: 2, C: api.CondLess, N: 1},
			{Op: api.IHalt, A: 1},
		},
	}
	bothWays(t, "a program", p, []uint32{339738627, 704921599, 771751940, 220217344, 2053521408, 541638657, 608174080})
}

func TestH2NAtItsEdges(t *testing.T) {
	tooGreat := []int64{8192, 8193, 16383, 16384, 16385, 1 << 31, 1 << 32, 1<<32 + 5, 1 << 62, greatest - 1, greatest}
	tooSmall := []int64{-8193, -8194, -16384, -16385, -1 << 31, -1 << 32, -1<<32 + 5, least + 1, least + 5, least}
	for _, i := range []api.Ins{
		{Op: api.ISet, A: 1},
		{Op: api.IAdd, A: 9, B: 9},
		{Op: api.ILoad, A: 9, B: 9, C: 5},
		{Op: api.IPut},
	} {
		for _, n := range []int64{-8192, -8191, -1, 0, 1, 8190, 8191} {
			i.N = n
			bothWays(t, "N that has room", api.Program{Regions: sixRegions(), Code: []api.Ins{i}}, []uint32{plainWord(i)})
		}
		for _, n := range slices.Concat(tooGreat, tooSmall) {
			i.N = n
			putFails(t, "N without room", api.Program{Regions: sixRegions(), Code: []api.Ins{i}}, api.Fault{Code: api.ErrRange})
		}
	}
}

func TestH2TheFirstNWithoutRoomIsTold(t *testing.T) {
	for at := range 6 {
		code := slices.Repeat([]api.Ins{set(1, 8191)}, 6)
		code[at].N = 8192
		want := api.Fault{Code: api.ErrRange, At: at}
		putFails(t, "one", api.Program{Code: code}, want)
		for later := at + 1; later < 6; later++ {
			code[later].N = []int64{least, greatest, -8193}[later%3]
			putFails(t, "several", api.Program{Code: code}, want)
		}
	}
	code, _ := filled(api.MaxHard, nil, nil)
	code[api.MaxHard-1] = set(9, -8193)
	putFails(t, "the last of MaxHard", api.Program{Code: code}, api.Fault{Code: api.ErrRange, At: api.MaxHard - 1})
	code[4321] = api.Ins{Op: api.IAdd, N: greatest}
	putFails(t, "one amid MaxHard", api.Program{Code: code}, api.Fault{Code: api.ErrRange, At: 4321})
}

// Whatever N is without room: that p is not hard is told first, and at 0, wherever it is so.
func TestH2ErrFormAheadOfErrRange(t *testing.T) {
	form := api.Fault{Code: api.ErrForm}
	for _, bad := range []api.Ins{
		{},
		{Op: 63},
		{Op: 64 + api.IHalt},
		{Op: -1},
		{Op: api.IHalt, A: 10},
		{Op: api.IHalt, A: -1},
		{Op: api.IHalt, A: 16},
		{Op: api.IHalt, N: 8192},
		{Op: api.IMove, A: 1, B: 1, C: 1},
		{Op: api.ILoadK, C: 6},
		{Op: api.ILoadK, C: 1, N: 1},
		{Op: api.IPutK, N: greatest},
		{Op: api.IJump, N: 3},
		{Op: api.IJump, N: 8192},
		{Op: api.IIf, N: 1},
		{Op: api.IIf, C: api.CondMost + 1, N: 1},
		{Op: api.IMask, N: 65},
		{Op: api.IMask, N: least},
	} {
		p := api.Program{Regions: sixRegions(), Code: []api.Ins{set(1, 5), bad, halt(1)}}
		putFails(t, "not hard", p, form)
		p.Code[0].N = least
		putFails(t, "not hard, behind an N without room", p, form)
		p.Code[0], p.Code[2] = halt(1), set(1, greatest)
		putFails(t, "not hard, ahead of an N without room", p, form)
	}
	wide := set(1, 8192)
	putFails(t, "no instruction", api.Program{}, form)
	putFails(t, "regions alone", api.Program{Regions: sixRegions()}, form)
	putFails(t, "too many instructions", api.Program{Code: slices.Repeat([]api.Ins{wide}, api.MaxHard+1)}, form)
	for _, regions := range regionsThatMayNotBe() {
		putFails(t, "regions that may not be", api.Program{Regions: regions, Code: []api.Ins{halt(1)}}, form)
		putFails(t, "regions that may not be, and such an N", api.Program{Regions: regions, Code: []api.Ins{wide}}, form)
	}
}

func regionsThatMayNotBe() [][]api.Region {
	out := [][]api.Region{make([]api.Region, api.MaxRegions+1), make([]api.Region, 10000)}
	for _, log := range []int{least, -64, -1, api.MaxLog + 1, 63, 64, 1 << 32, greatest} {
		out = append(out, []api.Region{{Log: log}}, []api.Region{{Log: 2}, {Log: log, Secret: true}})
	}
	return out
}

func TestH2HowManyInstructions(t *testing.T) {
	for _, n := range []int{1, 2, api.MaxCode, api.MaxCode + 1, api.MaxHard - 1, api.MaxHard} {
		code, words := filled(n, nil, nil)
		bothWays(t, "so many", api.Program{Code: code}, words)
		code[n-1] = api.Ins{Op: api.IJump, N: int64(n - 1)}
		words[n-1] = 7<<26 + uint32(n-1)
		bothWays(t, "so many, and a jump to the last one", api.Program{Regions: sixRegions(), Code: code}, words)
		words[n-1]++
		getFails(t, "a jump behind the last one", sixRegions(), words)
	}
	for _, n := range []int{api.MaxHard + 1, api.MaxHard + 2, 3 * api.MaxHard} {
		code, words := filled(n, nil, nil)
		putFails(t, "too many", api.Program{Code: code}, api.Fault{Code: api.ErrForm})
		getFails(t, "too many", nil, words)
	}
	getFails(t, "no words", nil, nil)
	getFails(t, "no words, and empty lists", []api.Region{}, []uint32{})
	getFails(t, "no words, but regions", sixRegions(), nil)
}

func TestH2NoRegions(t *testing.T) {
	for _, regions := range [][]api.Region{nil, {}} {
		bothWays(t, "no region", api.Program{Regions: regions, Code: []api.Ins{halt(9)}}, []uint32{9<<26 + 9<<22})
		getFails(t, "a load of no region", regions, []uint32{api.ILoad << 26})
		getFails(t, "a put of no region", regions, []uint32{api.IPutK << 26})
	}
}

func TestH2GetOfRegionsThatMayNotBe(t *testing.T) {
	for _, regions := range regionsThatMayNotBe() {
		getFails(t, "regions that may not be", regions, []uint32{fenceWord})
		getFails(t, "regions that may not be, and no word", regions, nil)
		getFails(t, "a load of such a region", regions, []uint32{api.ILoadK << 26})
	}
}

func TestH2GetOfOpsThatThereAreNoneOf(t *testing.T) {
	for op := range uint32(64) {
		if slices.Contains(kinds(), int(op)) {
			continue
		}
		for _, rest := range []uint32{0, 1, 1 << 14, 1 << 22, 1<<22 + 1, 1<<26 - 1} {
			getFails(t, "another Op", sixRegions(), []uint32{op<<26 + rest})
			getFails(t, "another Op amid others", sixRegions(), []uint32{fenceWord, op<<26 + rest, fenceWord})
		}
	}
}

func TestH2GetOfTheLeastAndTheGreatestWord(t *testing.T) {
	for _, w := range []uint32{0, greatestWord} {
		getFails(t, "alone", nil, []uint32{w})
		getFails(t, "with regions", sixRegions(), []uint32{w})
		for at := range 3 {
			words := slices.Repeat([]uint32{fenceWord}, 3)
			words[at] = w
			getFails(t, "amid others", sixRegions(), words)
		}
		getFails(t, "MaxHard of them", sixRegions(), slices.Repeat([]uint32{w}, api.MaxHard))
		getFails(t, "more of them", sixRegions(), slices.Repeat([]uint32{w}, api.MaxHard+1))
	}
}

func TestH2GetOfRegistersThatThereAreNoneOf(t *testing.T) {
	for r := range uint32(16) {
		for _, w := range []uint32{
			api.ISet<<26 + r<<22 + 16383,
			api.IMove<<26 + r<<22,
			api.IMove<<26 + r<<18,
			api.IAdd<<26 + r<<22 + 8192,
			api.IAdd<<26 + r<<18 + 8191,
			api.ILoad<<26 + r<<22 + 5<<14,
			api.ILoad<<26 + r<<18 + 5<<14,
			api.IPut<<26 + r<<22 + 5<<14,
			api.IPut<<26 + r<<18 + 5<<14,
			api.ILoadK<<26 + r<<22 + 5<<14 + 63,
			api.IPutK<<26 + r<<22 + 5<<14 + 63,
			api.IIf<<26 + r<<22 + 1<<14,
			api.IIf<<26 + r<<18 + 4<<14,
			api.IHalt<<26 + r<<22,
			api.IMask<<26 + r<<22 + 64,
			(api.IOp+api.OpAdd)<<26 + r<<22,
			(api.IOp+api.OpShr)<<26 + r<<18,
			(api.IOp+api.OpMod)<<26 + r<<14,
		} {
			if r < api.Regs+2 {
				getsAs(t, "a register", []uint32{w}, api.Program{Regions: sixRegions(), Code: []api.Ins{plainIns(w)}})
			} else {
				getFails(t, "no register", sixRegions(), []uint32{w})
			}
		}
	}
}

func TestH2GetOfRegionsAndConditionsThatThereAreNoneOf(t *testing.T) {
	for c := range uint32(16) {
		for _, op := range []uint32{api.ILoad, api.IPut, api.ILoadK, api.IPutK} {
			w := op<<26 + c<<14
			if c < api.MaxRegions {
				getsAs(t, "a region", []uint32{w}, api.Program{Regions: sixRegions(), Code: []api.Ins{plainIns(w)}})
				getFails(t, "one region less", sixRegions()[:c], []uint32{w})
			} else {
				getFails(t, "no region", sixRegions(), []uint32{w})
			}
		}
		w := api.IIf<<26 + c<<14
		if c >= api.CondSame && c <= api.CondMost {
			getsAs(t, "a condition", []uint32{w}, api.Program{Code: []api.Ins{plainIns(w)}})
		} else {
			getFails(t, "no condition", nil, []uint32{w})
		}
	}
}

func TestH2GetOfFieldsThatAreNotNamed(t *testing.T) {
	const a, b, c, n = 1 << 22, 1 << 18, 1 << 14, 1
	fields := map[uint32][]uint32{
		api.ISet:   {b, c},
		api.IMove:  {c, n},
		api.IAdd:   {c},
		api.ILoadK: {b},
		api.IPutK:  {b},
		api.IJump:  {a, b, c},
		api.IHalt:  {b, c, n},
		api.IMask:  {b, c},
		api.IFence: {a, b, c, n},
	}
	for op := api.OpAdd; op <= api.OpMod; op++ {
		fields[uint32(api.IOp+op)] = []uint32{n}
	}
	for op, unnamed := range fields {
		right := op << 26
		if op == api.IMask {
			right++
		}
		getsAs(t, "all 0", []uint32{right}, api.Program{Regions: sixRegions(), Code: []api.Ins{plainIns(right)}})
		for _, field := range unnamed {
			most := uint32(15)
			if field == n {
				most = 16383
			}
			for _, k := range []uint32{1, 2, 8, most} {
				getFails(t, "not 0", sixRegions(), []uint32{right + k*field})
			}
		}
	}
}

func TestH2GetOfNThatLeadsNowhere(t *testing.T) {
	for _, op := range []uint32{api.IJump << 26, api.IIf<<26 + api.CondLess<<14} {
		for n := range uint32(16384) {
			words := []uint32{fenceWord, op + n, fenceWord}
			if n < 3 {
				code := []api.Ins{{Op: api.IFence}, plainIns(op + n), {Op: api.IFence}}
				getsAs(t, "an instruction", words, api.Program{Code: code})
			} else {
				getFails(t, "no instruction", nil, words)
			}
		}
	}
	for c, region := range sixRegions() {
		for _, op := range []uint32{api.ILoadK, api.IPutK} {
			for n := range uint32(16384) {
				w := op<<26 + uint32(c)<<14 + n
				if n < 1<<region.Log {
					getsAs(t, "a word", []uint32{w}, api.Program{Regions: sixRegions(), Code: []api.Ins{plainIns(w)}})
				} else {
					getFails(t, "no word", sixRegions(), []uint32{w})
				}
			}
		}
	}
	for n := range uint32(16384) {
		w := api.IMask<<26 + n
		if n >= 1 && n <= 64 {
			getsAs(t, "a mask", []uint32{w}, api.Program{Code: []api.Ins{plainIns(w)}})
		} else {
			getFails(t, "no mask", nil, []uint32{w})
		}
	}
}

func TestH1H3EachN(t *testing.T) {
	for n := int64(-8192); n <= 8191; n++ {
		for _, i := range []api.Ins{
			{Op: api.ISet, A: 9, N: n},
			{Op: api.IAdd, A: 1, B: 8, N: n},
			{Op: api.ILoad, A: 9, B: 9, C: 5, N: n},
			{Op: api.IPut, N: n},
		} {
			bothWays(t, "an N", api.Program{Regions: sixRegions(), Code: []api.Ins{i}}, []uint32{plainWord(i)})
		}
	}
}

func TestH3AHardenedProgram(t *testing.T) {
	p := api.Program{
		Regions: []api.Region{{Log: 2}, {Log: 2, Secret: true}},
		Code: []api.Ins{
			{Op: api.ILoadK, A: 1},
			{Op: api.ISet, A: 2, N: 3},
			{Op: api.IIf, A: 2, B: 1, C: api.CondLess, N: 5},
			{Op: api.ILoad, A: 3, B: 1},
			{Op: api.IOp + api.OpDiv, A: 4, B: 3, C: 2},
			{Op: api.IHalt, A: 1},
		},
	}
	h, fault := harden.Make(p)
	if fault != (api.Fault{}) {
		t.Fatal(fault)
	}
	bothWays(t, "hardened", h, plainWords(h.Code))
}

func TestNewMemory(t *testing.T) {
	regions, words := sixRegions(), []uint32{71303173, api.ILoad<<26 + 9<<22 + 9<<18 + 5<<14 + 8191, api.IHalt << 26}
	want := api.Program{Regions: sixRegions(), Code: []api.Ins{plainIns(words[0]), plainIns(words[1]), plainIns(words[2])}}
	p, _ := Get(regions, words)
	again, _ := Get(regions, words)
	clear(regions)
	clear(words)
	if !equal(p, want) || !equal(again, want) {
		t.Error("what Get answers is shared with what was handed in")
	}
	for n := range p.Regions {
		p.Regions[n].Log = 5
	}
	p.Code[0] = halt(3)
	if !equal(again, want) || slices.Contains(regions, api.Region{Log: 5}) {
		t.Error("what Get answers is shared with what was handed in, or answered again")
	}
	one, _ := Put(want)
	two, _ := Put(want)
	one[0] = 0
	if two[0] != 71303173 || want.Code[0] != set(1, 5) {
		t.Error("what Put answers is shared")
	}
}

func TestWhatLiesBehindALength(t *testing.T) {
	regions := append(sixRegions(), api.Region{Log: -1}, api.Region{Log: 99})
	words := []uint32{fenceWord, api.IHalt << 26, greatestWord, 0}
	p, fault := Get(regions[:2], words[:2])
	want := api.Program{Regions: sixRegions()[:2], Code: []api.Ins{{Op: api.IFence}, halt(0)}}
	if fault != (api.Fault{}) || !equal(p, want) {
		t.Fatalf("%v, %v", p, fault)
	}
	getFails(t, "a jump behind the length", nil, []uint32{api.IJump<<26 + 1, fenceWord}[:1])
	p.Regions, p.Code = append(p.Regions, api.Region{Log: 4}), append(p.Code, halt(7))
	if !slices.Equal(regions, append(sixRegions(), api.Region{Log: -1}, api.Region{Log: 99})) || words[2] != greatestWord {
		t.Error("Get has written behind a length")
	}
	code := []api.Ins{{Op: api.IFence}, halt(0), set(99, greatest)}
	putsAs(t, "a part", api.Program{Regions: regions[:2], Code: code[:2]}, words[:2])
	if code[2] != set(99, greatest) {
		t.Error("Put has written behind a length")
	}
}
