package check

import (
	"fmt"
	"math"
	"reflect"
	"slices"
	"testing"

	"evenkeel/api"
)

func TestF2ProgramsThatMayNotBe(t *testing.T) {
	with := func(i api.Ins) api.Program { return program(3, halt(0), i) }
	regions := func(n, log int) api.Program {
		return api.Program{Regions: slices.Repeat([]api.Region{{Log: log}}, n), Code: []api.Ins{halt(0)}}
	}
	for name, p := range map[string]api.Program{
		"nothing at all":                   {},
		"no instruction":                   program(3),
		"201 instructions":                 program(3, slices.Repeat([]api.Ins{halt(0)}, 201)...),
		"as many as hard ones have":        program(3, slices.Repeat([]api.Ins{halt(0)}, api.MaxHard)...),
		"7 regions":                        regions(7, 0),
		"a Log of 7":                       regions(1, 7),
		"a Log of -1":                      regions(1, -1),
		"a great Log":                      regions(1, math.MaxInt),
		"the least Log":                    regions(1, math.MinInt),
		"no such Op":                       with(api.Ins{}),
		"IOp without an operation":         with(api.Ins{Op: api.IOp}),
		"an operation beyond":              with(op(api.OpMod+1, 0, 0, 0)),
		"a great Op":                       with(api.Ins{Op: math.MaxInt}),
		"the least Op":                     with(api.Ins{Op: math.MinInt}),
		"register 8, of a hardened one":    with(halt(8)),
		"register 9, of a hardened one":    with(set(9, 0)),
		"register -1":                      with(halt(-1)),
		"the least register":               with(move(0, math.MinInt)),
		"a great register":                 with(op(api.OpAdd, 0, 0, math.MaxInt)),
		"a region that is not there":       with(loadK(0, 3, 0)),
		"a region below 0":                 with(load(0, 0, -1, 0)),
		"a word that is not there":         with(loadK(0, asked, 8)),
		"a word below 0":                   with(putK(0, asked, -1)),
		"a jump to where none is":          with(jump(2)),
		"a jump below 0":                   with(jump(-1)),
		"an if to where none is":           with(when(0, api.CondSame, 0, 2)),
		"no such condition":                with(when(0, 0, 0, 0)),
		"a condition beyond":               with(when(0, api.CondMost+1, 0, 0)),
		"a mask of 0":                      with(mask(0, 0)),
		"a mask of 65":                     with(mask(0, 65)),
		"a field that is not 0":            with(api.Ins{Op: api.IFence, N: 1}),
		"behind faults of another kind":    program(3, load(0, 0, asked, -1), loadK(1, hidden, 0), halt(1), api.Ins{}),
		"ahead of the first to be come to": program(3, jump(2), api.Ins{Op: 99}, halt(0)),
	} {
		finds(t, name, p, api.Fault{Code: api.ErrForm})
	}
}

func TestF2ProgramsWithoutFault(t *testing.T) {
	finds(t, "a halt", program(0, halt(0)), ok())
	finds(t, "without regions", api.Program{Code: []api.Ins{set(1, 5), halt(1)}}, ok())
	finds(t, "a jump to itself", api.Program{Code: []api.Ins{jump(0)}}, ok())
	finds(t, "200 instructions", program(0, append(slices.Repeat([]api.Ins{fence()}, 199), halt(0))...), ok())
	finds(t, "secrets moved about", program(6,
		loadK(1, hidden, 0), loadK(2, hidden, 63), op(api.OpXor, 3, 1, 2), op(api.OpShl, 3, 3, 1), move(4, 3),
		mask(4, 7), add(4, 4, -9), putK(4, hidden, 5), put(3, 0, hidden, 63), halt(0)), ok())
	finds(t, "a secret that is set again", program(6, loadK(1, hidden, 0), set(1, 4), put(1, 1, open, 0), halt(1)), ok())
}

func TestF2WhatNothingLeadsTo(t *testing.T) {
	// Register 1 is a secret. None of these is come to, whatever it holds, also as the last one.
	bad := []api.Ins{
		load(2, 1, asked, 0), load(2, 0, asked, -1), put(1, 1, asked, 0), put(0, 0, asked, least), putK(1, open, 0),
		when(1, api.CondLess, 1, 0), op(api.OpDiv, 2, 1, 1), op(api.OpMod, 2, 1, 1), halt(1), set(0, 0), fence(),
	}
	for _, i := range bad {
		name := fmt.Sprint(i)
		finds(t, name+" behind a halt", program(3, loadK(1, hidden, 0), halt(0), i), ok())
		finds(t, name+" behind a jump", program(3, loadK(1, hidden, 0), jump(1), i), ok())
		finds(t, name+" jumped over", program(3, loadK(1, hidden, 0), jump(3), i, halt(0)), ok())
		finds(t, name+" behind what nothing leads to", program(3, loadK(1, hidden, 0), halt(0), fence(), i), ok())
		finds(t, name+" led to by what nothing leads to", program(3, loadK(1, hidden, 0), halt(0), i, jump(2)), ok())
	}
	finds(t, "only an if leads there", program(3, loadK(1, hidden, 0), when(0, api.CondOther, 0, 3), halt(0), halt(1)), label(3))
	finds(t, "only a jump leads there", program(3, loadK(1, hidden, 0), jump(3), halt(0), halt(1)), label(3))
}

func TestF2TheLastInstruction(t *testing.T) {
	ends := []api.Ins{
		set(0, 0), move(0, 1), add(0, 0, 0), load(0, 0, asked, 0), put(0, 0, asked, 0), loadK(0, asked, 0), putK(0, asked, 0),
		when(0, api.CondSame, 0, 0), when(0, api.CondOther, 0, 1), mask(0, 1), fence(),
	}
	for _, kind := range ops {
		ends = append(ends, op(kind, 0, 0, 0))
	}
	for _, i := range ends {
		finds(t, fmt.Sprint("last is ", i), program(3, fence(), i), bound(1))
		finds(t, fmt.Sprint("not last is ", i), program(3, fence(), i, halt(0)), ok())
	}
	finds(t, "alone", program(3, fence()), bound(0))
	finds(t, "an if alone", program(3, when(0, api.CondSame, 0, 0)), bound(0))
	finds(t, "last is IHalt", program(3, fence(), halt(7)), ok())
	finds(t, "last is IJump", program(3, fence(), jump(0)), ok())
	finds(t, "last is IJump to itself", program(3, fence(), jump(1)), ok())
	finds(t, "the 200th", program(3, slices.Repeat([]api.Ins{fence()}, 200)...), bound(199))
}

// reaches makes an ILoad and an IPut with the index of the register 1 and n.
func reaches(n int64) []api.Ins { return []api.Ins{load(2, 1, asked, n), put(2, 1, asked, n)} }

func TestF2AsManyBitsAsTheLogAndOneMore(t *testing.T) {
	for log := range api.MaxLog + 1 {
		for bits := range more + 1 {
			for _, i := range reaches(0) {
				want := ok()
				if bits > log {
					want = bound(3)
				}
				code := become(1, public(bits))
				for len(code) < 3 {
					code = append(code, fence())
				}
				finds(t, fmt.Sprintf("%d bits, Log %d: %v", bits, log, i), program(log, append(code, i, halt(0))...), want)
			}
		}
	}
}

func TestF2IndexAndNTogether(t *testing.T) {
	for _, c := range []struct {
		log, bits int
		n         int64
		fits      bool
	}{
		{0, 0, 0, true},
		{0, 0, 1, false},
		{0, 1, 0, false},
		{1, 0, 1, true},
		{1, 0, 2, false},
		{1, 1, 0, true},
		{1, 1, 1, false},
		{3, 0, 7, true},
		{3, 0, 8, false},
		{3, 2, 3, true},
		{3, 2, 4, false}, // 3 + 4 would be there, but two numbers of 3 bits together have 4
		{3, 3, 1, false},
		{4, 3, 7, true},
		{4, 3, 8, false},
		{6, 0, 63, true},
		{6, 0, 64, false},
		{6, 5, 31, true},
		{6, 5, 32, false},
		{6, 6, 0, true},
		{6, 6, 1, false},
		{6, more, 0, false},
		{6, more, -1, false},
		{6, 0, -1, false},
		{6, 3, -1, false},
		{6, 5, -64, false},
		{6, 0, least, false},
		{6, 0, greatest, false},
		{6, 0, 65535, false},
		{6, 0, 65536, false},
		{6, 0, 1 << 32, false},
		{0, 0, -1, false},
	} {
		for _, i := range reaches(c.n) {
			code := append(become(1, public(c.bits)), i, halt(0))
			want := ok()
			if !c.fits {
				want = bound(len(code) - 2)
			}
			finds(t, fmt.Sprint(c, i), program(c.log, code...), want)
		}
	}
}

func TestF2TheRegionThatIsMeant(t *testing.T) {
	regions := []api.Region{{Log: 2}, {Log: 5, Secret: true}, {Log: 0}, {Log: 6}, {Log: 1, Secret: true}, {Log: 4}}
	for c, region := range regions {
		for _, n := range []int64{0, 1, 2, 3, 4, 7, 8, 15, 16, 31, 32, 63, 64} {
			for _, i := range []api.Ins{load(1, 0, c, n), put(1, 0, c, n)} {
				want := ok()
				if n >= 1<<region.Log {
					want = bound(0)
				}
				finds(t, fmt.Sprint(i), api.Program{Regions: regions, Code: []api.Ins{i, halt(0)}}, want)
			}
		}
	}
}

func TestF2EachSecretAlone(t *testing.T) {
	// Each of these has one secret, the register 1; register 2 is public.
	alone := map[string]api.Ins{
		"B's of an ILoad, public":      load(3, 1, asked, 0),
		"B's of an ILoad, secret":      load(3, 1, hidden, 0),
		"B's of an IPut, public":       put(2, 1, asked, 0),
		"B's of an IPut, secret":       put(2, 1, hidden, 0),
		"A's of an IPut, public":       put(1, 2, asked, 0),
		"A's of an IPutK, public":      putK(1, asked, 0),
		"A's of an IIf, same":          when(1, api.CondSame, 2, 0),
		"B's of an IIf, same":          when(2, api.CondSame, 1, 0),
		"A's of an IIf, other":         when(1, api.CondOther, 2, 0),
		"B's of an IIf, other":         when(2, api.CondOther, 1, 0),
		"A's of an IIf, less":          when(1, api.CondLess, 2, 0),
		"B's of an IIf, less":          when(2, api.CondLess, 1, 0),
		"A's of an IIf, most":          when(1, api.CondMost, 2, 0),
		"B's of an IIf, most":          when(2, api.CondMost, 1, 0),
		"one register of an IIf":       when(1, api.CondSame, 1, 0),
		"both ways of an IIf the same": when(1, api.CondSame, 2, 5),
		"B's of OpDiv":                 op(api.OpDiv, 3, 1, 2),
		"C's of OpDiv":                 op(api.OpDiv, 3, 2, 1),
		"B's of OpMod":                 op(api.OpMod, 3, 1, 2),
		"C's of OpMod":                 op(api.OpMod, 3, 2, 1),
		"A's of an IHalt":              halt(1),
	}
	for name, i := range alone {
		code := join(become(1, secret(3)), become(2, public(3)), []api.Ins{i, halt(0)})
		finds(t, name, program(3, code...), label(4))
		finds(t, name+", a secret of 0 bits", program(3, join(become(1, secret(0)), become(2, public(3)), []api.Ins{i, halt(0)})...), label(4))
		finds(t, name+", no secret", program(3, join(become(1, public(3)), become(2, public(3)), []api.Ins{i, halt(0)})...), ok())
	}
}

func TestF2SecretsThatMayBe(t *testing.T) {
	// Register 1 is a secret, and all these may have it so.
	may := []api.Ins{
		set(1, 3), move(3, 1), move(1, 2), add(3, 1, 5), add(1, 2, 5), mask(1, 5), fence(), jump(5),
		load(1, 2, asked, 0), load(1, 2, hidden, 0), loadK(1, asked, 0), loadK(1, hidden, 0),
		put(1, 2, hidden, 0), putK(1, hidden, 0), when(2, api.CondSame, 3, 0),
		op(api.OpDiv, 1, 2, 3), op(api.OpMod, 1, 2, 3), // A's is what becomes, not what is divided
	}
	for _, kind := range ops {
		if kind != api.OpDiv && kind != api.OpMod {
			may = append(may, op(kind, 3, 1, 2), op(kind, 3, 2, 1), op(kind, 1, 1, 1))
		}
	}
	for _, i := range may {
		code := join(become(1, secret(3)), become(2, public(3)), []api.Ins{i, halt(0)})
		finds(t, fmt.Sprint(i), program(3, code...), ok())
	}
}

func TestF2BoundIsToldAheadOfLabel(t *testing.T) {
	for name, i := range map[string]api.Ins{
		"a secret index that may not be there, taken":    load(2, 1, asked, 0),
		"a secret index that may not be there, put":      put(2, 1, asked, 0),
		"a secret put to where it may not be":            put(1, 3, asked, 0),
		"a secret put to where N below 0 says":           put(1, 0, asked, -1),
		"a secret index that may not be there, a secret": put(1, 1, hidden, 0),
	} {
		finds(t, name, program(3, loadK(1, hidden, 0), loadK(3, open, 0), i, halt(0)), bound(2))
	}
	for _, i := range []api.Ins{
		when(1, api.CondLess, 1, 0), putK(1, open, 0), op(api.OpDiv, 2, 1, 1), op(api.OpMod, 2, 1, 1), load(2, 1, asked, 0),
	} {
		finds(t, fmt.Sprint("last, and a secret: ", i), program(3, loadK(1, hidden, 0), mask(1, 8), i), bound(2))
		finds(t, fmt.Sprint("not last, and a secret: ", i), program(3, loadK(1, hidden, 0), mask(1, 8), i, halt(0)), label(2))
	}
}

func TestF2TheFirstByNumberIsTold(t *testing.T) {
	finds(t, "label, bound", program(3, loadK(1, hidden, 0), putK(1, open, 0), load(2, 0, asked, 8), halt(0)), label(1))
	finds(t, "bound, label", program(3, loadK(1, hidden, 0), load(2, 0, asked, 8), putK(1, open, 0), halt(0)), bound(1))
	finds(t, "label, label", program(3, loadK(1, hidden, 0), putK(1, open, 0), halt(1)), label(1))
	finds(t, "bound, last", program(3, load(2, 0, asked, 8), fence()), bound(0))
	// The one that is done later has the lower number.
	finds(t, "done later", program(3, jump(2), halt(1), loadK(1, hidden, 0), load(2, 0, asked, 8), jump(1)), label(1))
	finds(t, "done later, bound", program(3, jump(3), load(2, 0, asked, 8), halt(0), loadK(1, hidden, 0), putK(1, open, 0), jump(1)), bound(1))
	// A fault does not keep what is behind it from being looked at, nor what leads back from it.
	finds(t, "led back from a fault", program(3, load(3, 2, asked, 0), loadK(1, hidden, 0), when(1, api.CondSame, 1, 4), halt(0), loadK(2, open, 0), jump(0)), bound(0))
}

func TestF2OKIsToldAt0(t *testing.T) {
	if got := Check(program(3, fence(), fence(), halt(0))); got.Code != api.OK || got.At != 0 {
		t.Error(got)
	}
}

// backwards has its blocks laid from the last to the first one: each leads to the one ahead of it.
func backwards(first api.Ins, blocks int) []api.Ins {
	code := []api.Ins{jump(int64(2*blocks) + 2), halt(7)}
	for b := range blocks {
		code = append(code, add(b%7, b%7+1, 0), jump(int64(2*b)))
	}
	code[3].N = 1
	return append(code, first, jump(int64(2*blocks)))
}

func TestF2TwoHundredInstructionsBackwards(t *testing.T) {
	code := backwards(loadK(7, hidden, 0), 98)
	if len(code) != api.MaxCode {
		t.Fatal(len(code))
	}
	finds(t, "a secret from the far end", program(3, code...), label(1))
	finds(t, "a public word from the far end", program(3, backwards(loadK(7, open, 0), 98)...), ok())
}

// allBack counts up in each register, and goes back to the first one behind each.
func allBack() []api.Ins {
	var code []api.Ins
	for len(code) < api.MaxCode-2 {
		r := len(code) / 2 % 7
		code = append(code, add(r, r+1, 0), when(r, api.CondOther, r+1, int64(len(code))/3))
	}
	return code
}

func TestF2TwoHundredInstructionsWithJumpsBack(t *testing.T) {
	finds(t, "the secret does not come back", program(3, append(allBack(), loadK(7, hidden, 0), halt(0))...), ok())
	code := append(allBack(), loadK(7, hidden, 0), jump(0))
	finds(t, "a secret comes back to all", program(3, code...), label(1))
	code[198] = add(7, 7, 1)
	finds(t, "a number grows on and on", program(3, code...), ok())
	code[20] = load(0, 1, asked, 0)
	finds(t, "a number grows on and on, and is an index", program(3, code...), bound(20))
	code[198] = set(7, 7)
	finds(t, "a number comes back", program(3, code...), ok())
	code[198] = set(7, 8)
	finds(t, "a greater one comes back", program(3, code...), bound(20))
}

// growing has registers that grow by the one behind them in each round, until they may be any; last ends each round but for the way back.
func growing(last ...api.Ins) []api.Ins {
	var code []api.Ins
	for r := range api.Regs - 1 {
		code = append(code, op(api.OpAdd, r, r, r+1))
	}
	for len(code)+len(last) < api.MaxCode-1 {
		code = append(code, when(0, api.CondSame, 0, 0))
	}
	return append(append(code, last...), jump(0))
}

func TestF2ManyRoundsToTheEnd(t *testing.T) {
	code := growing(put(1, 0, asked, 0), set(7, 1))
	finds(t, "grown", program(6, code...), bound(197))
	code = growing(put(1, 0, asked, 0), set(7, 0))
	finds(t, "nothing to grow by", program(0, code...), ok())
	code = growing(loadK(6, hidden, 0), op(api.OpXor, 7, 6, 6))
	finds(t, "a secret of all", program(6, code...), label(7))
	code = growing(loadK(6, open, 0), op(api.OpXor, 7, 6, 6))
	finds(t, "no secret", program(6, code...), ok())
}

func TestP3NothingIsChangedOrRead(t *testing.T) {
	// Behind the lists' lengths lie a region and instructions that would be wrong.
	regions := []api.Region{{Log: 3}, {Log: 2, Secret: true}, {Log: 99}}
	code := []api.Ins{loadK(1, 0, 7), mask(1, 4), load(2, 1, 1, 0), put(2, 1, 1, 0), halt(1), {Op: 77}, halt(2)}
	wantRegions, wantCode := slices.Clone(regions), slices.Clone(code)
	p := api.Program{Regions: regions[:2], Code: code[:5]}
	for range 2 {
		finds(t, "with more behind", p, ok())
	}
	if !reflect.DeepEqual(regions, wantRegions) || !reflect.DeepEqual(code, wantCode) {
		t.Error("the lists were changed")
	}
}
