package word

import (
	"math"
	"slices"
	"testing"

	"evenkeel/api"
)

const (
	least    = math.MinInt64
	greatest = math.MaxInt64
)

const greatestWord = math.MaxUint32

// kinds has all Ops that there are.
func kinds() []int {
	out := []int{
		api.ISet, api.IMove, api.ILoad, api.IPut, api.ILoadK, api.IPutK,
		api.IJump, api.IIf, api.IHalt, api.IAdd, api.IMask, api.IFence,
	}
	for op := api.OpAdd; op <= api.OpMod; op++ {
		out = append(out, api.IOp+op)
	}
	return out
}

func set(a int, n int64) api.Ins { return api.Ins{Op: api.ISet, A: a, N: n} }

func halt(a int) api.Ins { return api.Ins{Op: api.IHalt, A: a} }

// sixRegions has MaxRegions of them, the last one with as many words as may be.
func sixRegions() []api.Region {
	return []api.Region{{Log: 6}, {Secret: true}, {Log: 1}, {Log: 3, Secret: true}, {Log: 0}, {Log: 6, Secret: true}}
}

func copied(p api.Program) api.Program {
	return api.Program{Regions: slices.Clone(p.Regions), Code: slices.Clone(p.Code)}
}

func equal(p, q api.Program) bool {
	return slices.Equal(p.Regions, q.Regions) && slices.Equal(p.Code, q.Code)
}

// plainWord tells the word of i another way: by sums, as the chapter tells its example.
func plainWord(i api.Ins) uint32 {
	n := i.N
	if n < 0 {
		n += 16384
	}
	return uint32((((int64(i.Op)*16+int64(i.A))*16+int64(i.B))*16+int64(i.C))*16384 + n)
}

// plainIns tells the instruction of w another way: by what is left over.
func plainIns(w uint32) api.Ins {
	n := int64(w % 16384)
	if n >= 8192 {
		n -= 16384
	}
	w /= 16384
	return api.Ins{Op: int(w / 4096), A: int(w / 256 % 16), B: int(w / 16 % 16), C: int(w % 16), N: n}
}

func plainWords(code []api.Ins) []uint32 {
	out := []uint32{}
	for _, i := range code {
		out = append(out, plainWord(i))
	}
	return out
}

// putsAs sees that Put of p answers those words, and changes nothing.
func putsAs(t *testing.T, name string, p api.Program, want []uint32) {
	t.Helper()
	before := copied(p)
	words, fault := Put(p)
	if fault != (api.Fault{}) || !slices.Equal(words, want) {
		t.Fatalf("%s: Put answers %v, %v; want %v; of %v", name, words, fault, want, p)
	}
	if !equal(p, before) {
		t.Fatalf("%s: Put has changed what was handed in", name)
	}
}

// getsAs sees that Get of the words and of the regions of want answers want, and changes nothing.
func getsAs(t *testing.T, name string, words []uint32, want api.Program) {
	t.Helper()
	regions, before := slices.Clone(want.Regions), slices.Clone(words)
	p, fault := Get(regions, words)
	if fault != (api.Fault{}) || !equal(p, want) {
		t.Fatalf("%s: Get answers %v, %v; want %v; of %v", name, p, fault, want, words)
	}
	if !slices.Equal(regions, want.Regions) || !slices.Equal(words, before) {
		t.Fatalf("%s: Get has changed what was handed in", name)
	}
}

// bothWays sees that p and the words are each other, as H3 says.
func bothWays(t *testing.T, name string, p api.Program, words []uint32) {
	t.Helper()
	putsAs(t, name, p, words)
	getsAs(t, name, words, p)
}

// putFails sees that Put of p answers the fault alone, and changes nothing.
func putFails(t *testing.T, name string, p api.Program, want api.Fault) {
	t.Helper()
	before := copied(p)
	words, fault := Put(p)
	if fault != want || len(words) != 0 {
		t.Fatalf("%s: Put answers %v and %d words; want %v alone", name, fault, len(words), want)
	}
	if !equal(p, before) {
		t.Fatalf("%s: Put has changed what was handed in", name)
	}
}

// getFails sees that Get answers ErrForm at 0 alone, and changes nothing.
func getFails(t *testing.T, name string, regions []api.Region, words []uint32) {
	t.Helper()
	regionsBefore, before := slices.Clone(regions), slices.Clone(words)
	p, fault := Get(regions, words)
	if fault != (api.Fault{Code: api.ErrForm}) || len(p.Regions) != 0 || len(p.Code) != 0 {
		t.Fatalf("%s: Get answers %v and %v; want ErrForm at 0 alone; of %v, %v", name, fault, p, regions, words)
	}
	if !slices.Equal(regions, regionsBefore) || !slices.Equal(words, before) {
		t.Fatalf("%s: Get has changed what was handed in", name)
	}
}
