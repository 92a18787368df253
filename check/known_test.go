package check

import (
	"fmt"
	"testing"

	"evenkeel/api"
	"evenkeel/known"
)

func TestF1AtFirstAllRegistersAre0(t *testing.T) {
	for r := range api.Regs {
		knows(t, "nothing done", nil, r, public(0))
	}
}

type knownCase struct {
	name string
	code []api.Ins
	r    int
	want api.Known
}

func tryKnown(t *testing.T, cases []knownCase) {
	t.Helper()
	for _, c := range cases {
		knows(t, c.name, c.code, c.r, c.want)
	}
}

func TestF1Set(t *testing.T) {
	for n, bits := range map[int64]int{
		0: 0, 1: 1, 2: 2, 3: 2, 4: 3, 7: 3, 8: 4, 15: 4, 16: 5, 31: 5, 32: 6, 63: 6,
		64: more, 65535: more, 65536: more, greatest: more, -1: more, -64: more, least: more,
	} {
		knows(t, fmt.Sprint("set ", n), []api.Ins{set(3, n)}, 3, public(bits))
	}
	tryKnown(t, []knownCase{
		{"over a secret", []api.Ins{loadK(3, hidden, 0), set(3, 5)}, 3, public(3)},
		{"the last one holds", []api.Ins{set(3, 60), set(3, 1)}, 3, public(1)},
	})
}

func TestF1Move(t *testing.T) {
	for _, k := range allKnown() {
		code := append(become(2, k), loadK(5, hidden, 0), move(5, 2))
		knows(t, fmt.Sprint("moved ", k), code, 5, k)
		knows(t, fmt.Sprint("moved ahead ", k), code, 2, k)
		knows(t, fmt.Sprint("moved to itself ", k), append(become(2, k), move(2, 2)), 2, k)
	}
}

func TestF1Add(t *testing.T) {
	for _, c := range []struct {
		k    api.Known
		n    int64
		want api.Known
	}{
		{public(3), 0, public(3)},
		{public(0), 0, public(0)},
		{public(0), 5, public(3)},
		{public(0), 63, public(6)},
		{public(3), 1, public(4)},
		{public(3), 7, public(4)},
		{public(3), 8, public(5)},
		{public(2), 31, public(6)},
		{public(5), 1, public(6)},
		{public(6), 1, public(more)},
		{public(6), 0, public(6)},
		{public(0), 64, public(more)},
		{public(0), greatest, public(more)},
		{public(0), -1, public(more)},
		{public(3), -1, public(more)},
		{public(3), least, public(more)},
		{public(more), 0, public(more)},
		{public(more), -5, public(more)},
		{secret(3), 0, secret(3)},
		{secret(3), 1, secret(4)},
		{secret(0), 5, secret(3)},
		{secret(0), -1, secret(more)},
		{secret(3), -1, secret(more)},
		{secret(more), 1, secret(more)},
	} {
		name := fmt.Sprintf("%v and %d", c.k, c.n)
		code := append(become(2, c.k), loadK(5, hidden, 0), add(5, 2, c.n))
		knows(t, name, code, 5, c.want)
		knows(t, name+", B", code, 2, c.k)
		knows(t, name+", one register", append(become(2, c.k), add(2, 2, c.n)), 2, c.want)
	}
}

func TestF1OpsByHand(t *testing.T) {
	for _, c := range []struct {
		op, b, c, want int
	}{
		{api.OpAdd, 3, 3, 4},
		{api.OpAdd, 3, 0, 3},
		{api.OpAdd, 0, 3, 3},
		{api.OpAdd, 6, 1, more},
		{api.OpSub, 3, 3, more},
		{api.OpSub, 0, 0, more},
		{api.OpMul, 2, 3, 5},
		{api.OpMul, 4, 3, more},
		{api.OpMul, more, 0, 0},
		{api.OpMul, 0, more, 0},
		{api.OpAnd, 2, 5, 2},
		{api.OpAnd, 5, 2, 2},
		{api.OpAnd, more, 4, 4},
		{api.OpAnd, more, more, more},
		{api.OpOr, 2, 5, 5},
		{api.OpOr, 5, 2, 5},
		{api.OpOr, more, 2, more},
		{api.OpXor, 2, 5, 5},
		{api.OpXor, 5, 2, 5},
		{api.OpXor, 2, more, more},
		{api.OpShl, 1, 1, more},
		{api.OpShl, 0, 0, more},
		{api.OpShr, 5, 2, 5},
		{api.OpShr, 2, more, 2},
		{api.OpShr, more, 2, more},
		{api.OpDiv, 5, 2, 5},
		{api.OpDiv, 2, more, 2},
		{api.OpDiv, more, 2, more},
		{api.OpMod, 5, 2, 5},
		{api.OpMod, 2, more, 2},
		{api.OpMod, more, 2, more},
	} {
		code := join(become(1, public(c.b)), become(2, public(c.c)), []api.Ins{op(c.op, 3, 1, 2)})
		knows(t, fmt.Sprint(c), code, 3, public(c.want))
	}
}

// whole gives k with the Bits that stand for more.
func whole(k api.Known) api.Known {
	if k.Bits >= more {
		k.Bits = 17
	}
	return k
}

// cut gives k as it can be seen.
func cut(k api.Known) api.Known {
	k.Bits = min(k.Bits, more)
	return k
}

func TestF1OpsOfAllThatIsKnown(t *testing.T) {
	for _, kind := range ops {
		for _, b := range allKnown() {
			for _, c := range allKnown() {
				name := fmt.Sprintf("op %d of %v and %v", kind, b, c)
				code := join(become(1, b), become(2, c))
				want := cut(known.Op(kind, whole(b), whole(c)))
				knows(t, name, append(code, op(kind, 3, 1, 2)), 3, want)
				knows(t, name+", A is B", append(code, op(kind, 1, 1, 2)), 1, want)
				knows(t, name+", A is C", append(code, op(kind, 2, 1, 2)), 2, want)
			}
		}
	}
}

func TestF1OpsOfOneRegister(t *testing.T) {
	for _, kind := range ops {
		for _, k := range allKnown() {
			want := cut(known.Op(kind, whole(k), whole(k)))
			knows(t, fmt.Sprintf("op %d of %v twice", kind, k), append(become(4, k), op(kind, 4, 4, 4)), 4, want)
		}
	}
}

func TestF1Loads(t *testing.T) {
	tryKnown(t, []knownCase{
		{"a public word", []api.Ins{loadK(3, open, 63)}, 3, public(more)},
		{"a secret word", []api.Ins{loadK(3, hidden, 63)}, 3, secret(more)},
		{"a public word over a secret", []api.Ins{loadK(3, hidden, 1), loadK(3, open, 1)}, 3, public(more)},
		{"a secret word over a public one", []api.Ins{set(3, 1), loadK(3, hidden, 1)}, 3, secret(more)},
		{"a public word by an index", []api.Ins{load(3, 1, open, 5)}, 3, public(more)},
		{"a secret word by an index", []api.Ins{load(3, 1, hidden, 5)}, 3, secret(more)},
		{"the index itself becomes the word", []api.Ins{set(3, 1), load(3, 3, hidden, 5)}, 3, secret(more)},
		{"the index stays", []api.Ins{set(1, 1), load(3, 1, hidden, 5)}, 1, public(1)},
		{"a public word by a secret index", []api.Ins{loadK(1, hidden, 0), load(3, 1, open, 0)}, 3, public(more)},
		{"a word that may not be there", []api.Ins{load(3, 1, hidden, -1)}, 3, secret(more)},
		{"a public word that may not be there", []api.Ins{load(3, 1, open, 64)}, 3, public(more)},
	})
}

func TestF1LoadOfASmallRegion(t *testing.T) {
	// Behind a load from the region that is asked, too, a word may be any: its Log says nothing of its words.
	finds(t, "of one word", program(0, load(1, 0, asked, 0), load(2, 1, asked, 0), halt(0)), bound(1))
	finds(t, "of one word, by its number", program(0, loadK(1, asked, 0), load(2, 1, asked, 0), halt(0)), bound(1))
}

// maskBits is how many Bits the greatest number below n has.
func maskBits(n int64) int {
	bits := 0
	for int64(1)<<bits < n {
		bits++
	}
	return bits
}

func TestF1Masks(t *testing.T) {
	byHand := map[int64]int{1: 0, 2: 1, 3: 2, 4: 2, 5: 3, 8: 3, 9: 4, 16: 4, 17: 5, 32: 5, 33: 6, 63: 6, 64: 6}
	for n := int64(1); n <= 64; n++ {
		if want, there := byHand[n]; there && want != maskBits(n) {
			t.Fatalf("%d: %d and %d", n, want, maskBits(n))
		}
		for _, k := range allKnown() {
			want := api.Known{Bits: min(k.Bits, maskBits(n)), Secret: k.Secret}
			knows(t, fmt.Sprintf("%v masked by %d", k, n), append(become(6, k), mask(6, n)), 6, want)
		}
	}
}

func TestF1AllElseIsAsItWas(t *testing.T) {
	ahead, all := mixed()
	changes := []api.Ins{
		set(4, 3), move(4, 1), add(4, 2, 7), load(4, 1, hidden, 0), load(4, 1, open, 0), loadK(4, hidden, 0), mask(4, 3),
	}
	for _, kind := range ops {
		changes = append(changes, op(kind, 4, 1, 2))
	}
	for _, i := range changes {
		for r, k := range all {
			if r != 4 {
				knows(t, fmt.Sprint(i), append(join(ahead), i), r, k)
			}
		}
	}
	nothing := []api.Ins{
		put(3, 1, open, 0), put(4, 2, hidden, 0), put(4, 4, open, -1), putK(3, open, 0), putK(4, hidden, 0), fence(),
		jump(int64(len(ahead)) + 1),
	}
	for _, i := range nothing {
		for r, k := range all {
			knows(t, fmt.Sprint(i), append(join(ahead), i), r, k)
		}
	}
}

// holding comes to its end where the condition holds.
func holding(ahead []api.Ins, a, cond, b int) []api.Ins {
	at := int64(len(ahead))
	return append(join(ahead), when(a, cond, b, at+2), jump(at+1))
}

// failing comes to its end where the condition does not hold.
func failing(ahead []api.Ins, a, cond, b int) []api.Ins {
	at := int64(len(ahead))
	return append(join(ahead), when(a, cond, b, at+2), jump(at+3), jump(at+2))
}

// merging comes to its end on both ways.
func merging(ahead []api.Ins, a, cond, b int) []api.Ins {
	return append(join(ahead), when(a, cond, b, int64(len(ahead))+1))
}

func lessOf(k, other api.Known) api.Known {
	return api.Known{Bits: min(k.Bits, other.Bits), Secret: k.Secret}
}

// changes says by the chapter's words whether A's and B's become less.
func changes(cond int, holds bool) (a, b bool) {
	switch {
	case cond == api.CondSame && holds, cond == api.CondOther && !holds:
		return true, true
	case cond == api.CondLess && holds, cond == api.CondMost && !holds:
		return true, false
	case cond == api.CondLess && !holds, cond == api.CondMost && holds:
		return false, true
	}
	return false, false
}

func TestF1IfByHand(t *testing.T) {
	ahead := join(become(1, public(more)), become(2, public(3)))
	swapped := join(become(1, public(3)), become(2, public(more)))
	for _, c := range []struct {
		cond                   int
		holds, fails           [2]int
		swapHolds, swapFails   [2]int
		mergedBits, swapMerged [2]int
	}{
		{api.CondSame, [2]int{3, 3}, [2]int{more, 3}, [2]int{3, 3}, [2]int{3, more}, [2]int{more, 3}, [2]int{3, more}},
		{api.CondOther, [2]int{more, 3}, [2]int{3, 3}, [2]int{3, more}, [2]int{3, 3}, [2]int{more, 3}, [2]int{3, more}},
		{api.CondLess, [2]int{3, 3}, [2]int{more, 3}, [2]int{3, more}, [2]int{3, 3}, [2]int{more, 3}, [2]int{3, more}},
		{api.CondMost, [2]int{more, 3}, [2]int{3, 3}, [2]int{3, 3}, [2]int{3, more}, [2]int{more, 3}, [2]int{3, more}},
	} {
		for at, r := range []int{1, 2} {
			name := fmt.Sprint("condition ", c.cond)
			knows(t, name+" holds", holding(ahead, 1, c.cond, 2), r, public(c.holds[at]))
			knows(t, name+" fails", failing(ahead, 1, c.cond, 2), r, public(c.fails[at]))
			knows(t, name+" merged", merging(ahead, 1, c.cond, 2), r, public(c.mergedBits[at]))
			knows(t, name+" holds, swapped", holding(swapped, 1, c.cond, 2), r, public(c.swapHolds[at]))
			knows(t, name+" fails, swapped", failing(swapped, 1, c.cond, 2), r, public(c.swapFails[at]))
			knows(t, name+" merged, swapped", merging(swapped, 1, c.cond, 2), r, public(c.swapMerged[at]))
		}
	}
}

func TestF1IfOfAllThatIsKnown(t *testing.T) {
	for _, cond := range conds {
		for _, a := range allKnown() {
			for _, b := range allKnown() {
				ahead := join(become(5, a), become(2, b))
				for _, holds := range []bool{true, false} {
					code := failing(ahead, 5, cond, 2)
					if holds {
						code = holding(ahead, 5, cond, 2)
					}
					wantA, wantB := a, b
					lessA, lessB := changes(cond, holds)
					if lessA {
						wantA = lessOf(a, b)
					}
					if lessB {
						wantB = lessOf(b, a)
					}
					name := fmt.Sprintf("condition %d of %v and %v, holds: %v", cond, a, b, holds)
					knows(t, name, code, 5, wantA)
					knows(t, name, code, 2, wantB)
				}
			}
		}
	}
}

func TestF1IfOfOneRegister(t *testing.T) {
	for _, cond := range conds {
		for _, k := range allKnown() {
			name := fmt.Sprintf("condition %d of %v twice", cond, k)
			knows(t, name, holding(become(3, k), 3, cond, 3), 3, k)
			knows(t, name, failing(become(3, k), 3, cond, 3), 3, k)
		}
	}
}

func TestF1IfLeavesAllElse(t *testing.T) {
	ahead, all := mixed()
	for _, cond := range conds {
		for r, k := range all {
			if r != 3 && r != 1 {
				knows(t, "where it holds", holding(ahead, 3, cond, 1), r, k)
				knows(t, "where it does not", failing(ahead, 3, cond, 1), r, k)
			}
		}
	}
}

func TestF1BothWaysOfAnIfAlwaysLeadOn(t *testing.T) {
	// Registers 1 and 2 are 0, so the condition always holds, or never; both ways are come to all the same.
	for _, cond := range conds {
		finds(t, "at N", program(0, when(1, cond, 2, 2), halt(0), load(3, 0, asked, -1), halt(0)), bound(2))
		finds(t, "at the next one", program(0, when(1, cond, 2, 2), load(3, 0, asked, -1), halt(0)), bound(1))
	}
}

// eitherWay comes to its end with k, or with other, in the register 3.
func eitherWay(k, other api.Known) []api.Ins {
	one, two := become(3, k), become(3, other)
	to := int64(len(one)) + 2
	return join([]api.Ins{when(1, api.CondSame, 2, to)}, one, []api.Ins{jump(to + int64(len(two)))}, two)
}

func TestF1WhatLeadsThereIsJoined(t *testing.T) {
	for _, k := range allKnown() {
		for _, other := range allKnown() {
			want := api.Known{Bits: max(k.Bits, other.Bits), Secret: k.Secret || other.Secret}
			knows(t, fmt.Sprintf("%v or %v", k, other), eitherWay(k, other), 3, want)
		}
	}
}

func TestF1Loops(t *testing.T) {
	counted := []api.Ins{set(2, 8), add(1, 1, 1), when(1, api.CondLess, 2, 1)}
	within := []api.Ins{set(2, 8), when(1, api.CondMost, 2, 4), add(1, 1, 1), jump(1)}
	tryKnown(t, []knownCase{
		{"counted to a bound, behind it", counted, 1, public(5)},
		{"the bound behind it", counted, 2, public(4)},
		{"counted while less, behind it", within, 1, public(5)},
		{"counted until it is the bound", []api.Ins{set(2, 8), add(1, 1, 1), when(1, api.CondOther, 2, 1)}, 1, public(4)},
		{"counted without a bound", []api.Ins{add(1, 1, 1), when(3, api.CondSame, 4, 0)}, 1, public(more)},
		{"nothing grows", []api.Ins{add(1, 1, 0), when(3, api.CondSame, 4, 0)}, 1, public(0)},
		{"masked each time", []api.Ins{add(1, 1, 1), mask(1, 16), when(3, api.CondSame, 4, 0)}, 1, public(4)},
		{"made greater by or", []api.Ins{set(2, 20), op(api.OpOr, 1, 1, 2), when(3, api.CondSame, 4, 1)}, 1, public(5)},
		{"doubled each time", []api.Ins{set(1, 1), op(api.OpAdd, 1, 1, 1), when(3, api.CondSame, 4, 1)}, 1, public(more)},
		{"times a number of one bit", []api.Ins{set(1, 1), set(2, 1), op(api.OpMul, 1, 1, 2), when(3, api.CondSame, 4, 2)}, 1, public(more)},
		{"times a number of no bits", []api.Ins{set(1, 9), op(api.OpMul, 1, 1, 2), when(3, api.CondSame, 4, 1)}, 1, public(0)},
		{"shifted down stays", []api.Ins{set(1, 9), set(2, 1), op(api.OpShr, 1, 1, 2), when(3, api.CondSame, 4, 2)}, 1, public(4)},
	})
	// Within the loop a number is known by what is below the bound.
	inside := append(join(within[:2]), load(5, 1, asked, 0), add(1, 1, 1), jump(1), halt(0))
	inside[1].N = 5
	finds(t, "within, 4 bits", program(4, inside...), ok())
	finds(t, "within, 3 bits", program(3, inside...), bound(2))
}

// handed hands on what comes into register 7 through all others, one register a round.
func handed(into ...api.Ins) []api.Ins {
	var code []api.Ins
	for r := range api.Regs - 1 {
		code = append(code, move(r, r+1))
	}
	code = append(code, into...)
	return append(code, when(7, api.CondOther, 7, 0))
}

func TestF1LoopsHandOnThroughAllRegisters(t *testing.T) {
	for _, k := range allKnown() {
		code := handed(become(7, k)...)
		for r := range api.Regs {
			knows(t, fmt.Sprint("handed on ", k), code, r, k)
		}
	}
}

func TestF1BackToTheFirstOne(t *testing.T) {
	finds(t, "a greater number", program(3, load(2, 1, asked, 0), set(1, 8), jump(0)), bound(0))
	finds(t, "not a greater one", program(3, load(2, 1, asked, 0), set(1, 7), jump(0)), ok())
	finds(t, "a secret", program(6, when(1, api.CondSame, 1, 1), loadK(1, hidden, 0), jump(0)), label(0))
	finds(t, "a public word", program(6, when(1, api.CondSame, 1, 1), loadK(1, open, 0), jump(0)), ok())
}

func TestF1TheFirstOneIsJoinedToWhatWasKnown(t *testing.T) {
	// What leads back masks register 1 to 1 bit; at first it is 0: both together are 1 bit, not 0.
	finds(t, "1 bit", program(1, load(2, 1, asked, 0), loadK(1, open, 0), mask(1, 2), jump(0)), ok())
	finds(t, "0 bits", program(0, load(2, 1, asked, 0), loadK(1, open, 0), mask(1, 2), jump(0)), bound(0))
}

func TestF1TheLeastStates(t *testing.T) {
	// A loop that only moves would hold with any more known of its registers, too.
	code := []api.Ins{move(1, 2), move(2, 1), when(1, api.CondSame, 2, 0)}
	for r := range api.Regs {
		knows(t, "moved to and fro", code, r, public(0))
	}
	// What nothing leads to joins nothing.
	dead := []api.Ins{jump(3), loadK(1, hidden, 0), jump(3), fence()}
	knows(t, "nothing leads there", dead, 1, public(0))
	around := []api.Ins{jump(4), loadK(1, hidden, 0), when(1, api.CondSame, 1, 1), jump(4), fence()}
	knows(t, "only itself leads there", around, 1, public(0))
}

func TestF1ExampleOfTheChapter(t *testing.T) {
	finds(t, "masked", program(5, loadK(1, open, 0), mask(1, 32), load(2, 1, asked, 0), halt(2)), ok())
	finds(t, "not masked", program(5, loadK(1, open, 0), fence(), load(2, 1, asked, 0), halt(2)), bound(2))
}
