package known

import (
	"math"
	"testing"

	"evenkeel/api"
)

const (
	least    = math.MinInt64
	greatest = math.MaxInt64
)

var ops = []int{
	api.OpAdd, api.OpSub, api.OpMul, api.OpAnd, api.OpOr, api.OpXor,
	api.OpShl, api.OpShr, api.OpDiv, api.OpMod,
}

var noOps = []int{
	0, -1, -api.OpAdd, api.OpMod + 1, api.IOp, api.IOp + api.OpAdd, api.IOp + api.OpMod,
	256 + api.OpAdd, 1<<32 + api.OpMul, math.MinInt, math.MaxInt,
}

// strange are Bits that count as 17.
var strange = []int{-1, -2, -16, -17, 18, 19, 32, 33, 64, 65, 256, 1<<32 + 3, -1 << 40, math.MinInt, math.MaxInt}

var labels = []bool{false, true}

// anyCount has all Bits from 0 to 17, and strange ones.
func anyCount() []int {
	var out []int
	for count := range 18 {
		out = append(out, count)
	}
	return append(out, strange...)
}

func public(count int) api.Known { return api.Known{Bits: count} }

func secret(count int) api.Known { return api.Known{Bits: count, Secret: true} }

// usual gives k with 17 in place of strange Bits.
func usual(k api.Known) api.Known {
	for _, count := range strange {
		if k.Bits == count {
			k.Bits = 17
		}
	}
	return k
}

// fits is E1 in so many words.
func fits(k api.Known, n int64) bool {
	k = usual(k)
	if k.Bits == 17 {
		return true
	}
	end := int64(1)
	for range k.Bits {
		end += end
	}
	return n >= 0 && n < end
}

// edges has 0, the powers of two and their neighbours, and the same below 0.
func edges() []int64 {
	out := []int64{0, greatest - 1, greatest, least, least + 1}
	for move := range 63 {
		power := int64(1) << move
		out = append(out, power-1, power, power+1, -power+1, -power, -power-1)
	}
	return out
}

func TestE1OfByHand(t *testing.T) {
	cases := []struct {
		n    int64
		want int
	}{
		{0, 0}, {1, 1}, {2, 2}, {3, 2}, {4, 3}, {5, 3}, {7, 3}, {8, 4}, {15, 4}, {16, 5},
		{31, 5}, {32, 6}, {63, 6}, {64, 7}, {127, 7}, {128, 8}, {255, 8}, {256, 9},
		{511, 9}, {512, 10}, {1023, 10}, {1024, 11}, {2047, 11}, {2048, 12}, {4095, 12}, {4096, 13},
		{8191, 13}, {8192, 14}, {16383, 14}, {16384, 15}, {32767, 15}, {32768, 16}, {65534, 16},
		{65535, 16}, {65536, 17}, {65537, 17}, {131071, 17}, {131072, 17}, {1 << 31, 17}, {1 << 32, 17},
		{1<<32 + 1, 17}, {1 << 62, 17}, {greatest, 17},
		{-1, 17}, {-2, 17}, {-65535, 17}, {-65536, 17}, {-1 << 32, 17}, {least + 1, 17}, {least, 17},
	}
	for _, c := range cases {
		if got := Of(c.n); got != public(c.want) {
			t.Errorf("Of(%d) = %v, want %d bits, not secret", c.n, got, c.want)
		}
	}
}

func TestE1OfIsTheLeastThatFits(t *testing.T) {
	for _, n := range edges() {
		want := 0
		for want < 17 && !fits(public(want), n) {
			want++
		}
		if got := Of(n); got != public(want) {
			t.Errorf("Of(%d) = %v, want %d bits, not secret", n, got, want)
		}
	}
}

func TestE1HasAtTheEnds(t *testing.T) {
	cases := []struct {
		count int
		n     int64
		want  bool
	}{
		{0, 0, true}, {0, 1, false}, {0, -1, false}, {0, greatest, false}, {0, least, false},
		{1, 0, true}, {1, 1, true}, {1, 2, false}, {1, -1, false},
		{3, 0, true}, {3, 7, true}, {3, 8, false}, {3, -1, false}, {3, 1 << 32, false},
		{8, 255, true}, {8, 256, false}, {8, -1, false},
		{15, 32767, true}, {15, 32768, false}, {15, -1, false},
		{16, 0, true}, {16, 65535, true}, {16, 65536, false}, {16, -1, false}, {16, greatest, false}, {16, least, false},
		{17, 0, true}, {17, 65535, true}, {17, 65536, true}, {17, 131072, true}, {17, -1, true}, {17, greatest, true}, {17, least, true},
		{-1, 0, true}, {-1, -1, true}, {-1, 65536, true}, {18, -1, true}, {18, 1 << 18, true}, {math.MinInt, least, true}, {math.MaxInt, greatest, true},
	}
	for _, c := range cases {
		for _, label := range labels {
			if got := Has(api.Known{Bits: c.count, Secret: label}, c.n); got != c.want {
				t.Errorf("Has(%d bits, secret %v, %d) = %v", c.count, label, c.n, got)
			}
		}
	}
}

func TestE1HasAtAllBits(t *testing.T) {
	for _, count := range anyCount() {
		for _, n := range edges() {
			for _, label := range labels {
				k := api.Known{Bits: count, Secret: label}
				if got := Has(k, n); got != fits(k, n) {
					t.Errorf("Has(%v, %d) = %v", k, n, got)
				}
			}
		}
	}
}

func TestE1StrangeBitsCountAs17(t *testing.T) {
	pairs := func(odd int, try func(odd, usual, other api.Known)) {
		for _, count := range anyCount() {
			for _, label := range labels {
				for _, otherLabel := range labels {
					try(api.Known{Bits: odd, Secret: label}, api.Known{Bits: 17, Secret: label}, api.Known{Bits: count, Secret: otherLabel})
				}
			}
		}
	}
	for _, odd := range strange {
		pairs(odd, func(k, as, other api.Known) {
			for _, op := range append(ops, noOps...) {
				if Op(op, k, other) != Op(op, as, other) || Op(op, other, k) != Op(op, other, as) {
					t.Errorf("Op %d of %v and %v is not as of 17 bits", op, k, other)
				}
			}
			if Join(k, other) != Join(as, other) || Join(other, k) != Join(other, as) {
				t.Errorf("Join of %v and %v is not as of 17 bits", k, other)
			}
			if Less(k, other) != Less(as, other) || Less(other, k) != Less(other, as) {
				t.Errorf("Less of %v and %v is not as of 17 bits", k, other)
			}
		})
	}
}

func TestE2BitsByHand(t *testing.T) {
	cases := []struct {
		name           string
		op, a, b, want int
	}{
		{"the chapter's example", api.OpAdd, 3, 3, 4},
		{"add, a greater", api.OpAdd, 5, 2, 6},
		{"add, b greater", api.OpAdd, 2, 5, 6},
		{"add, both 1", api.OpAdd, 1, 1, 2},
		{"add, both 0", api.OpAdd, 0, 0, 0},
		{"add, a 0", api.OpAdd, 0, 5, 5},
		{"add, b 0", api.OpAdd, 5, 0, 5},
		{"add, 0 and 16", api.OpAdd, 0, 16, 16},
		{"add, 16 and 0", api.OpAdd, 16, 0, 16},
		{"add, 15 and 15", api.OpAdd, 15, 15, 16},
		{"add, 16 and 1", api.OpAdd, 16, 1, 17},
		{"add, 1 and 16", api.OpAdd, 1, 16, 17},
		{"add, both 16", api.OpAdd, 16, 16, 17},
		{"add, 17 and 0", api.OpAdd, 17, 0, 17},
		{"add, 0 and 17", api.OpAdd, 0, 17, 17},
		{"add, 17 and 3", api.OpAdd, 17, 3, 17},
		{"add, 3 and 17", api.OpAdd, 3, 17, 17},
		{"add, both 17", api.OpAdd, 17, 17, 17},
		{"mul", api.OpMul, 3, 4, 7},
		{"mul, both 1", api.OpMul, 1, 1, 2},
		{"mul, both 0", api.OpMul, 0, 0, 0},
		{"mul, a 0", api.OpMul, 0, 16, 0},
		{"mul, b 0", api.OpMul, 16, 0, 0},
		{"mul, 0 and 17", api.OpMul, 0, 17, 0},
		{"mul, 17 and 0", api.OpMul, 17, 0, 0},
		{"mul, just 16", api.OpMul, 8, 8, 16},
		{"mul, just 17", api.OpMul, 8, 9, 17},
		{"mul, 15 and 1", api.OpMul, 15, 1, 16},
		{"mul, 16 and 1", api.OpMul, 16, 1, 17},
		{"mul, both 16", api.OpMul, 16, 16, 17},
		{"mul, 17 and 1", api.OpMul, 17, 1, 17},
		{"mul, 1 and 17", api.OpMul, 1, 17, 17},
		{"mul, both 17", api.OpMul, 17, 17, 17},
		{"and, a less", api.OpAnd, 3, 9, 3},
		{"and, b less", api.OpAnd, 9, 3, 3},
		{"and, the same", api.OpAnd, 9, 9, 9},
		{"and, 0", api.OpAnd, 0, 9, 0},
		{"and, 17 and 16", api.OpAnd, 17, 16, 16},
		{"and, 6 and 17", api.OpAnd, 6, 17, 6},
		{"and, 17 and 0", api.OpAnd, 17, 0, 0},
		{"and, both 17", api.OpAnd, 17, 17, 17},
		{"or, a greater", api.OpOr, 9, 3, 9},
		{"or, b greater", api.OpOr, 3, 9, 9},
		{"or, both 0", api.OpOr, 0, 0, 0},
		{"or, both 16", api.OpOr, 16, 16, 16},
		{"or, 17 and 0", api.OpOr, 17, 0, 17},
		{"or, 0 and 17", api.OpOr, 0, 17, 17},
		{"xor, a greater", api.OpXor, 9, 3, 9},
		{"xor, b greater", api.OpXor, 3, 9, 9},
		{"xor, both 0", api.OpXor, 0, 0, 0},
		{"xor, the same", api.OpXor, 16, 16, 16},
		{"xor, 17 and 0", api.OpXor, 17, 0, 17},
		{"xor, 0 and 17", api.OpXor, 0, 17, 17},
		{"shr", api.OpShr, 9, 3, 9},
		{"shr, b greater", api.OpShr, 3, 9, 3},
		{"shr, 0", api.OpShr, 0, 17, 0},
		{"shr, a 17", api.OpShr, 17, 6, 17},
		{"shr, b 17", api.OpShr, 6, 17, 6},
		{"div", api.OpDiv, 9, 3, 9},
		{"div, b greater", api.OpDiv, 3, 9, 3},
		{"div, b 0", api.OpDiv, 9, 0, 9},
		{"div, a 17", api.OpDiv, 17, 6, 17},
		{"div, b 17", api.OpDiv, 6, 17, 6},
		{"mod", api.OpMod, 9, 3, 9},
		{"mod, b greater", api.OpMod, 3, 9, 3},
		{"mod, b 0", api.OpMod, 9, 0, 9},
		{"mod, a 17", api.OpMod, 17, 6, 17},
		{"mod, b 17", api.OpMod, 6, 17, 6},
		{"sub", api.OpSub, 9, 3, 17},
		{"sub, b 0", api.OpSub, 9, 0, 17},
		{"sub, both 0", api.OpSub, 0, 0, 17},
		{"shl", api.OpShl, 3, 1, 17},
		{"shl, b 0", api.OpShl, 3, 0, 17},
		{"shl, both 0", api.OpShl, 0, 0, 17},
	}
	for _, c := range cases {
		if got := Op(c.op, public(c.a), public(c.b)); got != public(c.want) {
			t.Errorf("%s: Op(%d, %d bits, %d bits) = %v, want %d bits", c.name, c.op, c.a, c.b, got, c.want)
		}
	}
}

// slowBits is what E2 says of Bits, in so many words; a and b are from 0 to 17.
func slowBits(op, a, b int) int {
	greater, less := a, b
	if b > a {
		greater, less = b, a
	}
	either17 := a == 17 || b == 17
	either0 := a == 0 || b == 0
	out := 17
	switch {
	case op == api.OpAdd && !either17 && either0:
		out = greater
	case op == api.OpAdd && !either17:
		out = greater + 1
	case op == api.OpMul && either0:
		out = 0
	case op == api.OpMul && !either17:
		out = a + b
	case op == api.OpAnd:
		out = less
	case (op == api.OpOr || op == api.OpXor) && !either17:
		out = greater
	case op == api.OpShr || op == api.OpDiv || op == api.OpMod:
		out = a
	}
	if out > 16 {
		return 17
	}
	return out
}

func TestE2AllOpsAllBitsAllLabels(t *testing.T) {
	for _, op := range append(ops, noOps...) {
		for _, a := range anyCount() {
			for _, b := range anyCount() {
				bits := slowBits(op, usual(public(a)).Bits, usual(public(b)).Bits)
				want := map[[2]bool]api.Known{
					{false, false}: public(bits),
					{false, true}:  secret(bits),
					{true, false}:  secret(bits),
					{true, true}:   secret(bits),
				}
				for label, k := range want {
					got := Op(op, api.Known{Bits: a, Secret: label[0]}, api.Known{Bits: b, Secret: label[1]})
					if got != k {
						t.Errorf("Op(%d, %d bits, %d bits), secret %v: %v, want %v", op, a, b, label, got, k)
					}
				}
			}
		}
	}
}

func TestE2OtherOpsGive17(t *testing.T) {
	for _, op := range noOps {
		for count := range 18 {
			if got := Op(op, public(count), public(0)); got != public(17) {
				t.Errorf("Op(%d, %d bits, 0 bits) = %v", op, count, got)
			}
			if got := Op(op, public(0), secret(count)); got != secret(17) {
				t.Errorf("Op(%d, 0 bits, %d secret bits) = %v", op, count, got)
			}
		}
	}
}

type pairCase struct {
	a, b, want api.Known
}

func tryPairs(t *testing.T, name string, does func(a, b api.Known) api.Known, cases []pairCase) {
	t.Helper()
	for _, c := range cases {
		if got := does(c.a, c.b); got != c.want {
			t.Errorf("%s(%v, %v) = %v, want %v", name, c.a, c.b, got, c.want)
		}
	}
}

func TestE3JoinByHand(t *testing.T) {
	tryPairs(t, "Join", Join, []pairCase{
		{public(3), public(5), public(5)},
		{public(5), public(3), public(5)},
		{public(5), public(5), public(5)},
		{public(0), public(0), public(0)},
		{public(0), public(16), public(16)},
		{public(16), public(0), public(16)},
		{public(0), public(17), public(17)},
		{public(17), public(0), public(17)},
		{public(16), public(17), public(17)},
		{public(17), public(17), public(17)},
		{public(-1), public(3), public(17)},
		{public(3), public(18), public(17)},
		{secret(3), public(5), secret(5)},
		{public(3), secret(5), secret(5)},
		{secret(3), secret(5), secret(5)},
		{secret(0), public(0), secret(0)},
	})
}

func TestE3LessByHand(t *testing.T) {
	tryPairs(t, "Less", Less, []pairCase{
		{public(3), public(5), public(3)},
		{public(5), public(3), public(3)},
		{public(5), public(5), public(5)},
		{public(0), public(5), public(0)},
		{public(5), public(0), public(0)},
		{public(0), public(17), public(0)},
		{public(17), public(0), public(0)},
		{public(17), public(16), public(16)},
		{public(16), public(17), public(16)},
		{public(17), public(17), public(17)},
		{public(-1), public(3), public(3)},
		{public(-1), public(17), public(17)},
		{public(3), public(-1), public(3)},
		{public(3), public(18), public(3)},
		{public(-4), public(99), public(17)},
		{secret(17), public(3), secret(3)},
		{secret(3), public(17), secret(3)},
		{public(5), secret(3), public(3)},
		{public(3), secret(5), public(3)},
		{public(17), secret(17), public(17)},
		{secret(5), secret(3), secret(3)},
	})
}

func TestE3AllBitsAllLabels(t *testing.T) {
	for _, a := range anyCount() {
		for _, b := range anyCount() {
			ka, kb := usual(public(a)).Bits, usual(public(b)).Bits
			greater, less := ka, kb
			if kb > ka {
				greater, less = kb, ka
			}
			tryPairs(t, "Join", Join, []pairCase{
				{public(a), public(b), public(greater)},
				{public(a), secret(b), secret(greater)},
				{secret(a), public(b), secret(greater)},
				{secret(a), secret(b), secret(greater)},
			})
			tryPairs(t, "Less", Less, []pairCase{
				{public(a), public(b), public(less)},
				{public(a), secret(b), public(less)},
				{secret(a), public(b), secret(less)},
				{secret(a), secret(b), secret(less)},
			})
		}
	}
}
