package num

import (
	"math"
	"math/big"
	"testing"

	"evenkeel/api"
)

const (
	least    = math.MinInt64
	greatest = math.MaxInt64
)

var ops = []int{
	api.OpAdd, api.OpSub, api.OpMul, api.OpAnd, api.OpOr, api.OpXor,
	api.OpShl, api.OpShr, api.OpDiv, api.OpMod,
}

var conds = []int{api.CondSame, api.CondOther, api.CondLess, api.CondMost}

type opCase struct {
	name       string
	op         int
	a, b, want int64
}

func tryOps(t *testing.T, cases []opCase) {
	t.Helper()
	for _, c := range cases {
		if got := Op(c.op, c.a, c.b); got != c.want {
			t.Errorf("%s: Op(%d, %d, %d) = %d, want %d", c.name, c.op, c.a, c.b, got, c.want)
		}
	}
}

type condCase struct {
	name string
	cond int
	a, b int64
	want bool
}

func tryConds(t *testing.T, cases []condCase) {
	t.Helper()
	for _, c := range cases {
		if got := Holds(c.cond, c.a, c.b); got != c.want {
			t.Errorf("%s: Holds(%d, %d, %d) = %v, want %v", c.name, c.cond, c.a, c.b, got, c.want)
		}
	}
}

// numbers has the edges of 64 bits, of moves and of halves, and some numbers with no shape of their own.
func numbers() []int64 {
	out := []int64{
		0, 1, 2, 3, 5, 7, 10, 62, 63, 64, 65, 127, 128, 1000,
		1<<31 - 1, 1 << 31, 1<<32 - 1, 1 << 32, 1 << 62, greatest - 1, greatest,
		-1, -2, -3, -10, -62, -63, -64, -65, -1 << 31, -1 << 32, -1 << 62, least + 1, least,
	}
	x := uint64(1)
	for range 40 {
		x = x*6364136223846793005 + 1442695040888963407
		out = append(out, int64(x), int64(x>>40))
	}
	return out
}

var beyond = new(big.Int).Lsh(big.NewInt(1), 64)

// fromZeroOn is A1 in so many words: the same number, or 2^64 greater.
func fromZeroOn(n int64) *big.Int {
	x := big.NewInt(n)
	if n < 0 {
		x.Add(x, beyond)
	}
	return x
}

// told brings any whole number back to the one of 64 bits, from -2^63 to 2^63 - 1.
func told(x *big.Int) int64 {
	x = new(big.Int).Mod(x, beyond)
	if x.Cmp(big.NewInt(greatest)) > 0 {
		x.Sub(x, beyond)
	}
	return x.Int64()
}

// slowOp is A2 in so many words, on whole numbers without bounds.
func slowOp(op int, a, b int64) int64 {
	x, y, z := fromZeroOn(a), fromZeroOn(b), new(big.Int)
	move := uint(z.Mod(y, big.NewInt(64)).Uint64())
	switch op {
	case api.OpAdd:
		z.Add(x, y)
	case api.OpSub:
		z.Sub(x, y)
	case api.OpMul:
		z.Mul(x, y)
	case api.OpAnd:
		z.And(x, y)
	case api.OpOr:
		z.Or(x, y)
	case api.OpXor:
		z.Xor(x, y)
	case api.OpShl:
		z.Lsh(x, move)
	case api.OpShr:
		z.Rsh(x, move)
	case api.OpDiv:
		z.SetInt64(0)
		if y.Sign() != 0 {
			z.Quo(x, y)
		}
	case api.OpMod:
		z.Set(x)
		if y.Sign() != 0 {
			z.Rem(x, y)
		}
	}
	return told(z)
}

func TestA1BelowZeroStandsForTwoToThe64Greater(t *testing.T) {
	tryOps(t, []opCase{
		{"half of the greatest from 0 on", api.OpDiv, -1, 2, greatest},
		{"last digit of 18446744073709551615", api.OpMod, -1, 10, 5},
		{"-2^63 is 2^63", api.OpDiv, least, 2, 1 << 62},
		{"told below 0 again", api.OpDiv, -2, 1, -2},
		{"just above 2^63 - 1", api.OpAdd, greatest, 1, least},
		{"just below -2^63", api.OpSub, least, 1, greatest},
		{"just below 0", api.OpSub, 0, 1, -1},
	})
	tryConds(t, []condCase{
		{"2^63 - 1 and 2^63", api.CondLess, greatest, least, true},
		{"2^63 and 2^63 - 1", api.CondLess, least, greatest, false},
		{"2^64 - 2 and 2^64 - 1", api.CondLess, -2, -1, true},
		{"0 and 2^64 - 1", api.CondLess, 0, -1, true},
	})
	for _, n := range numbers() {
		if got := Op(api.OpDiv, n, 1); got != n {
			t.Errorf("Op(OpDiv, %d, 1) = %d", n, got)
		}
	}
}

func TestA2AddSubMulLoseWhatIsBeyond(t *testing.T) {
	tryOps(t, []opCase{
		{"add", api.OpAdd, 40, 2, 42},
		{"add below 0", api.OpAdd, 5, -7, -2},
		{"add beyond", api.OpAdd, -1, 1, 0},
		{"add the least twice", api.OpAdd, least, least, 0},
		{"sub", api.OpSub, 44, 2, 42},
		{"sub below 0", api.OpSub, 2, 44, -42},
		{"sub the least from 0", api.OpSub, 0, least, least},
		{"mul", api.OpMul, 6, 7, 42},
		{"mul below 0", api.OpMul, -6, 7, -42},
		{"mul two below 0", api.OpMul, -1, -1, 1},
		{"mul beyond", api.OpMul, 1 << 32, 1 << 32, 0},
		{"mul partly beyond", api.OpMul, greatest, greatest, 1},
		{"mul the least", api.OpMul, least, -1, least},
	})
}

func TestA2BitByBit(t *testing.T) {
	tryOps(t, []opCase{
		{"and", api.OpAnd, 12, 10, 8},
		{"and all bits", api.OpAnd, -1, 42, 42},
		{"and the top bit", api.OpAnd, -1, least, least},
		{"or", api.OpOr, 12, 10, 14},
		{"or the top bit", api.OpOr, least, greatest, -1},
		{"xor", api.OpXor, 12, 10, 6},
		{"xor all bits", api.OpXor, -1, 0, -1},
		{"xor the same", api.OpXor, least, least, 0},
	})
}

func TestA2Moves(t *testing.T) {
	tryOps(t, []opCase{
		{"up", api.OpShl, 5, 3, 40},
		{"up by 0", api.OpShl, 5, 0, 5},
		{"up to the top bit", api.OpShl, 1, 63, least},
		{"up, and lost", api.OpShl, 3, 63, least},
		{"up by 64", api.OpShl, 1, 64, 1},
		{"up by 65", api.OpShl, 1, 65, 2},
		{"up by a great number", api.OpShl, 1, 1<<40 + 4, 16},
		{"up by -1, whose lower six bits are 63", api.OpShl, 1, -1, least},
		{"up by -64", api.OpShl, 7, -64, 7},
		{"down", api.OpShr, 40, 3, 5},
		{"down, and lost", api.OpShr, 41, 3, 5},
		{"down by 0", api.OpShr, -5, 0, -5},
		{"down with zeros", api.OpShr, -1, 1, greatest},
		{"down by 63", api.OpShr, -1, 63, 1},
		{"down by 64", api.OpShr, -1, 64, -1},
		{"down by 65", api.OpShr, -1, 65, greatest},
		{"down by -1", api.OpShr, least, -1, 1},
		{"down by the least", api.OpShr, 9, least, 9},
	})
}

func TestA2Divisions(t *testing.T) {
	tryOps(t, []opCase{
		{"div", api.OpDiv, 17, 5, 3},
		{"div the less", api.OpDiv, 3, 5, 0},
		{"div by what stands for more", api.OpDiv, 5, -1, 0},
		{"div the least by -1", api.OpDiv, least, -1, 0},
		{"div -1 by the least", api.OpDiv, -1, least, 1},
		{"div -1 by -1", api.OpDiv, -1, -1, 1},
		{"div by 0", api.OpDiv, 5, 0, 0},
		{"div below 0 by 0", api.OpDiv, -5, 0, 0},
		{"div 0 by 0", api.OpDiv, 0, 0, 0},
		{"mod", api.OpMod, 17, 5, 2},
		{"mod the less", api.OpMod, 3, 5, 3},
		{"mod by what stands for more", api.OpMod, 5, -1, 5},
		{"mod the least by -1", api.OpMod, least, -1, least},
		{"mod -1 by the least", api.OpMod, -1, least, greatest},
		{"mod by 0", api.OpMod, 5, 0, 5},
		{"mod below 0 by 0", api.OpMod, -5, 0, -5},
		{"mod 0 by 0", api.OpMod, 0, 0, 0},
	})
}

func TestA2OtherOps(t *testing.T) {
	other := []int{0, -1, -api.OpAdd, api.OpMod + 1, api.IOp, api.IOp + api.OpAdd, 256 + api.OpAdd, 1<<32 + api.OpAdd, math.MinInt, math.MaxInt}
	for _, op := range other {
		for _, a := range numbers() {
			if got := Op(op, a, 3); got != 0 {
				t.Errorf("Op(%d, %d, 3) = %d, want 0", op, a, got)
			}
		}
	}
}

func TestA2AgainstWholeNumbers(t *testing.T) {
	for _, op := range ops {
		for _, a := range numbers() {
			for _, b := range numbers() {
				if got, want := Op(op, a, b), slowOp(op, a, b); got != want {
					t.Fatalf("Op(%d, %d, %d) = %d, want %d", op, a, b, got, want)
				}
			}
		}
	}
}

func TestA3SameAndOther(t *testing.T) {
	tryConds(t, []condCase{
		{"same", api.CondSame, 5, 5, true},
		{"same below 0", api.CondSame, -5, -5, true},
		{"not the same", api.CondSame, 5, 6, false},
		{"not the same sign", api.CondSame, 5, -5, false},
		{"not the same half", api.CondSame, 1 << 32, 0, false},
		{"other", api.CondOther, 5, 6, true},
		{"other by the top bit", api.CondOther, 0, least, true},
		{"not other", api.CondOther, least, least, false},
	})
}

func TestA3LessAndMost(t *testing.T) {
	tryConds(t, []condCase{
		{"less", api.CondLess, 5, 6, true},
		{"less, the same", api.CondLess, 5, 5, false},
		{"less, greater", api.CondLess, 6, 5, false},
		{"less, b below 0", api.CondLess, 1, -1, true},
		{"less, a below 0", api.CondLess, -1, 1, false},
		{"less, 0 and the least", api.CondLess, 0, least, true},
		{"most", api.CondMost, 6, 5, true},
		{"most, the same", api.CondMost, 5, 5, true},
		{"most, less", api.CondMost, 5, 6, false},
		{"most, b below 0", api.CondMost, 1, -1, false},
		{"most, a below 0", api.CondMost, -1, 1, true},
		{"most, the same below 0", api.CondMost, -1, -1, true},
	})
}

func TestA3OtherConds(t *testing.T) {
	other := []int{0, -1, -api.CondSame, api.CondMost + 1, 9, 256 + api.CondSame, 1<<32 + api.CondSame, math.MinInt, math.MaxInt}
	for _, cond := range other {
		for _, p := range [][2]int64{{5, 5}, {5, 6}, {6, 5}, {1, -1}, {-1, 1}, {0, 0}} {
			if Holds(cond, p[0], p[1]) {
				t.Errorf("Holds(%d, %d, %d) is true", cond, p[0], p[1])
			}
		}
	}
}

func TestA3AgainstWholeNumbers(t *testing.T) {
	for _, a := range numbers() {
		for _, b := range numbers() {
			order := fromZeroOn(a).Cmp(fromZeroOn(b))
			want := []bool{order == 0, order != 0, order < 0, order >= 0}
			for i, cond := range conds {
				if got := Holds(cond, a, b); got != want[i] {
					t.Fatalf("Holds(%d, %d, %d) = %v, want %v", cond, a, b, got, want[i])
				}
			}
		}
	}
}
