// Package num works on numbers of 64 bits: see doc/01-num.md.
package num

import "evenkeel/api"

// Op tells what becomes of a and b by the operation op; of other ops 0.
func Op(op int, a, b int64) int64 {
	// Numbers from 0 on lose what is beyond 64 bits, move zeros in from above, and divide as the chapter asks.
	return int64(unsignedOp(op, uint64(a), uint64(b)))
}

func unsignedOp(op int, x, y uint64) uint64 {
	switch op {
	case api.OpAdd:
		return x + y
	case api.OpSub:
		return x - y
	case api.OpMul:
		return x * y
	case api.OpAnd:
		return x & y
	case api.OpOr:
		return x | y
	case api.OpXor:
		return x ^ y
	case api.OpShl:
		return x << lowerSix(y)
	case api.OpShr:
		return x >> lowerSix(y)
	case api.OpDiv:
		return quotient(x, y)
	case api.OpMod:
		return remainder(x, y)
	}
	return 0
}

func lowerSix(y uint64) uint64 { return y & 63 }

func quotient(x, y uint64) uint64 {
	if y == 0 {
		return 0
	}
	return x / y
}

func remainder(x, y uint64) uint64 {
	if y == 0 {
		return x
	}
	return x % y
}

// Holds tells whether a and b are as cond says; of other conds false.
func Holds(cond int, a, b int64) bool {
	x, y := uint64(a), uint64(b)
	asked := func(c int, so bool) bool { return cond == c && so }
	return asked(api.CondSame, x == y) ||
		asked(api.CondOther, x != y) ||
		asked(api.CondLess, x < y) ||
		asked(api.CondMost, x >= y)
}
