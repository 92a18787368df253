package known

import (
	"math/rand"
	"testing"

	"evenkeel/api"
	"evenkeel/num"
)

// drawKnown gives Bits from -1 to 18, so that those that count as 17 come, too.
func drawKnown(r *rand.Rand) api.Known {
	return api.Known{Bits: r.Intn(20) - 1, Secret: r.Intn(2) == 0}
}

// drawNumber gives a number that is known by k, its ends more often than others.
func drawNumber(r *rand.Rand, k api.Known) int64 {
	if k.Bits < 0 || k.Bits > 16 {
		all := append(edges(), int64(r.Uint64()), int64(r.Uint64()), int64(r.Uint64()>>32))
		return all[r.Intn(len(all))]
	}
	end := int64(1) << k.Bits
	switch r.Intn(4) {
	case 0:
		return end - 1
	case 1:
		return 0
	}
	return r.Int63n(end)
}

// holds asks both Has and the chapter's words.
func holds(k api.Known, n int64) bool { return Has(k, n) && fits(k, n) }

func TestE4OpOnDrawnNumbers(t *testing.T) {
	r := rand.New(rand.NewSource(5))
	for range 200000 {
		a, b := drawKnown(r), drawKnown(r)
		n, m := drawNumber(r, a), drawNumber(r, b)
		for _, op := range append(ops, noOps...) {
			if got := num.Op(op, n, m); !holds(Op(op, a, b), got) {
				t.Fatalf("op %d: %d is known by %v, %d by %v, and %d is not by %v", op, n, a, m, b, got, Op(op, a, b))
			}
		}
	}
}

func TestE4OpOnTheEndsOfAllBits(t *testing.T) {
	ends := func(count int) []int64 {
		if count == 17 {
			return edges()
		}
		return []int64{0, 1<<count - 1, 1 << count >> 1}
	}
	for _, op := range ops {
		for a := range 18 {
			for b := range 18 {
				k := Op(op, public(a), public(b))
				for _, n := range ends(a) {
					for _, m := range ends(b) {
						if got := num.Op(op, n, m); !holds(k, got) {
							t.Fatalf("op %d: of %d and %d comes %d, not known by %v", op, n, m, got, k)
						}
					}
				}
			}
		}
	}
}

func TestE4OpOnAllSmallNumbers(t *testing.T) {
	for _, op := range ops {
		for n := range int64(40) {
			for m := range int64(40) {
				if got := num.Op(op, n, m); !holds(Op(op, Of(n), Of(m)), got) {
					t.Fatalf("op %d: of %d and %d comes %d, not known by %v", op, n, m, got, Op(op, Of(n), Of(m)))
				}
			}
		}
	}
}

func TestE4JoinOnDrawnNumbers(t *testing.T) {
	r := rand.New(rand.NewSource(6))
	for range 200000 {
		a, b := drawKnown(r), drawKnown(r)
		n, m := drawNumber(r, a), drawNumber(r, b)
		if k := Join(a, b); !holds(k, n) || !holds(k, m) {
			t.Fatalf("%d is known by %v, %d by %v, and one of them is not by %v", n, a, m, b, k)
		}
	}
}

func TestE4LessOnDrawnNumbers(t *testing.T) {
	r := rand.New(rand.NewSource(7))
	tried, same := 0, 0
	for range 200000 {
		a, b := drawKnown(r), drawKnown(r)
		n, m := drawNumber(r, a), drawNumber(r, b)
		if uint64(n) > uint64(m) {
			continue
		}
		tried++
		if n == m {
			same++
		}
		if k := Less(a, b); !holds(k, n) {
			t.Fatalf("%d, known by %v, is not greater than %d, known by %v, and is not known by %v", n, a, m, b, k)
		}
	}
	if tried < 50000 || same < 1000 {
		t.Errorf("only %d pairs were tried, %d of them the same", tried, same)
	}
}
