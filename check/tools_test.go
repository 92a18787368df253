package check

import (
	"math"
	"testing"

	"evenkeel/api"
)

const (
	least    = math.MinInt64
	greatest = math.MaxInt64
)

// Regions of the programs here.
const (
	open   = 0 // public
	hidden = 1 // secret
	asked  = 2 // public: its Log asks how many Bits an index has
)

// more stands for all Bits beyond 6: no program has a region that tells them apart.
const more = 7

var ops = []int{
	api.OpAdd, api.OpSub, api.OpMul, api.OpAnd, api.OpOr, api.OpXor,
	api.OpShl, api.OpShr, api.OpDiv, api.OpMod,
}

var conds = []int{api.CondSame, api.CondOther, api.CondLess, api.CondMost}

func set(a int, n int64) api.Ins { return api.Ins{Op: api.ISet, A: a, N: n} }

func move(a, b int) api.Ins { return api.Ins{Op: api.IMove, A: a, B: b} }

func add(a, b int, n int64) api.Ins { return api.Ins{Op: api.IAdd, A: a, B: b, N: n} }

func load(a, b, c int, n int64) api.Ins { return api.Ins{Op: api.ILoad, A: a, B: b, C: c, N: n} }

func put(a, b, c int, n int64) api.Ins { return api.Ins{Op: api.IPut, A: a, B: b, C: c, N: n} }

func loadK(a, c int, n int64) api.Ins { return api.Ins{Op: api.ILoadK, A: a, C: c, N: n} }

func putK(a, c int, n int64) api.Ins { return api.Ins{Op: api.IPutK, A: a, C: c, N: n} }

func jump(n int64) api.Ins { return api.Ins{Op: api.IJump, N: n} }

func when(a, cond, b int, n int64) api.Ins { return api.Ins{Op: api.IIf, A: a, B: b, C: cond, N: n} }

func halt(a int) api.Ins { return api.Ins{Op: api.IHalt, A: a} }

func mask(a int, n int64) api.Ins { return api.Ins{Op: api.IMask, A: a, N: n} }

func fence() api.Ins { return api.Ins{Op: api.IFence} }

func op(kind, a, b, c int) api.Ins { return api.Ins{Op: api.IOp + kind, A: a, B: b, C: c} }

func public(bits int) api.Known { return api.Known{Bits: bits} }

func secret(bits int) api.Known { return api.Known{Bits: bits, Secret: true} }

func ok() api.Fault { return api.Fault{} }

func bound(at int) api.Fault { return api.Fault{Code: api.ErrBound, At: at} }

func label(at int) api.Fault { return api.Fault{Code: api.ErrLabel, At: at} }

// program has the regions open and hidden, of 64 words each, and asked, of 2^log.
func program(log int, code ...api.Ins) api.Program {
	return api.Program{
		Regions: []api.Region{{Log: 6}, {Log: 6, Secret: true}, {Log: log}},
		Code:    code,
	}
}

func join(lists ...[]api.Ins) []api.Ins {
	var out []api.Ins
	for _, l := range lists {
		out = append(out, l...)
	}
	return out
}

func finds(t *testing.T, name string, p api.Program, want api.Fault) {
	t.Helper()
	if got := Check(p); got != want {
		t.Errorf("%s: %v, want %v", name, got, want)
	}
}

// asks has code behind an instruction that asks, so that whatever code does wrong, that one's fault comes first.
// Where code comes to its end, what is known is asked.
func asks(log int, asker api.Ins, code []api.Ins) api.Program {
	const ahead = 3
	out := []api.Ins{jump(ahead), asker, jump(2)}
	for _, i := range code {
		if i.Op == api.IJump || i.Op == api.IIf {
			i.N += ahead
		}
		out = append(out, i)
	}
	return program(log, append(out, jump(1))...)
}

// seen tells what is known of the register r where code comes to its end, as Check lets it be seen: Bits beyond 6 as more.
func seen(t *testing.T, name string, code []api.Ins, r int) api.Known {
	t.Helper()
	k := api.Known{Bits: more, Secret: Check(asks(0, halt(r), code)) == label(1)}
	for log := api.MaxLog; log >= 0; log-- {
		got := Check(asks(log, load(0, r, asked, 0), code))
		if got == bound(1) {
			break
		}
		if (got == label(1)) != k.Secret {
			t.Errorf("%s: register %d as an index: %v, secret %v", name, r, got, k.Secret)
		}
		k.Bits = log
	}
	return k
}

func knows(t *testing.T, name string, code []api.Ins, r int, want api.Known) {
	t.Helper()
	if got := seen(t, name, code, r); got != want {
		t.Errorf("%s: of register %d is known %v, want %v", name, r, got, want)
	}
}

// become makes r a register of which k is known, with Bits up to 6, or more.
func become(r int, k api.Known) []api.Ins {
	region := open
	if k.Secret {
		region = hidden
	}
	out := []api.Ins{loadK(r, region, 0)}
	if k.Bits < more {
		out = append(out, mask(r, 1<<k.Bits))
	}
	return out
}

// allKnown has all that can be told apart.
func allKnown() []api.Known {
	var out []api.Known
	for bits := range more + 1 {
		out = append(out, public(bits), secret(bits))
	}
	return out
}

// mixed has something else in each register, and tells what.
func mixed() ([]api.Ins, [api.Regs]api.Known) {
	all := [api.Regs]api.Known{
		public(0), public(2), secret(4), public(more), secret(more), secret(0), public(5), secret(6),
	}
	var code []api.Ins
	for r, k := range all {
		code = append(code, become(r, k)...)
	}
	return code, all
}
