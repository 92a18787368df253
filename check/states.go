package check

import (
	"evenkeel/api"
	"evenkeel/known"
)

// anyBits is known of a number that may be any.
const anyBits = 17

// registers has what is known of each register. Its zero value is what is known at first: that all are 0.
type registers [api.Regs]api.Known

// A place is where an instruction stands: whether anything leads there, and what is known then.
type place struct {
	registers
	reached bool
}

// learn finds the known states. It begins with nothing and adds only what must be, so they are the least ones; and as they only grow, and only so far, it ends.
func (c *checker) learn() {
	c.come(0, registers{})
	for len(c.todo) > 0 {
		last := len(c.todo) - 1
		at := c.todo[last]
		c.todo = c.todo[:last]
		c.lead(at)
	}
}

// come joins r to what is known at an instruction; where that is nothing new, nothing is to be done again.
func (c *checker) come(at int, r registers) {
	if at >= len(c.places) {
		return
	}
	here := &c.places[at]
	if here.reached {
		r = joined(here.registers, r)
		if r == here.registers {
			return
		}
	}
	*here = place{registers: r, reached: true}
	c.todo = append(c.todo, at)
}

func joined(a, b registers) registers {
	for n := range a {
		a[n] = known.Join(a[n], b[n])
	}
	return a
}

// lead brings what is known behind the instruction at that number to all those that it leads to.
func (c *checker) lead(at int) {
	i, r := c.Code[at], c.places[at].registers
	switch i.Op {
	case api.IHalt:
	case api.IJump:
		c.come(int(i.N), r)
	case api.IIf:
		c.come(int(i.N), r.where(i.C, i.A, i.B))
		c.come(at+1, r.where(opposite(i.C), i.A, i.B))
	default:
		c.come(at+1, c.behind(i, r))
	}
}

// behind tells what is known behind i, of which r is known ahead of it, and that leads to the next one alone.
func (c *checker) behind(i api.Ins, r registers) registers {
	switch i.Op {
	case api.ISet:
		r[i.A] = known.Of(i.N)
	case api.IMove:
		r[i.A] = r[i.B]
	case api.IAdd:
		r[i.A] = sum(r[i.B], i.N)
	case api.ILoad, api.ILoadK:
		r[i.A] = loaded(c.Regions[i.C])
	case api.IMask:
		r[i.A] = known.Less(r[i.A], known.Of(i.N-1))
	case api.IPut, api.IPutK, api.IFence:
	default:
		r[i.A] = known.Op(i.Op-api.IOp, r[i.B], r[i.C])
	}
	return r
}

// loaded tells what is known of a word of the region.
func loaded(region api.Region) api.Known {
	return api.Known{Bits: anyBits, Secret: region.Secret}
}

// where tells what is known of r where the condition holds of the registers a and b.
func (r registers) where(cond, a, b int) registers {
	lessA, lessB := known.Less(r[a], r[b]), known.Less(r[b], r[a])
	if cond == api.CondSame || cond == api.CondLess {
		r[a] = lessA
	}
	if cond == api.CondSame || cond == api.CondMost {
		r[b] = lessB
	}
	return r
}

// opposite gives the condition that holds where cond does not.
func opposite(cond int) int {
	switch cond {
	case api.CondSame:
		return api.CondOther
	case api.CondOther:
		return api.CondSame
	case api.CondLess:
		return api.CondMost
	}
	return api.CondLess
}
