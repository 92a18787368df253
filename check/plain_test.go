package check

import (
	"evenkeel/api"
	"evenkeel/known"
)

// A state is what is known where an instruction is come to, if it is.
type state struct {
	come bool
	all  [api.Regs]api.Known
}

func (s state) with(r int, k api.Known) state {
	s.all[r] = k
	return s
}

// A way is what leads to an instruction.
type way struct {
	to int
	s  state
}

func joinStates(a, b state) state {
	if !a.come {
		return b
	}
	for r, k := range b.all {
		a.all[r] = known.Join(a.all[r], k)
	}
	return a
}

// ways says by the chapter's words where the instruction at that number leads, and with what.
func ways(p api.Program, at int, s state) []way {
	i := p.Code[at]
	a, b, c := s.all[i.A], s.all[i.B], api.Known{}
	if i.Op > api.IOp {
		c = s.all[i.C]
	}
	next := func(k api.Known) []way { return []way{{at + 1, s.with(i.A, k)}} }
	switch {
	case i.Op == api.ISet:
		return next(known.Of(i.N))
	case i.Op == api.IMove:
		return next(b)
	case i.Op == api.IAdd && i.N < 0:
		return next(api.Known{Bits: 17, Secret: b.Secret})
	case i.Op == api.IAdd:
		return next(known.Op(api.OpAdd, b, known.Of(i.N)))
	case i.Op == api.ILoad || i.Op == api.ILoadK:
		return next(api.Known{Bits: 17, Secret: p.Regions[i.C].Secret})
	case i.Op == api.IMask:
		return next(api.Known{Bits: min(a.Bits, known.Of(i.N-1).Bits), Secret: a.Secret})
	case i.Op == api.IJump:
		return []way{{int(i.N), s}}
	case i.Op == api.IHalt:
		return nil
	case i.Op == api.IIf:
		return []way{{int(i.N), branch(i, s, true)}, {at + 1, branch(i, s, false)}}
	case i.Op > api.IOp:
		return next(known.Op(i.Op-api.IOp, b, c))
	}
	return []way{{at + 1, s}}
}

func branch(i api.Ins, s state, holds bool) state {
	a, b := s.all[i.A], s.all[i.B]
	lessA, lessB := changes(i.C, holds)
	if lessA {
		s = s.with(i.A, known.Less(a, b))
	}
	if lessB {
		s = s.with(i.B, known.Less(b, a))
	}
	return s
}

// states makes all of them anew from those of the round before, from none on, until they stay; the last one is where no instruction is.
func states(p api.Program) []state {
	old := make([]state, len(p.Code)+1)
	for {
		fresh := make([]state, len(p.Code)+1)
		fresh[0].come = true
		for at := range p.Code {
			if !old[at].come {
				continue
			}
			for _, w := range ways(p, at, old[at]) {
				fresh[w.to] = joinStates(fresh[w.to], w.s)
			}
		}
		stays := true
		for at := range old {
			stays = stays && old[at] == fresh[at]
		}
		if stays {
			return old
		}
		old = fresh
	}
}

// plainFault tells the fault of the instruction at that number, if it has one.
func plainFault(p api.Program, at int, s state) api.Errno {
	i := p.Code[at]
	for _, w := range ways(p, at, s) {
		if w.to == len(p.Code) {
			return api.ErrBound
		}
	}
	a, b := s.all[i.A], s.all[i.B]
	var secrets []api.Known
	switch i.Op {
	case api.ILoad, api.IPut:
		if i.N < 0 || known.Op(api.OpAdd, b, known.Of(i.N)).Bits > p.Regions[i.C].Log {
			return api.ErrBound
		}
		secrets = append(secrets, b)
		if i.Op == api.IPut && !p.Regions[i.C].Secret {
			secrets = append(secrets, a)
		}
	case api.IPutK:
		if !p.Regions[i.C].Secret {
			secrets = append(secrets, a)
		}
	case api.IIf:
		secrets = append(secrets, a, b)
	case api.IOp + api.OpDiv, api.IOp + api.OpMod:
		secrets = append(secrets, b, s.all[i.C])
	case api.IHalt:
		secrets = append(secrets, a)
	}
	for _, k := range secrets {
		if k.Secret {
			return api.ErrLabel
		}
	}
	return api.OK
}

// plainCheck is the chapter in so many words, of a program that may be.
func plainCheck(p api.Program) api.Fault {
	for at, s := range states(p)[:len(p.Code)] {
		if !s.come {
			continue
		}
		if code := plainFault(p, at, s); code != api.OK {
			return api.Fault{Code: code, At: at}
		}
	}
	return api.Fault{}
}
