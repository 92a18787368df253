package seq

import (
	"slices"

	"evenkeel/api"
	"evenkeel/num"
)

// What SeeWord tells of a word as B.
const (
	Takes int64 = 0
	Puts  int64 = 1
)

// MaxWords is how many words all regions of a program have at most.
const MaxWords = api.MaxRegions << api.MaxLog

// State is what steps change and a run may come back to. It is one value without lists, so that setting it is a whole copy.
type State struct {
	Registers [api.Regs + 2]int64
	// Words has those of all regions, one region behind the other, each at its word's number.
	Words [MaxWords]int64
	// Next is the number of the next instruction.
	Next int
}

// A Machine does the steps of a program that is hard.
type Machine struct {
	api.Program
	api.Shown
	State
	fuel  int
	ended bool
	// starts has for each region how many words all regions ahead of it have; behind the last one, how many there are in all.
	starts [api.MaxRegions + 1]int
}

// GoesOn tells whether another step is to be done; where none can be, the run ends.
func (m *Machine) GoesOn() bool {
	switch {
	case m.ended:
	case !m.HasFuel():
		m.Finish(api.EndFuel)
	case !m.HasNext():
		m.Finish(api.EndFault)
	}
	return !m.ended
}

// HasFuel tells whether there is fuel for another step.
func (m *Machine) HasFuel() bool { return m.Steps < m.fuel }

// HasNext tells whether an instruction is left.
func (m *Machine) HasNext() bool { return m.Next < len(m.Code) }

// Finish ends the run.
func (m *Machine) Finish(end int) {
	m.End, m.ended = end, true
}

// Begin counts and shows the next step, and gives its instruction, behind which the run goes on if nothing else is said.
func (m *Machine) Begin() api.Ins {
	at := m.Next
	m.Steps++
	m.Show(api.SeeStep, int64(at), 0)
	m.Next++
	return m.Code[at]
}

// Show lets who watches see one thing more.
func (m *Machine) Show(kind int, a, b int64) {
	m.Seen = append(m.Seen, api.See{Kind: kind, A: a, B: b})
}

// Do does i, whose step has begun.
func (m *Machine) Do(i api.Ins) {
	a := &m.Registers[i.A]
	switch i.Op {
	case api.ISet:
		*a = i.N
	case api.IMove:
		*a = m.Registers[i.B]
	case api.IAdd:
		*a = m.Registers[i.B] + i.N
	case api.ILoad, api.ILoadK:
		if number, there := m.reach(i, Takes); there {
			*a = m.Words[number]
		}
	case api.IPut, api.IPutK:
		if number, there := m.reach(i, Puts); there {
			m.Words[number] = *a
		}
	case api.IJump:
		m.Next = int(i.N)
	case api.IIf:
		if m.Holds(i) {
			m.Next = int(i.N)
		}
	case api.IHalt:
		m.Value = *a
		m.Finish(api.EndDone)
	case api.IMask:
		if *a < 0 || *a >= i.N {
			*a = 0
		}
	case api.IFence:
	default:
		m.operate(i)
	}
}

// Holds tells whether the condition of i, an IIf, holds.
func (m *Machine) Holds(i api.Ins) bool {
	return num.Holds(i.C, m.Registers[i.A], m.Registers[i.B])
}

func (m *Machine) operate(i api.Ins) {
	op, b, c := i.Op-api.IOp, m.Registers[i.B], m.Registers[i.C]
	if op == api.OpDiv || op == api.OpMod {
		m.Show(api.SeeDiv, b, c)
	}
	m.Registers[i.A] = num.Op(op, b, c)
}

// reach shows the word that i takes or puts; where it is not there, the run ends.
func (m *Machine) reach(i api.Ins, how int64) (int64, bool) {
	number, there := m.Number(i)
	if !there {
		m.Finish(api.EndFault)
		return 0, false
	}
	m.Show(api.SeeWord, number, how)
	return number, true
}

// Number gives the number of the word that i takes or puts, and whether that word is there, in the region of i.
func (m *Machine) Number(i api.Ins) (int64, bool) {
	index := i.N
	if i.Op == api.ILoad || i.Op == api.IPut {
		index += m.Registers[i.B]
	}
	start, end := int64(m.starts[i.C]), int64(m.starts[i.C+1])
	return index + start, index >= 0 && index < end-start
}

// HasWord tells whether number is that of a word of any region.
func (m *Machine) HasWord(number int64) bool {
	return number >= 0 && number < int64(m.starts[len(m.Regions)])
}

// Told gives what the run has shown, with the words as they are now, cut into regions of memory of their own.
func (m *Machine) Told() api.Shown {
	m.Memory = make([][]int64, len(m.Regions))
	for c := range m.Memory {
		m.Memory[c] = slices.Clone(m.Words[m.starts[c]:m.starts[c+1]])
	}
	return m.Shown
}
