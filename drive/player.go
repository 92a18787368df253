package drive

import (
	"evenkeel/api"
	"evenkeel/check"
	"evenkeel/harden"
	"evenkeel/load"
	"evenkeel/seq"
	"evenkeel/spec"
	"evenkeel/text"
)

// What answers begin with.
const (
	okWord  = "ok"
	badWord = "bad"
	isWord  = "is"
	noWord  = "?"
)

// ends has what tells how a run ended, by its End.
var ends = [...]string{api.EndFuel: "fuel", api.EndDone: "done", api.EndFault: "fault"}

// A player has the program and the memory, as the lines that were played have made them.
type player struct {
	api.Program
	// memory has the words of each region, so that it always fits the program.
	memory [][]int64
}

// answer plays a line, without its end, and gives the answer, without its end.
func (p *player) answer(line string) string {
	word, numbers, ok := read(line)
	if !ok || !takes(word, len(numbers)) {
		return noWord
	}
	switch word {
	case "region":
		return p.addRegion(numbers[0], numbers[1])
	case "fill":
		return p.fill(numbers[0], numbers[1:])
	case "ins":
		return p.addIns(api.Ins{Op: numbers[0], A: numbers[1], B: numbers[2], C: numbers[3], N: int64(numbers[4])})
	case "check":
		return checked(check.Check(p.Program))
	case "run":
		return ran(seq.Run(p.Program, p.memory, numbers[0]))
	case "ahead":
		return ran(spec.Run(p.Program, p.memory, numbers[1:], numbers[0]))
	case "hard":
		return p.harden()
	case "load":
		return loaded(load.Load(p.Program))
	case "text":
		return printed(text.Print(p.Program))
	case "look":
		return p.look(numbers[0])
	}
	return noWord
}

func (p *player) addRegion(log, secret int) string {
	if log < 0 || log > api.MaxLog || secret < 0 || secret > 1 || len(p.Regions) >= api.MaxRegions {
		return noWord
	}
	p.Regions = append(p.Regions, api.Region{Log: log, Secret: secret == 1})
	p.memory = append(p.memory, make([]int64, 1<<log))
	return tell(okWord, len(p.Regions))
}

func (p *player) addIns(i api.Ins) string {
	// There may be more than MaxCode, if the program was hardened.
	if len(p.Code) >= api.MaxCode {
		return noWord
	}
	p.Code = append(p.Code, i)
	return tell(okWord, len(p.Code))
}

// harden makes the program the hardened one. That has the same regions, so the memory fits it, too.
func (p *player) harden() string {
	hard, fault := harden.Make(p.Program)
	if fault.Code != api.OK {
		return faulty(fault)
	}
	p.Program = hard
	return tell(okWord, len(p.Code))
}

func (p *player) fill(region int, numbers []int) string {
	if !p.has(region) || len(numbers) > len(p.memory[region]) {
		return noWord
	}
	for at, n := range numbers {
		p.memory[region][at] = int64(n)
	}
	return okWord
}

func (p *player) look(region int) string {
	if !p.has(region) {
		return noWord
	}
	return tell(isWord, p.memory[region]...)
}

// has tells whether there is a region of that number.
func (p *player) has(region int) bool { return region >= 0 && region < len(p.Regions) }

func checked(fault api.Fault) string {
	if fault.Code != api.OK {
		return faulty(fault)
	}
	return okWord
}

func ran(shown api.Shown, code api.Errno) string {
	if code != api.OK {
		return tell(badWord, code)
	}
	return tell(tell(ends[shown.End], shown.Value), shown.Steps, len(shown.Seen))
}

func loaded(made []uint32, fault api.Fault) string {
	if fault.Code != api.OK {
		return faulty(fault)
	}
	return tell(okWord, len(made))
}

func printed(made string, code api.Errno) string {
	if code != api.OK {
		return tell(badWord, code)
	}
	return tell(okWord, len(made))
}

func faulty(fault api.Fault) string { return tell(tell(badWord, fault.Code), fault.At) }
