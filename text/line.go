package text

import (
	"strconv"
	"strings"

	"evenkeel/api"
)

// What follows the word of a line: a capital stands for the number of a field, all else for itself.
const (
	publicFields = " L public"
	secretFields = " L secret"
	whenFields   = " rA rB N"
	opFields     = " rA rB rC"
)

const regionWord = "region"

// A kind is a word that instructions have, and what follows it.
type kind struct {
	word   string
	op     int
	cond   int // of an IIf alone: its C, which the word tells
	fields string
}

var kinds = [...]kind{
	{"set", api.ISet, 0, " rA N"},
	{"move", api.IMove, 0, " rA rB"},
	{"plus", api.IAdd, 0, " rA rB N"},
	{"load", api.ILoad, 0, " rA gC rB N"},
	{"put", api.IPut, 0, " rA gC rB N"},
	{"loadk", api.ILoadK, 0, " rA gC N"},
	{"putk", api.IPutK, 0, " rA gC N"},
	{"jump", api.IJump, 0, " N"},
	{"same", api.IIf, api.CondSame, whenFields},
	{"other", api.IIf, api.CondOther, whenFields},
	{"less", api.IIf, api.CondLess, whenFields},
	{"most", api.IIf, api.CondMost, whenFields},
	{"halt", api.IHalt, 0, " rA"},
	{"mask", api.IMask, 0, " rA N"},
	{"fence", api.IFence, 0, ""},
	{"add", api.IOp + api.OpAdd, 0, opFields},
	{"sub", api.IOp + api.OpSub, 0, opFields},
	{"mul", api.IOp + api.OpMul, 0, opFields},
	{"and", api.IOp + api.OpAnd, 0, opFields},
	{"or", api.IOp + api.OpOr, 0, opFields},
	{"xor", api.IOp + api.OpXor, 0, opFields},
	{"shl", api.IOp + api.OpShl, 0, opFields},
	{"shr", api.IOp + api.OpShr, 0, opFields},
	{"div", api.IOp + api.OpDiv, 0, opFields},
	{"mod", api.IOp + api.OpMod, 0, opFields},
}

// regionLine gives the line of a region, without its end.
func regionLine(r api.Region) string {
	fields := publicFields
	if r.Secret {
		fields = secretFields
	}
	return regionWord + written(fields, func(rune) int64 { return int64(r.Log) })
}

// insLine gives the line of an instruction of a hard program, without its end.
func insLine(i api.Ins) string {
	k := kindOf(i)
	return k.word + written(k.fields, func(field rune) int64 {
		switch field {
		case 'A':
			return int64(i.A)
		case 'B':
			return int64(i.B)
		case 'C':
			return int64(i.C)
		}
		return i.N
	})
}

func kindOf(i api.Ins) kind {
	for _, k := range kinds {
		if k.op == i.Op && (k.cond == 0 || k.cond == i.C) {
			return k
		}
	}
	return kind{}
}

// written gives fields with numbers for its capitals, as tell tells them.
func written(fields string, tell func(field rune) int64) string {
	var out strings.Builder
	for _, field := range fields {
		if capital(field) {
			out.WriteString(strconv.FormatInt(tell(field), 10))
		} else {
			out.WriteRune(field)
		}
	}
	return out.String()
}

// readRegion gives the region whose line is regionWord and rest, and whether it is such a line.
func readRegion(rest string) (api.Region, bool) {
	var r api.Region
	log := func(_ rune, word string) bool {
		n, ok := number(word)
		r.Log = int(n)
		return ok && short(n)
	}
	r.Secret = matches(secretFields, rest, log)
	ok := r.Secret || matches(publicFields, rest, log)
	return r, ok
}

// readIns gives the instruction whose line is word and rest, and whether it is such a line.
func readIns(word, rest string) (api.Ins, bool) {
	for _, k := range kinds {
		if k.word == word {
			return k.read(rest)
		}
	}
	return api.Ins{}, false
}

func (k kind) read(rest string) (api.Ins, bool) {
	i := api.Ins{Op: k.op, C: k.cond}
	ok := matches(k.fields, rest, func(field rune, word string) bool {
		n, ok := number(word)
		switch field {
		case 'A':
			i.A = int(n)
		case 'B':
			i.B = int(n)
		case 'C':
			i.C = int(n)
		default:
			i.N = n
			return ok
		}
		return ok && short(n)
	})
	return i, ok
}

// matches tells whether rest is as fields says; take is handed what stands for each capital, and tells whether it may.
func matches(fields, rest string, take func(field rune, word string) bool) bool {
	for _, field := range fields {
		var ok bool
		if capital(field) {
			var word string
			word, rest = cutWord(rest)
			ok = take(field, word)
		} else {
			rest, ok = strings.CutPrefix(rest, string(field))
		}
		if !ok {
			return false
		}
	}
	return rest == ""
}

func capital(field rune) bool { return field >= 'A' && field <= 'Z' }

// cutWord gives what is ahead of the first blank of text, and the rest from the blank on.
func cutWord(text string) (string, string) {
	end := strings.IndexByte(text, ' ')
	if end < 0 {
		end = len(text)
	}
	return text[:end], text[end:]
}

// longest is as long as the least number of 64 bits.
const longest = len("-9223372036854775808")

// number gives the number of 64 bits that word is, and whether it is one and written as numbers are.
func number(word string) (int64, bool) {
	// The library's error has a copy of the word, which may be a great one.
	if len(word) > longest {
		return 0, false
	}
	n, err := strconv.ParseInt(word, 10, 64)
	// The library takes a + or zeros ahead, too, which numbers are not written with.
	return n, err == nil && strconv.FormatInt(n, 10) == word
}

// beyond is the least number of more digits than those of registers, regions and Logs may have.
const beyond int64 = 1_000_000_000_000_000_000

// short tells whether n has only as many digits as such numbers may have.
func short(n int64) bool { return n > -beyond && n < beyond }
