package drive

import (
	"strconv"
	"strings"

	"evenkeel/api"
)

const blank = " "

// mostNumbers is one more than the word with the most numbers may have behind it: a fuel and MaxScript choices.
const mostNumbers = 1 + api.MaxScript + 1

// read gives the word that line begins with and the numbers behind it, and whether all that is behind it are numbers.
// It keeps no more of them than are needed for it to be seen that they are too many: a line may have millions.
func read(line string) (string, []int, bool) {
	word, rest, more := strings.Cut(line, blank)
	var numbers []int
	for more {
		var field string
		field, rest, more = strings.Cut(rest, blank)
		n, ok := number(field)
		if !ok {
			return "", nil, false
		}
		if len(numbers) < mostNumbers {
			numbers = append(numbers, n)
		}
	}
	return word, numbers, true
}

// greatest is the greatest number that a line may have; the least one is as far below 0.
const greatest = 999999

// longest is as long as the least number.
const longest = len("-999999")

// number gives the number that field is, and whether it is one and written as numbers are.
func number(field string) (int, bool) {
	// The library's error has a copy of the field, which may be a great one.
	if len(field) > longest {
		return 0, false
	}
	n, err := strconv.Atoi(field)
	// The library takes a + or zeros ahead, too, which numbers are not written with.
	return n, err == nil && strconv.Itoa(n) == field && n >= -greatest && n <= greatest
}

// takes tells whether so many numbers may stand behind word; of what is no word none may.
func takes(word string, count int) bool {
	switch word {
	case "check", "hard", "load", "text":
		return count == 0
	case "run", "look":
		return count == 1
	case "region":
		return count == 2
	case "ins":
		return count == 5
	case "fill", "ahead":
		return count >= 1
	}
	return false
}

// tell gives word with numbers behind it; word may have some behind it already, of another kind.
func tell[N ~int | ~int64](word string, numbers ...N) string {
	var out strings.Builder
	out.WriteString(word)
	for _, n := range numbers {
		out.WriteString(blank + strconv.FormatInt(int64(n), 10))
	}
	return out.String()
}
