package field

import (
	"math"
	"strconv"
	"strings"

	"fumarole/api"
)

// value returns a whole number, or one that is beyond each range instead of a long one.
func value(whole string) int {
	if len(whole) > 9 {
		return math.MaxInt
	}
	n, _ := strconv.Atoi(whole)
	return n
}

// isWhole returns whether the word is a whole number, with no sign and no zeros that are not needed.
func isWhole(word string) bool {
	digits := strings.TrimPrefix(word, "-")
	if digits == "" || strings.Trim(digits, "0123456789") != "" {
		return false
	}
	return digits[0] != '0' || word == "0"
}

// isName returns whether the word is a name: lower-case letters and digits, the first one a letter.
func isName(word string) bool {
	if !within(len(word), 1, api.MaxName) || !isLetter(word[0]) {
		return false
	}
	for i := range len(word) {
		if !isLetter(word[i]) && !isDigit(word[i]) {
			return false
		}
	}
	return true
}

func isLetter(b byte) bool { return 'a' <= b && b <= 'z' }

func isDigit(b byte) bool { return '0' <= b && b <= '9' }

// spaced returns the numbers with a blank between two.
func spaced(numbers ...int) string {
	var words []string
	for _, n := range numbers {
		words = append(words, strconv.Itoa(n))
	}
	return strings.Join(words, " ")
}
