// Package digits: numbers as the lines of policies and scripts write them.
package digits

import "strconv"

const maxDigits = 5

// Read a number: at most five digits, without needless zeros.
func Read(word string) (int, bool) {
	if len(word) > maxDigits {
		return 0, false
	}
	n, err := strconv.Atoi(word)
	// What is not written again just so has a plus, or needless zeros.
	if err != nil || n < 0 || strconv.Itoa(n) != word {
		return 0, false
	}
	return n, true
}
