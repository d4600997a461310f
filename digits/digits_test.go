package digits_test

import (
	"strconv"
	"testing"

	"twinrampart/digits"
)

// P21, P130: what has at most five digits, written just so, is that number.
func TestNumbers(t *testing.T) {
	for n := range 100000 {
		if got, is := digits.Read(strconv.Itoa(n)); got != n || !is {
			t.Fatal(n, got, is)
		}
	}
}

// P21, P130: all else is none.
func TestNone(t *testing.T) {
	for _, word := range []string{
		"", " ", "00", "01", "007", "00000", "09999", "100000", "99999999999999999999",
		"+1", "-1", "-0", "+0", "1_0", "0x1", "1e3", "1.0", "1.", "1 ", " 1", "1\n", "\t1", "1\x00",
		"a", "-", "+", "١", "１", "1\xff",
	} {
		if got, is := digits.Read(word); got != 0 || is {
			t.Errorf("%q: %d", word, got)
		}
	}
}
