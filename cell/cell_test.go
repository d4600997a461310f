package cell_test

import (
	"encoding/binary"
	"hash/crc32"
	"math"
	"math/rand"
	"strings"
	"testing"

	"twinrampart/api"
	"twinrampart/cell"
)

// numbers below 0, and just beyond, or far beyond, those that a cell may have.
var noEpochs = []int{-1, math.MinInt, api.MaxEpoch + 1, 1 << 32, 1<<32 + 5, math.MaxInt}

// record is what a slot should have.
type record struct{ number, epoch, life uint32 }

// slot of twenty bytes, with its sum by the library's way and bytes behind the mark that nobody should look at.
func slot(r record) []byte {
	var l []byte
	for _, n := range []uint32{r.number, r.epoch, r.life} {
		l = binary.BigEndian.AppendUint32(l, n)
	}
	l = binary.BigEndian.AppendUint32(l, crc32.ChecksumIEEE(l))
	return append(l, 165, 0, 0, 0)
}

// image of two slots; a nil one is all zeros.
func image(first, second []byte) string {
	l := make([]byte, 64)
	copy(l, first)
	copy(l[20:], second)
	return string(l)
}

func with(s string, at int, value byte) string {
	l := []byte(s)
	l[at] = value
	return string(l)
}

func laid(t *testing.T, s string) *cell.Bytes {
	t.Helper()
	b := cell.NewBytes()
	if err := b.Lay(s); err != nil {
		t.Fatal(err)
	}
	return b
}

func opened(t *testing.T, b *cell.Bytes) *cell.Cell {
	t.Helper()
	b.On()
	c, err := cell.Open(b)
	if c == nil || err != nil {
		t.Fatal(c, err)
	}
	return c
}

func has(t *testing.T, c *cell.Cell, epoch, life int) {
	t.Helper()
	if c.Epoch() != epoch || c.Life() != life {
		t.Errorf("%d and %d; not %d and %d", c.Epoch(), c.Life(), epoch, life)
	}
}

// opens as: what is found when power is there again.
func opens(t *testing.T, s string, epoch, life int) {
	t.Helper()
	c := opened(t, laid(t, s))
	if c.Epoch() != epoch || c.Life() != life {
		t.Errorf("%q: %d and %d; not %d and %d", s, c.Epoch(), c.Life(), epoch, life)
	}
}

func puts(t *testing.T, c *cell.Cell, epoch, life int) {
	t.Helper()
	if err := c.Put(epoch, life); err != nil {
		t.Fatalf("Put(%d, %d): %v", epoch, life, err)
	}
	has(t, c, epoch, life)
}

// refuses with this error, bare; bytes, power and numbers stay.
func refuses(t *testing.T, b *cell.Bytes, c *cell.Cell, epoch, life int, want error) {
	t.Helper()
	all, power, e, l := b.All(), b.Power(), c.Epoch(), c.Life()
	if err := c.Put(epoch, life); err != want {
		t.Errorf("Put(%d, %d): %v, not %v", epoch, life, err, want)
	}
	if b.All() != all || b.Power() != power {
		t.Errorf("Put(%d, %d): %v, and bytes or power have changed", epoch, life, want)
	}
	has(t, c, e, l)
}

// writes of a Put, in order: which byte becomes what. Written from the document, not from the program.
type write struct {
	at    int
	value byte
}

func writes(s string, r record) []write {
	at := 0
	if r.number%2 == 1 {
		at = 20
	}
	var l []write
	if s[at+16] != 0 {
		l = append(l, write{at + 16, 0})
	}
	for i, v := range slot(r)[:17] {
		l = append(l, write{at + i, v})
	}
	return l
}

// after so many of the writes.
func after(s string, l []write, n int) string {
	for _, w := range l[:min(n, len(l))] {
		s = with(s, w.at, w.value)
	}
	return s
}

// P70: new bytes are 0, have power, and share nothing with others.
func TestNewBytes(t *testing.T) {
	a, b := cell.NewBytes(), cell.NewBytes()
	if a.All() != strings.Repeat("\x00", 64) || !a.Power() {
		t.Errorf("%q %t", a.All(), a.Power())
	}
	a.Lay(strings.Repeat("x", 64))
	a.Off()
	if b.All() != strings.Repeat("\x00", 64) || !b.Power() {
		t.Errorf("%q %t", b.All(), b.Power())
	}
}

// P70: on and off, as often as one likes.
func TestPower(t *testing.T) {
	b := cell.NewBytes()
	for range 2 {
		b.On()
		b.On()
		if !b.Power() {
			t.Error("on, and no power")
		}
		b.Off()
		b.Off()
		if b.Power() {
			t.Error("off, and power")
		}
	}
}

// P70: Cut's errors; what is below 0 is told ahead of power.
func TestCutErrors(t *testing.T) {
	b := cell.NewBytes()
	for _, n := range []int{-1, -17, math.MinInt} {
		if err := b.Cut(n); err != api.ErrBound || !b.Power() {
			t.Errorf("Cut(%d): %v", n, err)
		}
	}
	puts(t, opened(t, b), 1, 1)
	b.Off()
	for _, n := range []int{0, 1, math.MaxInt} {
		if err := b.Cut(n); err != api.ErrOff {
			t.Errorf("Cut(%d) without power: %v", n, err)
		}
	}
	if err := b.Cut(-1); err != api.ErrBound {
		t.Error(err)
	}
}

// P70: a cut that is refused leaves the one that is ahead.
func TestCutRefused(t *testing.T) {
	b := cell.NewBytes()
	c := opened(t, b)
	b.Cut(0)
	b.Cut(-1)
	if err := c.Put(1, 1); err != api.ErrOff {
		t.Error(err)
	}
}

// P70: power fails ahead of the write behind n bytes; calls that write nothing leave it.
func TestCut(t *testing.T) {
	for n := range 17 {
		b := cell.NewBytes()
		c := opened(t, b)
		if err := b.Cut(n); err != nil || !b.Power() {
			t.Fatal(n, err)
		}
		b.All()
		c.Epoch()
		c.Life()
		refuses(t, b, c, -1, 0, api.ErrBound)
		if _, err := cell.Open(b); err != nil || !b.Power() {
			t.Errorf("%d: %v, %t: nothing was written yet", n, err, b.Power())
		}
		if err := c.Put(1, 1); err != api.ErrOff || b.Power() {
			t.Errorf("%d: %v, %t", n, err, b.Power())
		}
	}
}

// P70: a cut counts on over what several calls write, and just the last one counts.
func TestCutLater(t *testing.T) {
	for n := 17; n < 34; n++ {
		b := cell.NewBytes()
		c := opened(t, b)
		b.Cut(n)
		puts(t, c, 1, 1)
		if !b.Power() {
			t.Errorf("%d: off too early", n)
		}
		if err := c.Put(2, 2); err != api.ErrOff || b.Power() {
			t.Errorf("%d: %v, %t", n, err, b.Power())
		}
	}
	b := cell.NewBytes()
	c := opened(t, b)
	b.Cut(0)
	b.Cut(34)
	puts(t, c, 1, 1)
	puts(t, c, 2, 2)
	b.Cut(math.MaxInt)
	puts(t, c, 3, 3)
	b.Cut(0)
	if err := c.Put(4, 4); err != api.ErrOff {
		t.Error(err)
	}
}

// P70: On takes back a cut that is ahead; so do Off and On.
func TestOnTakesBackCut(t *testing.T) {
	b := cell.NewBytes()
	c := opened(t, b)
	b.Cut(0)
	b.On()
	puts(t, c, 1, 1)
	b.Cut(3)
	b.Off()
	b.On()
	puts(t, c, 2, 2)
	b.Cut(3)
	if err := c.Put(3, 3); err != api.ErrOff {
		t.Error(err)
	}
	b.On()
	c = opened(t, b)
	for i := range 5 {
		puts(t, c, 3+i, 3)
	}
}

// P70: all bytes become these, with or without power, past a cut, and of no other length.
func TestLay(t *testing.T) {
	b := cell.NewBytes()
	x, y := strings.Repeat("\x00\xff~ü", 13)[:64], strings.Repeat("b", 64)
	b.Cut(3)
	if err := b.Lay(x); err != nil || b.All() != x || !b.Power() {
		t.Errorf("%v %q %t", err, b.All(), b.Power())
	}
	b.Off()
	if err := b.Lay(y); err != nil || b.All() != y || b.Power() {
		t.Errorf("%v %q %t", err, b.All(), b.Power())
	}
	for _, n := range []int{0, 1, 40, 63, 65, 128, 1000} {
		if err := b.Lay(strings.Repeat("c", n)); err != api.ErrShape || b.All() != y {
			t.Errorf("%d: %v %q", n, err, b.All())
		}
	}
}

// P70: what is laid is not written: a cut counts none of it.
func TestLayPastCut(t *testing.T) {
	b := cell.NewBytes()
	b.Cut(17)
	b.Lay(image(nil, nil))
	c, err := cell.Open(b)
	if err != nil {
		t.Fatal(err)
	}
	puts(t, c, 1, 1)
	if err := c.Put(2, 2); err != api.ErrOff {
		t.Error(err)
	}
}

// P71: Open's errors, with no cell; no bytes are told as such, others may have power or not.
func TestOpenErrors(t *testing.T) {
	if c, err := cell.Open(nil); c != nil || err != api.ErrShape {
		t.Error(c, err)
	}
	b := laid(t, image(slot(record{2, 3, 4}), nil))
	b.Off()
	if c, err := cell.Open(b); c != nil || err != api.ErrOff {
		t.Error(c, err)
	}
	has(t, opened(t, b), 3, 4)
}

// P1: not even what Open answers with an error panics.
func TestNoCell(t *testing.T) {
	c, _ := cell.Open(nil)
	has(t, c, 0, 0)
	if err := c.Put(1, 1); err != api.ErrOff {
		t.Error(err)
	}
	if c, err := cell.Open(new(cell.Bytes)); c != nil || err != api.ErrOff {
		t.Error(c, err)
	}
}

// P71: to open a cell writes nothing, and an empty one is 0 and 0.
func TestOpenOnlyReads(t *testing.T) {
	for _, s := range []string{image(nil, nil), strings.Repeat("\xa5", 64), image(slot(record{2, 3, 4}), slot(record{3, 4, 5}))} {
		b := laid(t, s)
		b.Cut(0)
		c, err := cell.Open(b)
		if err != nil || b.All() != s || !b.Power() {
			t.Errorf("%v %q", err, b.All())
		}
		c.Epoch()
		c.Life()
		if b.All() != s {
			t.Errorf("%q", b.All())
		}
	}
	opens(t, image(nil, nil), 0, 0)
	opens(t, strings.Repeat("\xa5", 64), 0, 0)
	opens(t, strings.Repeat("\xff", 64), 0, 0)
}

// P71: the bytes of a slot, sum and all, as numbers written out.
func TestLayout(t *testing.T) {
	b := cell.NewBytes()
	c := opened(t, b)
	puts(t, c, 0, 1)
	first := "\x00\x00\x00\x01\x00\x00\x00\x00\x00\x00\x00\x01\x1b\xa9\xe2\xba\xa5\x00\x00\x00"
	if b.All() != image(nil, []byte(first)) {
		t.Errorf("%q", b.All())
	}
	puts(t, c, 2, 7)
	puts(t, c, 2, 8)
	puts(t, c, 300, 9)
	second := "\x00\x00\x00\x04\x00\x00\x01\x2c\x00\x00\x00\x09\x90\x88\x3e\x67\xa5\x00\x00\x00"
	if b.All() != image([]byte(second), slot(record{3, 2, 8})) {
		t.Errorf("%q", b.All())
	}
}

// P71: sums of many numbers are those in use.
func TestSums(t *testing.T) {
	b := cell.NewBytes()
	c := opened(t, b)
	want := [2]record{}
	for i, n := 1, 1; i < 200; i++ {
		n = min(n+n/7+i, api.MaxEpoch)
		puts(t, c, n-1, n)
		want[i%2] = record{uint32(i), uint32(n - 1), uint32(n)}
		if i > 1 && b.All() != image(slot(want[0]), slot(want[1])) {
			t.Fatalf("%d: %q", i, b.All())
		}
	}
	has(t, opened(t, b), api.MaxEpoch-1, api.MaxEpoch)
}

// P71: the held slot with the greater number counts, by the number alone, of numbers without a sign.
func TestGreater(t *testing.T) {
	for _, x := range []struct {
		first, second uint32
		want          int
	}{
		{2, 1, 0}, {2, 3, 1}, {4, 3, 0}, {256, 255, 0}, {2, 255, 1}, {256, 1, 0}, {1<<31 - 2, 1<<31 - 1, 1}, {1 << 31, 1<<31 - 1, 0}, {2, 1<<32 - 1, 1}, {1<<32 - 2, 1, 0}, {1<<32 - 2, 1<<32 - 1, 1}, {100, 3, 0}, {2, 1001, 1},
	} {
		a, b := slot(record{x.first, 5, 9}), slot(record{x.second, 6, 8})
		opens(t, image(a, b), 5+x.want, 9-x.want)
		opens(t, image(a, nil), 5, 9)
		opens(t, image(nil, b), 6, 8)
	}
}

// P71: any bit of the seventeen bytes that is another one, and the slot is not held: the other one counts, or none.
func TestBits(t *testing.T) {
	first, second := slot(record{8, 6, 7}), slot(record{7, 4, 5})
	both := image(first, second)
	opens(t, both, 6, 7)
	for at := range 17 {
		for bit := range 8 {
			flipped := both[at] ^ 1<<bit
			opens(t, with(both, at, flipped), 4, 5)
			opens(t, with(image(first, nil), at, flipped), 0, 0)
			later := image(slot(record{6, 1, 2}), second)
			opens(t, with(later, 20+at, later[20+at]^1<<bit), 1, 2)
		}
	}
	for mark := range 256 {
		if mark != 165 {
			opens(t, with(both, 16, byte(mark)), 4, 5)
		}
	}
}

// P71: what is behind the mark, and behind the slots, is not looked at, and a Put leaves it.
func TestNotLookedAt(t *testing.T) {
	both := image(slot(record{8, 6, 7}), slot(record{7, 4, 5}))
	for at := range 64 {
		if at%20 < 17 && at < 40 {
			continue
		}
		for _, value := range []byte{1, 165, 255} {
			s := with(both, at, value)
			opens(t, s, 6, 7)
			b := laid(t, s)
			c := opened(t, b)
			puts(t, c, 6, 8)
			puts(t, c, 7, 8)
			if want := with(image(slot(record{10, 7, 8}), slot(record{9, 6, 8})), at, value); b.All() != want {
				t.Errorf("%d: %q, not %q", at, b.All(), want)
			}
		}
	}
}

// P71: a slot with all right but a number of the other one's, or 0, is not held.
func TestParity(t *testing.T) {
	for _, n := range []uint32{1, 3, 255, 1<<32 - 1} {
		opens(t, image(slot(record{n, 5, 6}), nil), 0, 0)
		opens(t, image(slot(record{n, 5, 6}), slot(record{1, 1, 2})), 1, 2)
	}
	for _, n := range []uint32{2, 4, 256, 1<<32 - 2} {
		opens(t, image(nil, slot(record{n, 5, 6})), 0, 0)
		opens(t, image(slot(record{2, 1, 2}), slot(record{n, 5, 6})), 1, 2)
	}
	opens(t, image(slot(record{0, 5, 6}), nil), 0, 0)
	opens(t, image(nil, slot(record{0, 5, 6})), 0, 0)
	opens(t, image(slot(record{0, 5, 6}), slot(record{0, 7, 8})), 0, 0)
}

// P71: a slot is held whatever its numbers are; numbers that no Put may give let none follow.
func TestGreatNumbers(t *testing.T) {
	b := laid(t, image(slot(record{2, 1<<32 - 1, 1<<31 + 5}), nil))
	c := opened(t, b)
	has(t, c, 1<<32-1, 1<<31+5)
	refuses(t, b, c, 1<<32-1, 1<<31+5, api.ErrBound)
	refuses(t, b, c, api.MaxEpoch, api.MaxEpoch, api.ErrOld)
}

// P72: each Put goes into the next number's slot, the first one into the second slot; the other one stays.
func TestPut(t *testing.T) {
	b := cell.NewBytes()
	c := opened(t, b)
	want := [2][]byte{}
	for i, x := range []record{{1, 0, 0}, {2, 0, 0}, {3, 0, 1}, {4, 1, 1}, {5, 1, 1}, {6, api.MaxEpoch, 1}, {7, api.MaxEpoch, api.MaxEpoch}, {8, api.MaxEpoch, api.MaxEpoch}} {
		puts(t, c, int(x.epoch), int(x.life))
		want[x.number%2] = slot(x)
		if b.All() != image(want[0], want[1]) {
			t.Fatalf("%d: %q", i, b.All())
		}
		has(t, opened(t, b), int(x.epoch), int(x.life))
		if i == 3 {
			c = opened(t, b)
		}
	}
}

// P72: Put goes on from what is held, however it came there.
func TestPutBehind(t *testing.T) {
	for _, x := range []struct{ before, after string }{
		{image(slot(record{100, 1, 2}), slot(record{3, 9, 9})), image(slot(record{100, 1, 2}), slot(record{101, 5, 6}))},
		{image(slot(record{100, 9, 9}), slot(record{1001, 1, 2})), image(slot(record{1002, 5, 6}), slot(record{1001, 1, 2}))},
		{image(slot(record{3, 9, 9}), nil), image(slot(record{3, 9, 9}), slot(record{1, 5, 6}))},
		{image(slot(record{1<<32 - 2, 1, 2}), nil), image(slot(record{1<<32 - 2, 1, 2}), slot(record{1<<32 - 1, 5, 6}))},
	} {
		b := laid(t, x.before)
		puts(t, opened(t, b), 5, 6)
		if b.All() != x.after {
			t.Errorf("%q, not %q", b.All(), x.after)
		}
	}
}

// P72: numbers out of bounds.
func TestPutBound(t *testing.T) {
	b := cell.NewBytes()
	c := opened(t, b)
	for _, n := range noEpochs {
		refuses(t, b, c, n, 5, api.ErrBound)
		refuses(t, b, c, 5, n, api.ErrBound)
		refuses(t, b, c, n, n, api.ErrBound)
	}
	puts(t, c, api.MaxEpoch, 3)
	for _, n := range noEpochs {
		refuses(t, b, c, n, 3, api.ErrBound)
		refuses(t, b, c, 5, n, api.ErrBound)
	}
	puts(t, c, api.MaxEpoch, api.MaxEpoch)
}

// P72: less than what is there, of either number.
func TestPutOld(t *testing.T) {
	b := cell.NewBytes()
	c := opened(t, b)
	puts(t, c, 5, 7)
	for _, x := range [][2]int{{4, 7}, {5, 6}, {4, 8}, {6, 6}, {0, 0}, {4, 6}, {api.MaxEpoch, 6}, {4, api.MaxEpoch}} {
		refuses(t, b, c, x[0], x[1], api.ErrOld)
		refuses(t, b, opened(t, b), x[0], x[1], api.ErrOld)
	}
	puts(t, c, 5, 7)
	puts(t, c, 5, 8)
	puts(t, c, 6, 8)
}

// P72: behind the last number there is none.
func TestPutFull(t *testing.T) {
	b := laid(t, image(slot(record{1<<32 - 2, 4, 4}), nil))
	c := opened(t, b)
	puts(t, c, 5, 5)
	refuses(t, b, c, 5, 5, api.ErrFull)
	refuses(t, b, c, 6, 6, api.ErrFull)
	refuses(t, b, opened(t, b), 6, 6, api.ErrFull)
	refuses(t, b, c, 4, 5, api.ErrOld)
	refuses(t, b, c, -1, 5, api.ErrBound)
	has(t, opened(t, b), 5, 5)
}

// P72: errors in their order: bound, old, full, off; behind off nothing else is told.
func TestPutOrder(t *testing.T) {
	b := laid(t, image(nil, slot(record{1<<32 - 1, 4, 4})))
	c := opened(t, b)
	b.Off()
	refuses(t, b, c, 3, api.MaxEpoch+1, api.ErrBound)
	refuses(t, b, c, 3, 4, api.ErrOld)
	refuses(t, b, c, 4, 4, api.ErrFull)

	b = laid(t, image(nil, slot(record{3, 4, 4})))
	c = opened(t, b)
	b.Off()
	refuses(t, b, c, -1, 4, api.ErrBound)
	refuses(t, b, c, 4, 3, api.ErrOld)
	refuses(t, b, c, 4, 4, api.ErrOff)
	for range 2 {
		refuses(t, b, c, -1, 4, api.ErrOff)
		refuses(t, b, c, 4, 3, api.ErrOff)
		refuses(t, b, c, 9, 9, api.ErrOff)
		b.On()
	}
	has(t, c, 4, 4)
	puts(t, opened(t, b), 5, 5)
	refuses(t, b, c, 9, 9, api.ErrOff)
}

// P72: power that failed and came back between two Puts is not seen; what stays off is this cell alone.
func TestPutBehindFailure(t *testing.T) {
	b := cell.NewBytes()
	c, other := opened(t, b), opened(t, b)
	b.Off()
	b.On()
	puts(t, c, 1, 1)
	b.Cut(5)
	if err := c.Put(2, 2); err != api.ErrOff {
		t.Error(err)
	}
	b.On()
	refuses(t, b, c, 2, 2, api.ErrOff)
	puts(t, other, 2, 2)
}

// cuts a Put behind n bytes, and looks at every byte, and at what is opened again.
func cuts(t *testing.T, s string, n int, old, next record) string {
	t.Helper()
	b := laid(t, s)
	c := opened(t, b)
	has(t, c, int(old.epoch), int(old.life))
	l := writes(s, next)
	b.Cut(n)
	err := c.Put(int(next.epoch), int(next.life))
	if want := after(s, l, n); b.All() != want {
		t.Errorf("behind %d: %q, not %q", n, b.All(), want)
	}
	kept, fails := next, n < len(l)
	if fails {
		kept = old
	}
	if (err == api.ErrOff) != fails || !fails && err != nil || b.Power() == fails {
		t.Errorf("behind %d of %d: %v, %t", n, len(l), err, b.Power())
	}
	has(t, c, int(kept.epoch), int(kept.life))
	has(t, opened(t, b), int(kept.epoch), int(kept.life))
	return b.All()
}

// P72, P73: wherever it is cut: byte 16 first, if it is not 0, then sixteen bytes, then byte 16; what is there is old or new.
func TestCuts(t *testing.T) {
	for _, x := range []struct {
		before    string
		old, next record
	}{
		{image(nil, nil), record{}, record{1, 3, 4}},
		{image(nil, slot(record{1, 3, 4})), record{1, 3, 4}, record{2, 3, 4}},
		{image(slot(record{2, 3, 4}), slot(record{1, 1, 1})), record{2, 3, 4}, record{3, api.MaxEpoch, 5}},
		{image(slot(record{2, 1, 1}), slot(record{3, 3, 4})), record{3, 3, 4}, record{4, 3, api.MaxEpoch}},
		{with(image(slot(record{2, 1, 1}), nil), 36, 7), record{2, 1, 1}, record{3, 2, 2}},
		{strings.Repeat("\xa5", 64), record{}, record{1, 165, 165}},
		{strings.Repeat("\xff", 64), record{}, record{1, 0, 0}},
		{image(slot(record{4, 5, 5}), slot(record{5, 5, 5})[:16]), record{4, 5, 5}, record{5, 5, 5}},
	} {
		for n := range 25 {
			cuts(t, x.before, n, x.old, x.next)
		}
	}
}

// P73: also where cut follows cut, over all pairs of places.
func TestCutsInRow(t *testing.T) {
	start := image(slot(record{6, 5, 5}), slot(record{7, 6, 6}))
	for n := range 19 {
		for m := range 19 {
			old, next := record{7, 6, 6}, record{8, 9, 7}
			s := cuts(t, start, n, old, next)
			if n == 18 {
				old = next
			}
			cuts(t, s, m, old, record{old.number + 1, 11, 12})
		}
	}
}

// P73: another cell of the same bytes puts: no cut of either takes away what is there.
func TestTwoCells(t *testing.T) {
	for puttings := range 4 {
		for n := range 25 {
			b := cell.NewBytes()
			c, late := opened(t, b), opened(t, b)
			for i := range puttings {
				puts(t, c, i+1, i+1)
			}
			if puttings > 0 {
				refuses(t, b, late, puttings-1, puttings, api.ErrOld)
			}
			b.Cut(n)
			err := late.Put(50, 60)
			x := opened(t, b)
			if err == nil {
				has(t, x, 50, 60)
			} else {
				has(t, x, puttings, puttings)
			}
		}
	}
}

// P73, P2: many Puts and cuts by chance, from a fixed seed; the numbers never go back, and the same calls make the same bytes.
func TestByChance(t *testing.T) {
	for seed := range int64(40) {
		if a, b := chance(t, seed), chance(t, seed); a != b {
			t.Errorf("seed %d: %q, then %q", seed, a, b)
		}
	}
}

func chance(t *testing.T, seed int64) string {
	t.Helper()
	r := rand.New(rand.NewSource(seed))
	b := cell.NewBytes()
	c, old := opened(t, b), record{}
	for range 300 {
		if r.Intn(2) == 0 {
			b.Cut(r.Intn(40))
		}
		next := record{old.number + 1, old.epoch + uint32(r.Intn(3)), old.life + uint32(r.Intn(300000))}
		err := c.Put(int(next.epoch), int(next.life))
		if err == nil {
			old = next
		}
		if err != nil || r.Intn(4) == 0 {
			c = opened(t, b)
		}
		has(t, c, int(old.epoch), int(old.life))
	}
	return b.All()
}
