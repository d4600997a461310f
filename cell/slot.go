package cell

// How a slot is laid: three numbers and their sum, a mark, and bytes that are not looked at.
const (
	width    = 4
	sumAt    = 3 * width
	markAt   = sumAt + width
	slotSize = markAt + 4
	slots    = 2
)

const (
	mark       = 165
	maxNumber  = 1<<32 - 1
	polynomial = 0xEDB88320
)

// numbers of a slot; number 0: of none.
type numbers struct{ number, epoch, life int }

// newest numbers that a slot holds.
func (b *Bytes) newest() numbers {
	var best numbers
	for slot := range slots {
		if n, held := b.hold(slot); held && n.number > best.number {
			best = n
		}
	}
	return best
}

// hold tells what a slot holds, and whether it does.
func (b *Bytes) hold(slot int) (numbers, bool) {
	at := slot * slotSize
	laid := [markAt]byte(b.all[at:])
	n := numbers{take(laid, 0), take(laid, width), take(laid, 2*width)}
	if b.all[at+markAt] != mark || laid != image(n) || n.number < 1 || slotOf(n.number) != slot {
		return numbers{}, false
	}
	return n, true
}

// put writes numbers into their slot: as long as the mark is away, nothing of it counts.
func (b *Bytes) put(n numbers) bool {
	at := slotOf(n.number) * slotSize
	if b.all[at+markAt] != 0 && !b.write(at+markAt, 0) {
		return false
	}
	for i, value := range image(n) {
		if !b.write(at+i, value) {
			return false
		}
	}
	return b.write(at+markAt, mark)
}

// slotOf a number: two in a row never share one, so that the newest stays while the next is written.
func slotOf(number int) int {
	return number % slots
}

// image is what stands ahead of the mark.
func image(n numbers) [markAt]byte {
	var l [markAt]byte
	for i, value := range [3]int{n.number, n.epoch, n.life} {
		lay(&l, i*width, value)
	}
	lay(&l, sumAt, int(sum([sumAt]byte(l[:]))))
	return l
}

// lay a number, the highest byte first.
func lay(l *[markAt]byte, at, value int) {
	for i := range width {
		l[at+i] = byte(value >> (8 * (width - 1 - i)))
	}
}

// take a number that was laid.
func take(l [markAt]byte, at int) int {
	value := 0
	for i := range width {
		value = value<<8 | int(l[at+i])
	}
	return value
}

// sum is bound to be the one in use elsewhere, so the register begins with all bits and ends turned.
func sum(l [sumAt]byte) uint32 {
	register := ^uint32(0)
	for _, value := range l {
		register ^= uint32(value)
		for range 8 {
			low := register & 1
			register >>= 1
			if low != 0 {
				register ^= polynomial
			}
		}
	}
	return ^register
}
