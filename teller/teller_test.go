package teller_test

import (
	"slices"
	"testing"

	"twinrampart/api"
	"twinrampart/mirror"
	"twinrampart/table"
	"twinrampart/teller"
)

func end(n int) api.End { return api.End{Addr: n, Port: 7} }

func empty(t *testing.T) *table.Table {
	t.Helper()
	x, err := table.New(0)
	if err != nil {
		t.Fatal(err)
	}
	return x
}

// lays so many flows more, in the first slots that are free.
func lays(t *testing.T, x *table.Table, flows int) {
	t.Helper()
	for i := range flows {
		// Each to a far end of its own, so that ports do not run out.
		if _, err := x.Add(api.UDP, end(1), end(1000+sum(x)), api.Open, 50+i); err != nil {
			t.Fatal(err)
		}
	}
}

// sum of all versions: another one behind each change.
func sum(x *table.Table) int {
	n := 0
	for _, c := range x.Cells() {
		n += c.Version
	}
	return n
}

// full table whose slots were all told, with its teller's cursor at 0.
func full(t *testing.T) (*table.Table, *teller.Teller) {
	t.Helper()
	x := empty(t)
	lays(t, x, api.Slots)
	y := teller.New(x)
	for from := 0; from < api.Slots; from += api.Batch {
		tells(t, x, y, run(from, api.Batch)...)
	}
	lags(t, y, 0)
	return x, y
}

func touches(t *testing.T, x *table.Table, slots ...int) {
	t.Helper()
	for _, slot := range slots {
		c, err := x.Get(slot)
		if err != nil {
			t.Fatal(err)
		}
		if err := x.Set(slot, api.Closing, c.F.Until+1); err != nil {
			t.Fatal(err)
		}
	}
}

// run of slots, round.
func run(from, many int) []int {
	var l []int
	for i := range many {
		l = append(l, (from+i)%api.Slots)
	}
	return l
}

// tells just these slots, in this order, each as the table has it.
func tells(t *testing.T, x *table.Table, y *teller.Teller, slots ...int) {
	t.Helper()
	var want []api.Cell
	for _, slot := range slots {
		c, err := x.Get(slot)
		if err != nil {
			t.Fatal(err)
		}
		want = append(want, c)
	}
	if got := y.Next(); !slices.Equal(got, want) {
		t.Errorf("told %v, not %v: %v", slotsOf(got), slots, got)
	}
}

func slotsOf(l []api.Cell) []int {
	var slots []int
	for _, c := range l {
		slots = append(slots, c.Slot)
	}
	return slots
}

func lags(t *testing.T, y *teller.Teller, want int) {
	t.Helper()
	if got := y.Lag(); got != want {
		t.Errorf("lag %d, not %d", got, want)
	}
}

// P60: where nothing changes, all slots are told, round by round.
func TestRounds(t *testing.T) {
	x := empty(t)
	y := teller.New(x)
	for i := range 11 {
		lags(t, y, 0)
		tells(t, x, y, run(i*api.Batch, api.Batch)...)
	}
	x, y = full(t)
	for i := range 11 {
		lags(t, y, 0)
		tells(t, x, y, run(i*api.Batch, api.Batch)...)
	}
}

// P60, P61: what was there ahead of the teller was never told.
func TestThereAhead(t *testing.T) {
	x := empty(t)
	lays(t, x, 3)
	touches(t, x, 1, 1)
	if err := x.Drop(2); err != nil {
		t.Fatal(err)
	}
	y := teller.New(x)
	lags(t, y, 3)
	tells(t, x, y, 0, 1, 2, 3, 4, 5, 6, 7)
	lags(t, y, 0)
	tells(t, x, y, run(8, 8)...)
}

// P60: changes ahead, by slots, whatever the order in which they came; then the round goes on where it was.
func TestChangesAhead(t *testing.T) {
	x, y := full(t)
	tells(t, x, y, run(0, 8)...)
	touches(t, x, 30, 2, 17, 2)
	lags(t, y, 3)
	tells(t, x, y, 2, 17, 30, 8, 9, 10, 11, 12)
	lags(t, y, 0)
	tells(t, x, y, run(13, 8)...)
}

// P60: each kind of change is one.
func TestEveryChange(t *testing.T) {
	x, y := full(t)
	same, _ := x.Get(20)
	for i, err := range []error{x.Set(31, api.Open, 500), x.Set(20, same.F.State, same.F.Until), x.Drop(9)} {
		if err != nil {
			t.Fatal(i, err)
		}
	}
	lags(t, y, 3)
	tells(t, x, y, 9, 20, 31, 0, 1, 2, 3, 4)
	if slot, err := x.Put(api.Flow{Proto: api.TCP, Inner: end(3), Far: end(4), Port: 9}); slot != 9 || err != nil {
		t.Fatal(slot, err)
	}
	tells(t, x, y, 9, 5, 6, 7, 8, 10, 11, 12)
	lags(t, y, 0)
	if gone := x.Expire(51); !slices.Equal(gone, []int{0, 1, 9}) {
		t.Fatal(gone)
	}
	lags(t, y, 3)
	tells(t, x, y, 0, 1, 9, 13, 14, 15, 16, 17)
	lags(t, y, 0)
}

// P60: the version counts, not what lies there: also of what is no flow, and of a slot that is again as it was told.
func TestVersionCounts(t *testing.T) {
	x := empty(t)
	y := teller.New(x)
	tells(t, x, y, run(0, 8)...)
	if slot, err := x.Put(api.Flow{Inner: end(3)}); slot != 0 || err != nil {
		t.Fatal(slot, err)
	}
	lags(t, y, 1)
	tells(t, x, y, 0, 8, 9, 10, 11, 12, 13, 14)
	lays(t, x, 1)
	if err := x.Drop(0); err != nil {
		t.Fatal(err)
	}
	lags(t, y, 1)
	tells(t, x, y, 0, 15, 16, 17, 18, 19, 20, 21)
	lags(t, y, 0)
}

// P60: a version that is less, of a table that was taken back, is another one too.
func TestVersionLess(t *testing.T) {
	x, y := full(t)
	was := *x
	touches(t, x, 6, 19)
	tells(t, x, y, 6, 19, 0, 1, 2, 3, 4, 5)
	*x = was
	lags(t, y, 2)
	tells(t, x, y, 6, 19, 7, 8, 9, 10, 11, 12)
	lags(t, y, 0)
}

// P3: what a table refuses changes nothing, and so is not told.
func TestRefusedIsNoChange(t *testing.T) {
	x, y := full(t)
	for _, err := range []error{x.Set(api.Slots, api.Open, 1), x.Set(-1, api.Open, 1), x.Drop(api.Slots)} {
		if err != api.ErrBound {
			t.Error(err)
		}
	}
	if _, err := x.Add(api.TCP, end(8), end(9), api.Open, 1); err != api.ErrFull {
		t.Error(err)
	}
	lags(t, y, 0)
	tells(t, x, y, run(0, 8)...)
}

// P60: at most Batch changes, the others next time; the cursor waits while there is no room.
func TestMoreThanBatch(t *testing.T) {
	for _, c := range []struct {
		changed []int
		batches [][]int
	}{
		{run(3, 7), [][]int{{3, 4, 5, 6, 7, 8, 9, 0}, run(1, 8)}},
		{run(3, 8), [][]int{run(3, 8), run(0, 8)}},
		{run(3, 9), [][]int{run(3, 8), {11, 0, 1, 2, 3, 4, 5, 6}, run(7, 8)}},
		{run(0, 16), [][]int{run(0, 8), run(8, 8), run(0, 8)}},
		{run(28, 8), [][]int{{0, 1, 2, 3, 28, 29, 30, 31}, run(0, 8)}},
		{run(0, 32), [][]int{run(0, 8), run(8, 8), run(16, 8), run(24, 8), run(0, 8)}},
	} {
		x, y := full(t)
		touches(t, x, c.changed...)
		left := len(c.changed)
		for _, slots := range c.batches {
			lags(t, y, left)
			tells(t, x, y, slots...)
			left = max(0, left-api.Batch)
		}
	}
}

// P60: what changes again behind its telling is told again, ahead of what lies behind it.
func TestChangedAgain(t *testing.T) {
	x, y := full(t)
	touches(t, x, run(10, 12)...)
	tells(t, x, y, run(10, 8)...)
	touches(t, x, 10, 12, 20)
	lags(t, y, 6)
	tells(t, x, y, 10, 12, 18, 19, 20, 21, 0, 1)
	lags(t, y, 0)
}

// P60: a slot that is among the changes is passed by, and moves the cursor; what lies behind the last taken one does not.
func TestCursorPasses(t *testing.T) {
	x, y := full(t)
	touches(t, x, 0, 3, 4)
	tells(t, x, y, 0, 3, 4, 1, 2, 5, 6, 7)
	tells(t, x, y, run(8, 8)...)
	touches(t, x, 23)
	tells(t, x, y, 23, 16, 17, 18, 19, 20, 21, 22)
	tells(t, x, y, run(23, 8)...)
	tells(t, x, y, run(31, 8)...)
}

// P60: behind the last slot comes slot 0, taken or passed.
func TestCursorRound(t *testing.T) {
	x, y := full(t)
	for i := range 3 {
		tells(t, x, y, run(i*8, 8)...)
	}
	touches(t, x, 5)
	tells(t, x, y, 5, 24, 25, 26, 27, 28, 29, 30)
	touches(t, x, 31, 0)
	tells(t, x, y, 0, 31, 1, 2, 3, 4, 5, 6)
	for i := range 3 {
		tells(t, x, y, run(7+i*8, 8)...)
	}
	touches(t, x, 10)
	tells(t, x, y, 10, 31, 0, 1, 2, 3, 4, 5)
	tells(t, x, y, run(6, 8)...)
}

// P61: asked twice, it is the same, and asking tells nothing.
func TestLagOnlyAsks(t *testing.T) {
	x, y := full(t)
	touches(t, x, 4, 9, 9, 9)
	for range 3 {
		lags(t, y, 2)
	}
	tells(t, x, y, 4, 9, 0, 1, 2, 3, 5, 6)
	lags(t, y, 0)
	touches(t, x, run(0, 32)...)
	lags(t, y, 32)
}

// P2: what was told hangs on the teller: two of one table do not know of each other.
func TestTwoTellers(t *testing.T) {
	x, y := full(t)
	z := teller.New(x)
	lags(t, z, 32)
	touches(t, x, 20)
	tells(t, x, y, 20, 0, 1, 2, 3, 4, 5, 6)
	lags(t, y, 0)
	lags(t, z, 32)
	tells(t, x, z, run(0, 8)...)
	lags(t, z, 24)
	tells(t, x, y, run(7, 8)...)
}

// P4: the table is only read, and an answer is nobody else's.
func TestOwnMemory(t *testing.T) {
	x, y := full(t)
	was := x.Cells()
	first := y.Next()
	kept := slices.Clone(first)
	for i := range first {
		first[i] = api.Cell{Slot: 99, Version: 99}
	}
	first = append(first, api.Cell{Slot: 99})
	if !slices.Equal(x.Cells(), was) {
		t.Error("the table has changed")
	}
	lags(t, y, 0)
	tells(t, x, y, run(8, 8)...)
	touches(t, x, 20, 21)
	second := y.Next()
	if second[0] == was[20] || !slices.Equal(kept, was[:8]) {
		t.Error(second, kept)
	}
	second[0], second[1] = api.Cell{}, api.Cell{}
	lags(t, y, 0)
	touches(t, x, 20)
	tells(t, x, y, 20, 24, 25, 26, 27, 28, 29, 30)
}

// slow is the chapter's rule, word by word, beside the teller.
type slow struct {
	told   [api.Slots]int
	cursor int
}

func (s *slow) lag(cells []api.Cell) int {
	n := 0
	for i, c := range cells {
		if c.Version != s.told[i] {
			n++
		}
	}
	return n
}

func (s *slow) next(cells []api.Cell) []api.Cell {
	var among [api.Slots]bool
	var batch []api.Cell
	take := func(slot int) {
		among[slot] = true
		batch = append(batch, cells[slot])
	}
	for i, c := range cells {
		if c.Version != s.told[i] && len(batch) < api.Batch {
			take(i)
		}
	}
	for len(batch) < api.Batch {
		if !among[s.cursor] {
			take(s.cursor)
		}
		s.cursor++
		if s.cursor == api.Slots {
			s.cursor = 0
		}
	}
	for _, c := range batch {
		s.told[c.Slot] = c.Version
	}
	return batch
}

// dice that always fall the same way.
type dice uint32

func (d *dice) below(n int) int {
	*d = *d*1664525 + 1013904223
	return int(*d>>8) % n
}

// stirs a table by some changes.
func stirs(x *table.Table, d *dice, changes int) {
	for range changes {
		switch d.below(5) {
		case 0, 1:
			x.Add(1+d.below(2), end(d.below(50)), end(d.below(9)), api.Open, d.below(900))
		case 2:
			x.Set(d.below(api.Slots), api.Closing, d.below(900))
		case 3:
			x.Drop(d.below(api.Slots))
		case 4:
			x.Expire(d.below(100))
		}
	}
}

// P60, P61: whatever changes between the batches.
func TestAsTheRuleSays(t *testing.T) {
	for seed := range 20 {
		d, x, s := dice(seed), empty(t), &slow{}
		y := teller.New(x)
		for i := range 300 {
			stirs(x, &d, d.below(1+seed))
			if want := s.lag(x.Cells()); y.Lag() != want {
				t.Fatalf("seed %d, batch %d: lag %d, not %d", seed, i, y.Lag(), want)
			}
			if got, want := y.Next(), s.next(x.Cells()); !slices.Equal(got, want) {
				t.Fatalf("seed %d, batch %d: %v, not %v", seed, i, got, want)
			}
		}
	}
}

// batches that this many slots need.
func need(slots int) int {
	return (slots + api.Batch - 1) / api.Batch
}

func hears(t *testing.T, m *mirror.Mirror, y *teller.Teller, batches int) {
	t.Helper()
	for range batches {
		if err := m.Tell(1, y.Next()); err != nil {
			t.Fatal(err)
		}
	}
}

func has(t *testing.T, m *mirror.Mirror, x *table.Table) {
	t.Helper()
	if !mirror.Same(m.Cells(), x.Cells()) {
		t.Fatalf("the mirror has %v, not %v", m.Cells(), x.Cells())
	}
}

// P62: a mirror that hears all from the beginning has all once the changes are told.
func TestMirrorHasAll(t *testing.T) {
	for seed := range 20 {
		d, x, m := dice(seed), empty(t), mirror.New()
		y := teller.New(x)
		for range 100 {
			stirs(x, &d, d.below(60))
			hears(t, m, y, d.below(3))
			hears(t, m, y, need(y.Lag()))
			lags(t, y, 0)
			has(t, m, x)
		}
	}
}

// P62: so does a mirror that begins late, or missed batches: by as many as all slots need, and once more, where the changes are of one batch; else behind these.
func TestLateMirrorHasAll(t *testing.T) {
	for seed := range 20 {
		d, x := dice(seed), empty(t)
		y := teller.New(x)
		for range 100 {
			stirs(x, &d, d.below(60))
			for range d.below(4) {
				y.Next() // nobody hears it
			}
			m := mirror.New()
			hears(t, m, y, max(1, need(y.Lag()))+need(api.Slots))
			has(t, m, x)
		}
	}
	x, y := full(t)
	y.Next()
	touches(t, x, 0, 1, 2, 3, 4, 5, 6, 31)
	m := mirror.New()
	hears(t, m, y, need(api.Slots)+1)
	has(t, m, x)
}
