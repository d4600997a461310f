package mirror_test

import (
	"math"
	"slices"
	"testing"

	"twinrampart/api"
	"twinrampart/mirror"
	"twinrampart/table"
)

// numbers that are no slot.
var noSlots = []int{-1, -api.Slots, api.Slots, api.Slots + 1, 1 << 32, math.MinInt, math.MaxInt}

func end(n int) api.End { return api.End{Addr: n, Port: 7} }

// cell with a flow that tells its slot and version.
func cell(slot, version int) api.Cell {
	return api.Cell{Slot: slot, Version: version, F: api.Flow{Proto: api.TCP, Inner: end(slot), Far: end(100 + version), Port: 2000 + slot, State: api.Open, Until: 50 + version}}
}

func gone(slot, version int) api.Cell {
	return api.Cell{Slot: slot, Version: version}
}

// all slots, as at the beginning but for these.
func all(l ...api.Cell) []api.Cell {
	cells := make([]api.Cell, api.Slots)
	for i := range cells {
		cells[i].Slot = i
	}
	for _, c := range l {
		cells[c.Slot] = c
	}
	return cells
}

func told(t *testing.T, life int, l ...api.Cell) *mirror.Mirror {
	t.Helper()
	m := mirror.New()
	tells(t, m, life, l...)
	return m
}

func tells(t *testing.T, m *mirror.Mirror, life int, l ...api.Cell) {
	t.Helper()
	if err := m.Tell(life, l); err != nil {
		t.Fatalf("Tell(%d, %v): %v", life, l, err)
	}
}

// holds this life, these cells, and beginnings elsewhere.
func holds(t *testing.T, m *mirror.Mirror, life int, l ...api.Cell) {
	t.Helper()
	if m.Life() != life {
		t.Errorf("life %d, not %d", m.Life(), life)
	}
	if want, got := all(l...), m.Cells(); !slices.Equal(got, want) {
		t.Errorf("cells %v, not %v", got, want)
	}
}

// refuses: the call answers this error, bare, and changes nothing.
func refuses(t *testing.T, m *mirror.Mirror, life int, l []api.Cell, want error) {
	t.Helper()
	before, was := m.Cells(), m.Life()
	if err := m.Tell(life, l); err != want {
		t.Errorf("Tell(%d, %v): %v, not %v", life, l, err, want)
	}
	if m.Life() != was || !slices.Equal(m.Cells(), before) {
		t.Errorf("Tell(%d, %v): %v, and the mirror has changed", life, l, want)
	}
}

// P50: a new mirror is of no life, has no flows, and shares nothing with another one.
func TestNew(t *testing.T) {
	m, other := mirror.New(), mirror.New()
	holds(t, m, 0)
	if l := m.Flows(); len(l) != 0 {
		t.Error(l)
	}
	tells(t, m, 1, cell(0, 1))
	holds(t, other, 0)
	holds(t, m, 1, cell(0, 1))
}

// P50: a cell takes its place if its version is more, as it is told; else the slot stays.
func TestVersions(t *testing.T) {
	m := told(t, 1, cell(0, 1), cell(31, 5))
	holds(t, m, 1, cell(0, 1), cell(31, 5))
	same := cell(31, 5)
	same.F.State = api.Closing
	tells(t, m, 1, same, cell(31, 4), cell(31, 0), cell(31, -1), cell(31, math.MinInt), gone(31, 5))
	holds(t, m, 1, cell(0, 1), cell(31, 5))
	tells(t, m, 1, cell(31, 6), cell(0, 9))
	holds(t, m, 1, cell(0, 9), cell(31, 6))
	tells(t, m, 1, gone(31, 7))
	holds(t, m, 1, cell(0, 9), gone(31, 7))
	tells(t, m, 1, cell(31, math.MaxInt))
	tells(t, m, 1, cell(31, math.MinInt))
	holds(t, m, 1, cell(0, 9), cell(31, math.MaxInt))
}

// P50: versions that are not more than 0 take no place, also of a life that is new.
func TestVersionsBelow(t *testing.T) {
	m := told(t, 4, cell(2, 0), cell(3, -1), cell(4, math.MinInt))
	holds(t, m, 4)
	tells(t, m, 5, cell(2, 0), cell(3, -1), cell(4, math.MinInt))
	holds(t, m, 5)
}

// P50: the cells of one batch go in order.
func TestBatchInOrder(t *testing.T) {
	holds(t, told(t, 1, cell(3, 2), gone(3, 1), cell(5, 1)), 1, cell(3, 2), cell(5, 1))
	holds(t, told(t, 1, gone(3, 1), cell(3, 2), gone(3, 3), cell(3, 3)), 1, gone(3, 3))
	holds(t, told(t, 1, cell(3, 3), gone(3, 3)), 1, cell(3, 3))
}

// P50: what is no flow but has other fields takes its place as it is.
func TestAsTold(t *testing.T) {
	odd := api.Cell{Slot: 6, Version: 1, F: api.Flow{Inner: end(1), Far: end(2), Port: -4, State: 99, Until: math.MinInt}}
	strange := api.Cell{Slot: 7, Version: 1, F: api.Flow{Proto: -3, Inner: end(math.MaxInt), State: -1}}
	m := told(t, 1, odd, strange)
	holds(t, m, 1, odd, strange)
	if l := m.Flows(); !slices.Equal(l, []api.Flow{strange.F}) {
		t.Error(l)
	}
}

// P50: a batch may be empty, and has at most Batch cells, also if they are all the same.
func TestBatchBound(t *testing.T) {
	m := told(t, 1)
	holds(t, m, 1)
	if err := m.Tell(2, nil); err != nil {
		t.Error(err)
	}
	holds(t, m, 2)
	var l []api.Cell
	for slot := range 9 {
		l = append(l, cell(slot, 1))
	}
	refuses(t, m, 2, l, api.ErrBound)
	refuses(t, m, 3, l, api.ErrBound)
	refuses(t, m, 2, make([]api.Cell, 9), api.ErrBound)
	refuses(t, m, 3, make([]api.Cell, 1000), api.ErrBound)
	tells(t, m, 2, l[:8]...)
	holds(t, m, 2, l[:8]...)
}

// P50: with a slot that there is not, or a life below 1, nothing is taken and no life begins.
func TestBound(t *testing.T) {
	some := told(t, 3, cell(1, 1), cell(2, 2))
	for _, m := range []*mirror.Mirror{mirror.New(), some} {
		for _, slot := range noSlots {
			for _, life := range []int{1, 3, 4, math.MaxInt} {
				refuses(t, m, life, []api.Cell{cell(slot, 1)}, api.ErrBound)
				refuses(t, m, life, []api.Cell{cell(0, 1), cell(slot, 0), cell(5, 1)}, api.ErrBound)
				refuses(t, m, life, []api.Cell{cell(0, 1), gone(slot, 9)}, api.ErrBound)
			}
		}
		for _, life := range []int{0, -1, math.MinInt} {
			refuses(t, m, life, nil, api.ErrBound)
			refuses(t, m, life, []api.Cell{cell(0, 9)}, api.ErrBound)
		}
	}
}

// P50: a life that is less is old, and what is out of bounds is told ahead of that.
func TestOld(t *testing.T) {
	m := told(t, 3, cell(1, 1))
	for _, life := range []int{1, 2} {
		refuses(t, m, life, nil, api.ErrOld)
		refuses(t, m, life, []api.Cell{cell(1, 9), cell(6, 9)}, api.ErrOld)
		refuses(t, m, life, make([]api.Cell, 9), api.ErrBound)
		refuses(t, m, life, []api.Cell{cell(6, 9), cell(32, 9)}, api.ErrBound)
	}
	refuses(t, m, 0, nil, api.ErrBound)
	tells(t, m, math.MaxInt, cell(2, 1))
	refuses(t, m, math.MaxInt-1, []api.Cell{cell(2, 2)}, api.ErrOld)
	holds(t, m, math.MaxInt, cell(2, 1))
}

// P50: a life that is more begins anew: flows are gone, and versions count from 0.
func TestNewLife(t *testing.T) {
	m := told(t, 2, cell(1, 9), cell(30, 9))
	tells(t, m, 2)
	holds(t, m, 2, cell(1, 9), cell(30, 9))
	tells(t, m, 3, cell(1, 1), gone(4, 2))
	holds(t, m, 3, cell(1, 1), gone(4, 2))
	tells(t, m, 7)
	holds(t, m, 7)
	if l := m.Flows(); len(l) != 0 {
		t.Error(l)
	}
}

// P51: flows by slots, whatever the order in which they were told.
func TestFlows(t *testing.T) {
	m := told(t, 1, cell(31, 1), cell(4, 1), cell(0, 3), gone(5, 1), cell(17, 2))
	want := []api.Flow{cell(0, 3).F, cell(4, 1).F, cell(17, 2).F, cell(31, 1).F}
	if l := m.Flows(); !slices.Equal(l, want) {
		t.Errorf("%v, not %v", l, want)
	}
	tells(t, m, 1, gone(4, 2))
	if l := m.Flows(); !slices.Equal(l, slices.Delete(want, 1, 2)) {
		t.Error(l)
	}
	for slot := range api.Slots {
		tells(t, m, 2, cell(slot, 1))
	}
	if l := m.Flows(); len(l) != 32 || l[31] != cell(31, 1).F {
		t.Error(l)
	}
}

// P4: nothing that was handed over or answered is the mirror's own.
func TestOwnMemory(t *testing.T) {
	l := []api.Cell{cell(3, 1), cell(4, 1)}
	m := told(t, 1, l...)
	l[0], l[1] = gone(9, 9), gone(10, 9)
	cells, flows := m.Cells(), m.Flows()
	cells[3], flows[1] = gone(9, 9), api.Flow{Proto: 9}
	holds(t, m, 1, cell(3, 1), cell(4, 1))
	if l := m.Flows(); !slices.Equal(l, []api.Flow{cell(3, 1).F, cell(4, 1).F}) {
		t.Error(l)
	}
	tells(t, m, 1, gone(4, 2))
	if cells[4] != cell(4, 1) || flows[0] != cell(3, 1).F {
		t.Error("an answer changes behind it")
	}
}

// P3, P4: what is told is only read, and nothing behind its length.
func TestOnlyRead(t *testing.T) {
	whole := []api.Cell{cell(3, 1), cell(4, 1), cell(5, 1), cell(99, 1)}
	was := slices.Clone(whole)
	m := told(t, 1, whole[:2]...)
	holds(t, m, 1, cell(3, 1), cell(4, 1))
	mirror.Same(whole[:2], whole[1:3])
	if !slices.Equal(whole, was) {
		t.Error(whole)
	}
}

// P51: the same cells, in the same places, field by field.
func TestSame(t *testing.T) {
	a := []api.Cell{cell(1, 1), cell(2, 2)}
	for _, c := range []struct {
		a, b []api.Cell
		want bool
	}{
		{nil, nil, true},
		{nil, []api.Cell{}, true},
		{[]api.Cell{}, nil, true},
		{nil, make([]api.Cell, 1), false},
		{make([]api.Cell, 1), nil, false},
		{a, slices.Clone(a), true},
		{a, a[:1], false},
		{a[:1], a, false},
		{a, append(slices.Clone(a), gone(0, 0)), false},
		{a, []api.Cell{a[1], a[0]}, false},
		{a, []api.Cell{a[0], a[0]}, false},
		{all(a...), all(a[1], a[0]), true},
		{make([]api.Cell, 1000), make([]api.Cell, 1000), true},
	} {
		if got := mirror.Same(c.a, c.b); got != c.want {
			t.Errorf("Same(%v, %v): %t", c.a, c.b, got)
		}
	}
	for i, change := range []func(c *api.Cell){
		func(c *api.Cell) { c.Slot++ },
		func(c *api.Cell) { c.Version++ },
		func(c *api.Cell) { c.F.Proto = api.UDP },
		func(c *api.Cell) { c.F.Inner.Addr++ },
		func(c *api.Cell) { c.F.Inner.Port++ },
		func(c *api.Cell) { c.F.Far.Addr++ },
		func(c *api.Cell) { c.F.Far.Port++ },
		func(c *api.Cell) { c.F.Port++ },
		func(c *api.Cell) { c.F.State++ },
		func(c *api.Cell) { c.F.Until++ },
	} {
		b := slices.Clone(a)
		change(&b[1])
		if mirror.Same(a, b) || mirror.Same(b, a) {
			t.Errorf("change %d: the same", i)
		}
	}
}

// batches of a table's cells as they change, all of them at last; and what it has then.
func batches(t *testing.T) (l [][]api.Cell, last []api.Cell) {
	t.Helper()
	x, err := table.New(1)
	if err != nil {
		t.Fatal(err)
	}
	for i := range 40 {
		x.Add(api.UDP, end(i), end(100), api.Open, i+7)
		if i%3 == 0 {
			x.Set(i%5, api.Closing, i+9)
		}
		x.Expire(i)
		from := i * 5 % (api.Slots - api.Batch + 1)
		l = append(l, x.Cells()[from:from+api.Batch])
	}
	for from := 0; from < api.Slots; from += api.Batch {
		l = append(l, x.Cells()[from:from+api.Batch])
	}
	return l, x.Cells()
}

// hears the batches in this order, each so many times in a row.
func hears(t *testing.T, l [][]api.Cell, order []int, times int) *mirror.Mirror {
	t.Helper()
	m := mirror.New()
	for _, i := range order {
		for range times {
			tells(t, m, 1, l[i]...)
		}
	}
	return m
}

// P52: told twice, or in another order, it is the same.
func TestAnyOrder(t *testing.T) {
	l, want := batches(t)
	var order []int
	for i := range l {
		order = append(order, i)
	}
	if m := hears(t, l, order, 1); !mirror.Same(m.Cells(), want) {
		t.Errorf("as they came: %v, not %v", m.Cells(), want)
	}
	if !slices.ContainsFunc(want, func(c api.Cell) bool { return c.F.Proto != 0 && c.Version > 2 }) {
		t.Fatal("no slot was used twice: ", want)
	}
	for stride := 1; stride < len(l); stride++ {
		mixed := slices.Clone(order)
		for i := range mixed {
			j := (i*stride + stride) % len(mixed)
			mixed[i], mixed[j] = mixed[j], mixed[i]
		}
		if m := hears(t, l, mixed, 1+stride%2); !mirror.Same(m.Cells(), want) {
			t.Errorf("stride %d: %v, not %v", stride, m.Cells(), want)
		}
	}
	slices.Reverse(order)
	if m := hears(t, l, append(order, order...), 2); !mirror.Same(m.Cells(), want) {
		t.Errorf("backwards: %v, not %v", m.Cells(), want)
	}
}

// P52: cells of one batch in another order, too.
func TestAnyOrderInBatch(t *testing.T) {
	batch := []api.Cell{cell(3, 1), gone(3, 2), cell(3, 3), cell(9, 2), gone(9, 1), gone(20, 4), cell(20, 3), cell(0, 1)}
	for range batch {
		batch = append(batch[1:], batch[0])
		holds(t, told(t, 1, batch...), 1, cell(3, 3), cell(9, 2), gone(20, 4), cell(0, 1))
	}
	slices.Reverse(batch)
	holds(t, told(t, 1, batch...), 1, cell(3, 3), cell(9, 2), gone(20, 4), cell(0, 1))
}

// P52: also lives in another order: the greatest one counts.
func TestAnyOrderOfLives(t *testing.T) {
	for _, lives := range [][]int{{1, 2, 3}, {1, 3, 2}, {2, 1, 3}, {2, 3, 1}, {3, 1, 2}, {3, 2, 1}, {3, 3, 1, 2, 3}} {
		m := mirror.New()
		for _, life := range lives {
			m.Tell(life, []api.Cell{cell(life, 10-life), cell(8, 10-life)})
		}
		holds(t, m, 3, cell(3, 7), cell(8, 7))
	}
}
