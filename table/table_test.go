package table_test

import (
	"math"
	"slices"
	"testing"

	"twinrampart/api"
	"twinrampart/table"
)

// numbers that are no slot.
var noSlots = []int{-1, -api.Slots, api.Slots, api.Slots + 1, 1 << 32, math.MinInt, math.MaxInt}

var far = api.End{Addr: 99, Port: 80}

func end(n int) api.End { return api.End{Addr: n, Port: 7} }

func fresh(t *testing.T, node int) *table.Table {
	t.Helper()
	x, err := table.New(node)
	if x == nil || err != nil {
		t.Fatal(x, err)
	}
	return x
}

// full of UDP flows, each to a far end of its own, so that ports are left.
func full(t *testing.T) *table.Table {
	t.Helper()
	x := fresh(t, 0)
	for i := range api.Slots {
		adds(t, x, api.Flow{Proto: api.UDP, Inner: end(i), Far: end(100 + i), Port: 2000, State: api.Open, Until: i}, i)
	}
	return x
}

// adds a flow; its Port is the one that it must get.
func adds(t *testing.T, x *table.Table, f api.Flow, slot int) {
	t.Helper()
	before := versionOf(t, x, slot)
	if got, err := x.Add(f.Proto, f.Inner, f.Far, f.State, f.Until); got != slot || err != nil {
		t.Fatalf("Add of %v: %d, %v; not %d", f, got, err, slot)
	}
	holds(t, x, slot, before+1, f)
}

func puts(t *testing.T, x *table.Table, f api.Flow, slot int) {
	t.Helper()
	before := versionOf(t, x, slot)
	if got, err := x.Put(f); got != slot || err != nil {
		t.Fatalf("Put of %v: %d, %v; not %d", f, got, err, slot)
	}
	holds(t, x, slot, before+1, f)
}

func holds(t *testing.T, x *table.Table, slot, version int, f api.Flow) {
	t.Helper()
	want := api.Cell{Slot: slot, Version: version, F: f}
	if c, err := x.Get(slot); c != want || err != nil {
		t.Fatalf("Get(%d): %v, %v; not %v", slot, c, err, want)
	}
}

func versionOf(t *testing.T, x *table.Table, slot int) int {
	t.Helper()
	c, err := x.Get(slot)
	if err != nil {
		t.Fatal(err)
	}
	return c.Version
}

func finds(t *testing.T, x *table.Table, proto int, inner, far api.End, slot int, want bool) {
	t.Helper()
	if got, is := x.Find(proto, inner, far); got != slot || is != want {
		t.Errorf("Find(%d, %v, %v): %d, %t; not %d, %t", proto, inner, far, got, is, slot, want)
	}
}

func backs(t *testing.T, x *table.Table, proto, port int, far api.End, slot int, want bool) {
	t.Helper()
	if got, is := x.Back(proto, port, far); got != slot || is != want {
		t.Errorf("Back(%d, %d, %v): %d, %t; not %d, %t", proto, port, far, got, is, slot, want)
	}
}

// refuses: the call answers 0 and this error, and changes no slot.
func refuses(t *testing.T, x *table.Table, want error, call func() (int, error)) {
	t.Helper()
	before := x.Cells()
	if got, err := call(); got != 0 || err != want {
		t.Errorf("%d, %v; not %v", got, err, want)
	}
	if !slices.Equal(before, x.Cells()) {
		t.Errorf("%v, and slots have changed", want)
	}
}

func refusesAdd(t *testing.T, x *table.Table, proto int, inner, far api.End, want error) {
	t.Helper()
	refuses(t, x, want, func() (int, error) { return x.Add(proto, inner, far, api.Open, 1) })
}

func refusesPut(t *testing.T, x *table.Table, f api.Flow, want error) {
	t.Helper()
	refuses(t, x, want, func() (int, error) { return x.Put(f) })
}

func refusesSet(t *testing.T, x *table.Table, slot int, want error) {
	t.Helper()
	refuses(t, x, want, func() (int, error) { return 0, x.Set(slot, api.Open, 1) })
}

func refusesDrop(t *testing.T, x *table.Table, slot int, want error) {
	t.Helper()
	refuses(t, x, want, func() (int, error) { return 0, x.Drop(slot) })
}

// P40: a new table has no flow, and no slot of it was changed.
func TestNew(t *testing.T) {
	for node := range 2 {
		x := fresh(t, node)
		for slot := range api.Slots {
			holds(t, x, slot, 0, api.Flow{})
		}
	}
	for _, node := range []int{-1, 2, 3, 1 << 32, math.MinInt, math.MaxInt} {
		if x, err := table.New(node); x != nil || err != api.ErrBound {
			t.Errorf("New(%d): %v, %v", node, x, err)
		}
	}
}

// P40, P42: each node has its own half of the ports, from the least one on; behind the last one none is left.
func TestPorts(t *testing.T) {
	for node, low := range []int{2000, 2024} {
		x := fresh(t, node)
		for i := range 24 {
			adds(t, x, api.Flow{Proto: api.TCP, Inner: end(i), Far: far, Port: low + i, State: api.Opening, Until: 10}, i)
		}
		refusesAdd(t, x, api.TCP, end(24), far, api.ErrFull)
		adds(t, x, api.Flow{Proto: api.UDP, Inner: end(24), Far: far, Port: low, State: api.Open, Until: 60}, 24)
		adds(t, x, api.Flow{Proto: api.TCP, Inner: end(24), Far: end(99), Port: low, State: api.Opening, Until: 10}, 25)
	}
}

// P40: two tables share nothing.
func TestTablesApart(t *testing.T) {
	x, y := fresh(t, 0), fresh(t, 0)
	adds(t, x, api.Flow{Proto: api.UDP, Inner: end(1), Far: far, Port: 2000, State: api.Open, Until: 60}, 0)
	holds(t, y, 0, 0, api.Flow{})
	adds(t, y, api.Flow{Proto: api.UDP, Inner: end(1), Far: far, Port: 2000, State: api.Open, Until: 60}, 0)
}

// P41: a flow is found by all of what it is asked by.
func TestFindBack(t *testing.T) {
	x := fresh(t, 0)
	finds(t, x, api.UDP, end(1), far, 0, false)
	backs(t, x, api.UDP, 2000, far, 0, false)
	x.Add(api.UDP, end(1), far, api.Open, 60)
	x.Add(api.TCP, end(1), far, api.Opening, 10)
	x.Add(api.UDP, end(1), end(98), api.Open, 60)
	x.Add(api.UDP, end(2), far, api.Open, 60)
	finds(t, x, api.UDP, end(1), far, 0, true)
	finds(t, x, api.TCP, end(1), far, 1, true)
	finds(t, x, api.UDP, end(1), end(98), 2, true)
	finds(t, x, api.UDP, end(2), far, 3, true)
	finds(t, x, api.TCP, end(2), far, 0, false)
	finds(t, x, api.UDP, api.End{Addr: 1, Port: 8}, far, 0, false)
	finds(t, x, api.UDP, end(1), api.End{Addr: 99, Port: 81}, 0, false)
	finds(t, x, 3, end(1), far, 0, false)
	backs(t, x, api.UDP, 2000, far, 0, true)
	backs(t, x, api.TCP, 2000, far, 1, true)
	backs(t, x, api.UDP, 2000, end(98), 2, true)
	backs(t, x, api.UDP, 2001, far, 3, true)
	backs(t, x, api.TCP, 2001, far, 0, false)
	backs(t, x, api.UDP, 2000, api.End{Addr: 98, Port: 80}, 0, false)
	backs(t, x, api.UDP, math.MinInt, far, 0, false)
	backs(t, x, math.MaxInt, 2000, far, 0, false)
}

// P41: an empty slot is no flow, not even for what asks by zeros.
func TestFindZero(t *testing.T) {
	x := fresh(t, 0)
	finds(t, x, 0, api.End{}, api.End{}, 0, false)
	backs(t, x, 0, 0, api.End{}, 0, false)
	x.Add(api.UDP, end(1), far, api.Open, 60)
	x.Drop(0)
	finds(t, x, 0, api.End{}, api.End{}, 0, false)
	backs(t, x, 0, 0, api.End{}, 0, false)
	finds(t, x, api.UDP, end(1), far, 0, false)
	backs(t, x, api.UDP, 2000, far, 0, false)
}

// P41: slots that are none.
func TestGetWrong(t *testing.T) {
	x := full(t)
	for _, slot := range noSlots {
		if c, err := x.Get(slot); c != (api.Cell{}) || err != api.ErrBound {
			t.Errorf("Get(%d): %v, %v", slot, c, err)
		}
	}
}

// P41, P4: all cells, by slots, in memory of their own.
func TestCells(t *testing.T) {
	x := full(t)
	x.Drop(5)
	cells := x.Cells()
	if len(cells) != 32 {
		t.Fatal(len(cells))
	}
	for slot, c := range cells {
		if want, err := x.Get(slot); c != want || err != nil || c.Slot != slot {
			t.Errorf("%d: %v; not %v, %v", slot, c, want, err)
		}
	}
	was := cells[3]
	cells[3] = api.Cell{Slot: 9, Version: 9, F: api.Flow{Proto: 9}}
	holds(t, x, was.Slot, was.Version, was.F)
	if x.Cells()[3] != was {
		t.Error("what was answered is the table's own")
	}
	x.Drop(4)
	if cells[4].Version != 1 || cells[4].F.Proto != api.UDP {
		t.Error("an answer changes behind it")
	}
}

// P42: the first slot without a flow and the least port are taken, also between others.
func TestAddBetween(t *testing.T) {
	x := fresh(t, 1)
	for i := range 6 {
		x.Add(api.UDP, end(i), far, api.Open, 60)
	}
	for _, slot := range []int{4, 1} {
		if err := x.Drop(slot); err != nil {
			t.Fatal(err)
		}
		holds(t, x, slot, 2, api.Flow{})
	}
	adds(t, x, api.Flow{Proto: api.TCP, Inner: end(10), Far: far, Port: 2024, State: api.Opening, Until: 3}, 1)
	adds(t, x, api.Flow{Proto: api.UDP, Inner: end(11), Far: far, Port: 2025, State: api.Open, Until: 4}, 4)
	adds(t, x, api.Flow{Proto: api.UDP, Inner: end(12), Far: far, Port: 2028, State: api.Open, Until: 5}, 6)
	adds(t, x, api.Flow{Proto: api.UDP, Inner: end(13), Far: far, Port: 2030, State: api.Open, Until: 6}, 7)
}

// P42: a port that a flow has which was put is taken, too; one of the other half takes nothing away.
func TestAddBesidePut(t *testing.T) {
	x := fresh(t, 0)
	puts(t, x, api.Flow{Proto: api.UDP, Inner: end(1), Far: far, Port: 2000}, 0)
	puts(t, x, api.Flow{Proto: api.UDP, Inner: end(2), Far: far, Port: 2024}, 1)
	adds(t, x, api.Flow{Proto: api.UDP, Inner: end(3), Far: far, Port: 2001, State: api.Open, Until: 60}, 2)
	for i := range 22 {
		adds(t, x, api.Flow{Proto: api.UDP, Inner: end(10 + i), Far: far, Port: 2002 + i, State: api.Open, Until: 60}, 3+i)
	}
	refusesAdd(t, x, api.UDP, end(50), far, api.ErrFull)
}

// P42: what is there is told ahead of a table that is full.
func TestAddRefused(t *testing.T) {
	x := full(t)
	refusesAdd(t, x, api.UDP, end(3), end(103), api.ErrExist)
	refusesAdd(t, x, api.TCP, end(3), end(103), api.ErrFull)
	refusesAdd(t, x, 0, end(3), end(103), api.ErrFull)
	x.Drop(31)
	refusesAdd(t, x, api.UDP, end(3), end(103), api.ErrExist)
	y := fresh(t, 0)
	for i := range api.Half {
		y.Add(api.UDP, end(i), far, api.Open, 60)
	}
	refusesAdd(t, y, api.UDP, end(0), far, api.ErrExist)
	refusesAdd(t, y, api.UDP, end(77), far, api.ErrFull)
}

// P42: nothing that is handed over is checked.
func TestAnything(t *testing.T) {
	x := fresh(t, 0)
	adds(t, x, api.Flow{Proto: -1, Inner: end(-5), Far: api.End{Addr: math.MinInt, Port: math.MaxInt}, Port: 2000, State: 77, Until: math.MinInt}, 0)
	adds(t, x, api.Flow{Proto: math.MaxInt, Port: 2000, State: -1, Until: math.MaxInt}, 1)
	odd := api.Flow{Proto: 3, Inner: end(-1), Far: end(-2), Port: math.MinInt, State: 9, Until: -9}
	puts(t, x, odd, 2)
	finds(t, x, 3, end(-1), end(-2), 2, true)
	backs(t, x, 3, math.MinInt, end(-2), 2, true)
	refusesPut(t, x, odd, api.ErrExist)
	if err := x.Set(2, math.MinInt, math.MaxInt); err != nil {
		t.Fatal(err)
	}
	odd.State, odd.Until = math.MinInt, math.MaxInt
	holds(t, x, 2, 2, odd)
}

// P42: with proto 0 it is laid as it is, and is no flow from then on.
func TestProtoNone(t *testing.T) {
	x := fresh(t, 1)
	none := api.Flow{Inner: end(1), Far: far, Port: 2024, State: api.Open, Until: 1}
	adds(t, x, none, 0)
	finds(t, x, 0, end(1), far, 0, false)
	backs(t, x, 0, 2024, far, 0, false)
	refusesSet(t, x, 0, api.ErrNone)
	refusesDrop(t, x, 0, api.ErrNone)
	if gone := x.Expire(math.MaxInt); len(gone) != 0 {
		t.Error(gone)
	}
	holds(t, x, 0, 1, none)
	adds(t, x, none, 0)
	none.Port = 5
	puts(t, x, none, 0)
	puts(t, x, none, 0)
	puts(t, x, api.Flow{}, 0)
	holds(t, x, 0, 5, api.Flow{})
	adds(t, x, api.Flow{Proto: api.UDP, Inner: end(1), Far: far, Port: 2024, State: api.Open, Until: 60}, 0)
	puts(t, x, none, 1)
	refusesPut(t, full(t), none, api.ErrFull)
}

// P42: a flow is put as it is, unless one is there by its inner end, or by its port.
func TestPut(t *testing.T) {
	x := fresh(t, 0)
	f := api.Flow{Proto: api.TCP, Inner: end(1), Far: far, Port: 2030, State: api.Closing, Until: 5}
	puts(t, x, f, 0)
	byInner, byPort := f, f
	byInner.Port = 2031
	byPort.Inner = end(2)
	refusesPut(t, x, f, api.ErrExist)
	refusesPut(t, x, byInner, api.ErrExist)
	refusesPut(t, x, byPort, api.ErrExist)
	otherProto, otherFar, otherBoth := f, f, f
	otherProto.Proto = api.UDP
	otherFar.Far = end(98)
	otherBoth.Inner, otherBoth.Port = end(2), 2031
	puts(t, x, otherProto, 1)
	puts(t, x, otherFar, 2)
	puts(t, x, otherBoth, 3)
	x.Drop(3)
	x.Drop(1)
	x.Drop(0)
	puts(t, x, byInner, 0)
	puts(t, x, byPort, 1)
}

// P42: what is there is told ahead of a table that is full.
func TestPutRefused(t *testing.T) {
	x := full(t)
	refusesPut(t, x, api.Flow{Proto: api.UDP, Inner: end(3), Far: end(103), Port: 1}, api.ErrExist)
	refusesPut(t, x, api.Flow{Proto: api.UDP, Inner: end(77), Far: end(103), Port: 2000}, api.ErrExist)
	refusesPut(t, x, api.Flow{Proto: api.UDP, Inner: end(77), Far: end(103), Port: 2001}, api.ErrFull)
	x.Drop(17)
	puts(t, x, api.Flow{Proto: api.UDP, Inner: end(77), Far: end(103), Port: 2001}, 17)
}

// P42: a flow's state and until, and nothing else of it; the version counts also where nothing is otherwise.
func TestSet(t *testing.T) {
	x := full(t)
	f := api.Flow{Proto: api.UDP, Inner: end(31), Far: end(131), Port: 2000, State: api.Closing, Until: -4}
	for i := range 3 {
		if err := x.Set(31, api.Closing, -4); err != nil {
			t.Fatal(err)
		}
		holds(t, x, 31, 2+i, f)
	}
	holds(t, x, 30, 1, api.Flow{Proto: api.UDP, Inner: end(30), Far: end(130), Port: 2000, State: api.Open, Until: 30})
}

// P42: Set and Drop of what is no slot, or has no flow.
func TestSetDropWrong(t *testing.T) {
	empty, some := fresh(t, 0), full(t)
	some.Drop(7)
	for _, slot := range noSlots {
		for _, x := range []*table.Table{empty, some} {
			refusesSet(t, x, slot, api.ErrBound)
			refusesDrop(t, x, slot, api.ErrBound)
		}
	}
	for slot := range api.Slots {
		refusesSet(t, empty, slot, api.ErrNone)
		refusesDrop(t, empty, slot, api.ErrNone)
	}
	refusesSet(t, some, 7, api.ErrNone)
	refusesDrop(t, some, 7, api.ErrNone)
}

// P42: the version goes on where a slot gets a new flow.
func TestVersionGoesOn(t *testing.T) {
	x := fresh(t, 0)
	f := api.Flow{Proto: api.UDP, Inner: end(1), Far: far, Port: 2000, State: api.Open, Until: 60}
	for i := range 10 {
		adds(t, x, f, 0)
		holds(t, x, 0, 2*i+1, f)
		if err := x.Drop(0); err != nil {
			t.Fatal(err)
		}
		holds(t, x, 0, 2*i+2, api.Flow{})
	}
	for slot := 1; slot < api.Slots; slot++ {
		holds(t, x, slot, 0, api.Flow{})
	}
}

func expires(t *testing.T, x *table.Table, now int, want ...int) {
	t.Helper()
	before := x.Cells()
	if gone := x.Expire(now); !slices.Equal(gone, want) {
		t.Errorf("Expire(%d): %v, not %v", now, gone, want)
	}
	for _, c := range before {
		if slices.Contains(want, c.Slot) {
			holds(t, x, c.Slot, c.Version+1, api.Flow{})
		} else {
			holds(t, x, c.Slot, c.Version, c.F)
		}
	}
}

// P43: what is until now is gone, what is until later stays.
func TestExpire(t *testing.T) {
	x := fresh(t, 0)
	expires(t, x, math.MaxInt)
	for i, until := range []int{10, 12, 9, 11, 10, math.MaxInt, -3} {
		x.Add(api.UDP, end(i), far, api.Open, until)
	}
	expires(t, x, math.MinInt)
	expires(t, x, -4)
	expires(t, x, 0, 6)
	expires(t, x, 8)
	expires(t, x, 10, 0, 2, 4)
	expires(t, x, 10)
	expires(t, x, 1)
	expires(t, x, math.MaxInt-1, 1, 3)
	expires(t, x, math.MaxInt, 5)
	expires(t, x, math.MaxInt)
}

// P43: all slots at once; and Set puts a flow's end off.
func TestExpireAll(t *testing.T) {
	x := full(t)
	x.Set(31, api.Open, 0)
	x.Set(0, api.Open, 100)
	var want []int
	for slot := 1; slot < api.Slots; slot++ {
		want = append(want, slot)
	}
	expires(t, x, 31, want...)
	expires(t, x, 100, 0)
}

// aloneByBoth: no two flows share proto, port and far, or proto, inner and far, and each one is found in its slot.
func aloneByBoth(t *testing.T, x *table.Table) {
	t.Helper()
	for _, c := range x.Cells() {
		if c.F.Proto != 0 {
			finds(t, x, c.F.Proto, c.F.Inner, c.F.Far, c.Slot, true)
			backs(t, x, c.F.Proto, c.F.Port, c.F.Far, c.Slot, true)
		}
	}
	if t.Failed() {
		t.FailNow()
	}
}

// P44: whatever is called, no two flows are alike by inner end, or by port.
func TestAlways(t *testing.T) {
	seed := uint32(1)
	pick := func(n int) int {
		seed = seed*1664525 + 1013904223
		return int(seed>>16) % n
	}
	x := fresh(t, 0)
	fulls, exists := 0, 0
	for now := range 6000 {
		var err error
		proto, inner, other := pick(4)-1, end(pick(30)), end(100+pick(2))
		switch pick(8) {
		case 0, 1, 2:
			_, err = x.Add(proto, inner, other, api.Open, now+pick(90))
		case 3, 4:
			_, err = x.Put(api.Flow{Proto: proto, Inner: inner, Far: other, Port: 1995 + pick(40), Until: now + pick(90)})
		case 5:
			x.Set(pick(40)-4, pick(4), now+pick(90))
		case 6:
			if pick(3) == 0 {
				x.Drop(pick(40) - 4)
			}
		case 7:
			x.Expire(now)
		}
		if err == api.ErrFull {
			fulls++
		}
		if err == api.ErrExist {
			exists++
		}
		aloneByBoth(t, x)
	}
	if fulls < 20 || exists < 20 {
		t.Errorf("the test has lost its edge: %d full, %d exist", fulls, exists)
	}
}
