package node_test

import (
	"math"
	"math/rand"
	"testing"

	"twinrampart/api"
	"twinrampart/cell"
	"twinrampart/node"
)

// P92: who claims takes over what its mirror has, by slots, each from now for the time of its state.
func TestAdopt(t *testing.T) {
	n := made(t, 0, cell.NewBytes())
	quiet(t, n, 3)
	flows := []api.Flow{
		{Proto: api.TCP, Inner: innerOf(1), Far: far, Port: 2024, State: api.Opening, Until: 7},
		{Proto: api.TCP, Inner: innerOf(2), Far: far, Port: 2025, State: api.Open, Until: 1000},
		{Proto: api.TCP, Inner: innerOf(3), Far: far, Port: 2000, State: api.Closing, Until: -3},
		{Proto: api.UDP, Inner: innerOf(4), Far: far, Port: 2024, State: api.Open},
		{Proto: 3, Inner: innerOf(5), Far: far, Port: -9, State: api.Open, Until: 50},
	}
	var cells []api.Cell
	for i, slot := range []int{4, 9, 20, 2, 31} {
		cells = append(cells, api.Cell{Slot: slot, Version: 5 + i, F: flows[i]})
	}
	cells = append(cells, api.Cell{Slot: 3, Version: 2, F: api.Flow{Inner: innerOf(6), Far: far, Port: 2040}})
	hears(t, n, node.Note{From: 1, Life: 3, Epoch: 1, Cells: cells})
	for slot := range n.Table() {
		has(t, n, slot, 0, api.Flow{})
	}
	ticks(t, n, api.HoldOff+1)
	for slot, x := range []struct{ flow, stays int }{{3, 60}, {0, 10}, {1, 100}, {2, 5}, {4, 0}} {
		f := flows[x.flow]
		f.Until = n.Now() + x.stays
		has(t, n, slot, 1, f)
	}
	has(t, n, 5, 0, api.Flow{})
	if n.Mirror()[9] != cells[1] || n.Epoch() != 2 {
		t.Error(n.Mirror()[9], n.Epoch())
	}
	outside(t, n, tcp(far, public(2025), api.ACK), tcp(far, innerOf(2), api.ACK))
	begins(t, n, tcp(innerOf(1), far, api.ACK), 2024)
	begins(t, n, tcp(inner, far, api.SYN), 2001) // 2000 is an adopted one's
	ticks(t, n, 1)
	has(t, n, 4, 2, api.Flow{})
}

// P92: what a table has already, or has no slot for, is left away; the rest is not.
func TestAdoptRefused(t *testing.T) {
	n := active(t, 0)
	begins(t, n, udp(innerOf(1), far), 2000)
	begins(t, n, udp(innerOf(2), far), 2001)
	for i := range api.Slots - 4 {
		begins(t, n, udp(inner, farTo(100+i)), 2000)
	}
	was := n.Table()
	there := api.Flow{Proto: api.UDP, Inner: innerOf(1), Far: far, Port: 2030}
	port := api.Flow{Proto: api.UDP, Inner: innerOf(3), Far: far, Port: 2001}
	fits := api.Flow{Proto: api.TCP, Inner: innerOf(3), Far: far, Port: 2001, State: api.Open}
	twice := api.Flow{Proto: api.TCP, Inner: innerOf(3), Far: far, Port: 2002, State: api.Open}
	other := api.Flow{Proto: api.TCP, Inner: innerOf(4), Far: far, Port: 2002, State: api.Open}
	beyond := api.Flow{Proto: api.TCP, Inner: innerOf(5), Far: far, Port: 2003, State: api.Open}
	var cells []api.Cell
	for slot, f := range []api.Flow{there, port, fits, twice, other, beyond} {
		cells = append(cells, api.Cell{Slot: slot, Version: 1, F: f})
	}
	hears(t, n, node.Note{From: 1, Life: 1, Epoch: 3, Cells: cells})
	ticks(t, n, api.HoldOff+1)
	fits.Until, other.Until = n.Now()+100, n.Now()+100
	for slot, c := range was[:api.Slots-2] {
		has(t, n, slot, c.Version, c.F)
	}
	has(t, n, api.Slots-2, 1, fits)
	has(t, n, api.Slots-1, 1, other)
	if n.Epoch() != 4 || !n.Active() {
		t.Error(look(n))
	}
}

// P92: nothing is adopted at another tick than that of the claim.
func TestAdoptOnce(t *testing.T) {
	n := active(t, 1)
	hears(t, n, node.Note{From: 0, Life: 1, Cells: []api.Cell{{Version: 1, F: api.Flow{Proto: api.UDP, Inner: inner, Far: far, Port: 2000}}}})
	ticks(t, n, 30)
	for slot := range n.Table() {
		has(t, n, slot, 0, api.Flow{})
	}
}

// P93: a note of the other one is heard by the mirror and the role.
func TestHear(t *testing.T) {
	n := active(t, 0)
	f := api.Flow{Proto: api.UDP, Inner: inner, Far: far, Port: 2024, State: api.Open, Until: 9}
	cells := []api.Cell{{Slot: 5, Version: 2, F: f}}
	hears(t, n, node.Note{From: 1, Life: 4, Epoch: 1, Cells: cells})
	cells[0].Version = 9
	want := seen{active: true, epoch: 2, life: 1, now: 10, table: blank(), mirror: blank()}
	want.mirror[5] = api.Cell{Slot: 5, Version: 2, F: f}
	shows(t, n, want) // a lesser epoch: it stays active
	hears(t, n, node.Note{From: 1, Life: 4, Epoch: 2, Cells: []api.Cell{{Slot: 5, Version: 1}}})
	shows(t, n, want)
	hears(t, n, node.Note{From: 1, Life: 4, Epoch: 3, Cells: []api.Cell{{Slot: 6, Version: 1}, {Slot: 5, Version: 3}}})
	want.active, want.epoch = false, 3
	want.mirror[5], want.mirror[6] = api.Cell{Slot: 5, Version: 3}, api.Cell{Slot: 6, Version: 1}
	shows(t, n, want)
	hears(t, n, node.Note{From: 1, Life: 5, Epoch: api.MaxEpoch})
	want.epoch, want.mirror = api.MaxEpoch, blank()
	shows(t, n, want)
	hears(t, n, node.Note{From: 1, Life: math.MaxInt})
	shows(t, n, want)
}

// P93: a beat ends the silence of a standby, with cells or without, if its epoch is not a lesser one.
func TestHearBeats(t *testing.T) {
	for _, x := range []struct {
		epoch int
		beats bool
	}{{4, false}, {0, false}, {5, true}, {6, true}, {7, true}} {
		n := made(t, 1, holding(t, 1, 5, 0))
		for range 3 {
			quiet(t, n, 3)
			hears(t, n, node.Note{From: 0, Life: 1, Epoch: x.epoch})
		}
		if x.beats {
			quiet(t, n, api.HoldOff)
		}
		if l := ticks(t, n, 1); len(l) == 0 || !n.Active() {
			t.Error(x, n.Now(), l)
		}
	}
}

// P93: notes that are refused, the first error that is so; neither the mirror nor the role has heard them.
func TestHearRefuses(t *testing.T) {
	n := made(t, 0, cell.NewBytes())
	hears(t, n, node.Note{From: 1, Life: 5, Epoch: 3, Cells: []api.Cell{{Slot: 1, Version: 1, F: api.Flow{Proto: api.UDP}}}})
	news := []api.Cell{{Slot: 1, Version: 2}}
	long := make([]api.Cell, api.Batch+1)
	quiet(t, n, api.HoldOff)
	for _, x := range []struct {
		note node.Note
		want error
	}{
		{node.Note{From: 0, Life: 5, Epoch: 5, Cells: news}, api.ErrBound},
		{node.Note{From: 2, Life: 5, Epoch: 5, Cells: news}, api.ErrBound},
		{node.Note{From: -1, Life: 5, Epoch: 5, Cells: news}, api.ErrBound},
		{node.Note{From: math.MinInt, Life: 5, Epoch: 5, Claim: true}, api.ErrBound},
		{node.Note{From: math.MaxInt, Life: 4, Epoch: 5}, api.ErrBound},
		{node.Note{From: 1, Life: 5, Epoch: -1, Cells: news}, api.ErrBound},
		{node.Note{From: 1, Life: 4, Epoch: math.MinInt, Claim: true}, api.ErrBound},
		{node.Note{From: 1, Life: 5, Epoch: api.MaxEpoch + 1, Cells: news}, api.ErrBound},
		{node.Note{From: 1, Life: 4, Epoch: math.MaxInt, Claim: true}, api.ErrBound},
		{node.Note{From: 1, Life: 6, Epoch: 5, Claim: true, Cells: news}, api.ErrShape},
		{node.Note{From: 1, Life: 0, Epoch: 5, Claim: true}, api.ErrShape},
		{node.Note{From: 1, Life: 4, Epoch: 5, Claim: true}, api.ErrShape},
		{node.Note{From: 1, Life: 0, Epoch: 5}, api.ErrBound},
		{node.Note{From: 1, Life: -1, Epoch: 5, Cells: news}, api.ErrBound},
		{node.Note{From: 1, Life: math.MinInt, Epoch: 5}, api.ErrBound},
		{node.Note{From: 1, Life: 6, Epoch: 5, Cells: long}, api.ErrBound},
		{node.Note{From: 1, Life: 4, Epoch: 5, Cells: long}, api.ErrBound},
		{node.Note{From: 1, Life: 6, Epoch: 5, Cells: []api.Cell{news[0], {Slot: -1}}}, api.ErrBound},
		{node.Note{From: 1, Life: 6, Epoch: 5, Cells: []api.Cell{{Slot: api.Slots}}}, api.ErrBound},
		{node.Note{From: 1, Life: 4, Epoch: 5, Cells: news}, api.ErrOld},
		{node.Note{From: 1, Life: 1, Epoch: 3}, api.ErrOld},
	} {
		refusesNote(t, n, x.want, x.note)
	}
	if l := ticks(t, n, 1); len(l) != 1 || n.Epoch() != 4 {
		t.Error("a note that was refused has ended the silence", l)
	}
	m := made(t, 1, cell.NewBytes())
	refusesNote(t, m, api.ErrBound, node.Note{From: 1, Life: 1})
	refusesNote(t, m, api.ErrBound, node.Note{})
}

// P90 to P93: the other one takes over, and gives way to who comes back with a greater epoch.
func TestTakeOver(t *testing.T) {
	n, m := active(t, 0), made(t, 1, cell.NewBytes())
	begins(t, n, tcp(inner, far, api.SYN), 2000)
	outside(t, n, tcp(far, public(2000), api.SYN|api.ACK), tcp(far, inner, api.SYN|api.ACK))
	hears(t, m, ticks(t, n, 2)[1])
	quiet(t, m, api.HoldOff)
	ticks(t, m, 1)
	outside(t, m, tcp(far, public(2000), api.ACK), tcp(far, inner, api.ACK))
	begins(t, m, tcp(inner, far, api.ACK), 2000)
	begins(t, m, tcp(innerOf(11), far, api.SYN), 2024)
	batch := ticks(t, m, 2)[1]
	hears(t, n, batch)
	if n.Active() || n.Epoch() != 3 || n.Mirror()[1].F.Port != 2024 {
		t.Error(look(n))
	}
	quiet(t, n, api.HoldOff)
	ticks(t, n, 1)
	outside(t, n, tcp(far, public(2024), api.SYN|api.ACK), tcp(far, innerOf(11), api.SYN|api.ACK))
	begins(t, n, tcp(innerOf(12), far, api.SYN), 2001)
	hears(t, m, ticks(t, n, 2)[1])
	if m.Active() || m.Epoch() != 4 || n.Epoch() != 4 {
		t.Error(look(m))
	}
}

// P94: whatever comes, a port that is given out is of the node's own half, or was adopted.
func TestPortsAlways(t *testing.T) {
	for seed := range 30 {
		r := rand.New(rand.NewSource(int64(seed)))
		pair := [2]*node.Node{made(t, 0, cell.NewBytes()), made(t, 1, cell.NewBytes())}
		adopted := [2]map[api.Flow]int{{}, {}}
		for range 600 {
			id := r.Intn(2)
			n, lower := pair[id], api.FirstPort+id*api.Half
			far := farTo(80 + r.Intn(3))
			switch r.Intn(4) {
			case 0, 1:
				p := tcp(innerOf(r.Intn(30)), far, []int{api.SYN, api.SYN, api.SYN, api.FIN, api.RST}[r.Intn(5)])
				q, err := n.Inside(p)
				own := lower <= q.Src.Port && q.Src.Port < lower+api.Half
				if err == nil && !own && adopted[id][api.Flow{Proto: api.TCP, Inner: p.Src, Far: far, Port: q.Src.Port}] == 0 {
					t.Fatal(seed, id, p, q)
				}
			case 2:
				n.Outside(tcp(far, public(api.FirstPort+r.Intn(2*api.Half)), []int{api.SYN | api.ACK, api.ACK, api.FIN}[r.Intn(3)]))
			case 3:
				was := n.Active()
				l := ticks(t, n, 1+r.Intn(3))
				for _, c := range n.Mirror() {
					if f := c.F; f.Proto != 0 && !was && n.Active() {
						adopted[id][api.Flow{Proto: f.Proto, Inner: f.Inner, Far: f.Far, Port: f.Port}]++
					}
				}
				for _, x := range l {
					if !x.Claim && r.Intn(4) > 0 {
						hears(t, pair[1-id], x)
					}
				}
			}
		}
		if pair[0].Epoch()+pair[1].Epoch() < 4 {
			t.Error(seed, "nobody took over")
		}
	}
}
