package node_test

import (
	"encoding/binary"
	"errors"
	"hash/crc32"
	"math"
	"reflect"
	"slices"
	"testing"

	"twinrampart/api"
	"twinrampart/cell"
	"twinrampart/mirror"
	"twinrampart/node"
)

var (
	inner = api.End{Addr: 10, Port: 100}
	far   = api.End{Addr: 77, Port: 80}
)

// admitting: all from inside to ports up to 1000.
func admitting() []api.Rule {
	return []api.Rule{{Allow: true, Out: true, Low: 1, Top: 1000}}
}

func tcp(src, dst api.End, flags int) api.Packet {
	return api.Packet{Proto: api.TCP, Src: src, Dst: dst, Flags: flags}
}

func udp(src, dst api.End) api.Packet {
	return api.Packet{Proto: api.UDP, Src: src, Dst: dst}
}

func public(port int) api.End { return api.End{Addr: api.Public, Port: port} }

func farTo(port int) api.End { return api.End{Addr: far.Addr, Port: port} }

func innerOf(addr int) api.End { return api.End{Addr: addr, Port: inner.Port} }

func made(t *testing.T, id int, b *cell.Bytes) *node.Node {
	t.Helper()
	n, err := node.New(id, b, admitting())
	if n == nil || err != nil {
		t.Fatal(id, n, err)
	}
	return n
}

// active node, at the tick behind its first silence.
func active(t *testing.T, id int) *node.Node {
	t.Helper()
	n := made(t, id, cell.NewBytes())
	ticks(t, n, api.HoldOff+1)
	if !n.Active() {
		t.Fatal("no claim")
	}
	return n
}

func ticks(t *testing.T, n *node.Node, many int) []node.Note {
	t.Helper()
	var all []node.Note
	for range many {
		l, err := n.Tick()
		if err != nil {
			t.Fatal(n.Now(), err)
		}
		all = append(all, l...)
	}
	return all
}

// quiet ticks: no note, and it stays a standby.
func quiet(t *testing.T, n *node.Node, many int) {
	t.Helper()
	if l := ticks(t, n, many); len(l) != 0 || n.Active() {
		t.Fatal(n.Now(), n.Active(), l)
	}
}

func inside(t *testing.T, n *node.Node, p, want api.Packet) {
	t.Helper()
	if got, err := n.Inside(p); err != nil || got != want {
		t.Errorf("inside %v: %v, %v; not %v", p, got, err, want)
	}
}

func outside(t *testing.T, n *node.Node, p, want api.Packet) {
	t.Helper()
	if got, err := n.Outside(p); err != nil || got != want {
		t.Errorf("outside %v: %v, %v; not %v", p, got, err, want)
	}
}

// begins a flow of this packet's, with this port.
func begins(t *testing.T, n *node.Node, p api.Packet, port int) {
	t.Helper()
	want := p
	want.Src = public(port)
	inside(t, n, p, want)
}

func hears(t *testing.T, n *node.Node, x node.Note) {
	t.Helper()
	if err := n.Hear(x); err != nil {
		t.Fatal(x, err)
	}
}

// has just this cell in a slot.
func has(t *testing.T, n *node.Node, slot, version int, f api.Flow) {
	t.Helper()
	if got, want := n.Table()[slot], (api.Cell{Slot: slot, Version: version, F: f}); got != want {
		t.Errorf("tick %d: %v, not %v", n.Now(), got, want)
	}
}

// seen: all that a node shows.
type seen struct {
	active           bool
	epoch, life, now int
	table, mirror    []api.Cell
}

func look(n *node.Node) seen {
	return seen{n.Active(), n.Epoch(), n.Life(), n.Now(), n.Table(), n.Mirror()}
}

func blank() []api.Cell {
	l := make([]api.Cell, api.Slots)
	for i := range l {
		l[i].Slot = i
	}
	return l
}

// shows just this.
func shows(t *testing.T, n *node.Node, want seen) {
	t.Helper()
	if got := look(n); !reflect.DeepEqual(got, want) {
		t.Errorf("%v, not %v", got, want)
	}
}

// refuses with just this error, bare, and is as it was.
func refuses(t *testing.T, n *node.Node, want error, call func() (api.Packet, error)) {
	t.Helper()
	was := look(n)
	if p, err := call(); err != want || p != (api.Packet{}) {
		t.Errorf("%v, %v; not %v", p, err, want)
	}
	shows(t, n, was)
}

func refusesInside(t *testing.T, n *node.Node, want error, p api.Packet) {
	t.Helper()
	refuses(t, n, want, func() (api.Packet, error) { return n.Inside(p) })
}

func refusesOutside(t *testing.T, n *node.Node, want error, p api.Packet) {
	t.Helper()
	refuses(t, n, want, func() (api.Packet, error) { return n.Outside(p) })
}

func refusesNote(t *testing.T, n *node.Node, want error, x node.Note) {
	t.Helper()
	refuses(t, n, want, func() (api.Packet, error) { return api.Packet{}, n.Hear(x) })
}

// holding: bytes whose cell has these numbers.
func holding(t *testing.T, number uint32, epoch, life int) *cell.Bytes {
	t.Helper()
	var all [api.MaxBytes]byte
	at := 20 * (number % 2)
	for i, n := range []uint32{number, uint32(epoch), uint32(life)} {
		binary.BigEndian.PutUint32(all[at+4*uint32(i):], n)
	}
	binary.BigEndian.PutUint32(all[at+12:], crc32.ChecksumIEEE(all[at:at+12]))
	all[at+16] = 165
	b := cell.NewBytes()
	if err := b.Lay(string(all[:])); err != nil {
		t.Fatal(err)
	}
	return b
}

func holds(t *testing.T, b *cell.Bytes, epoch, life int) {
	t.Helper()
	b.On()
	c, err := cell.Open(b)
	if err != nil || c.Epoch() != epoch || c.Life() != life {
		t.Errorf("epoch %d, life %d, %v; not %d, %d", c.Epoch(), c.Life(), err, epoch, life)
	}
}

// P90: a node begins with nothing but its next life, and the epoch that its bytes have.
func TestNew(t *testing.T) {
	for _, id := range []int{0, 1} {
		b := cell.NewBytes()
		for life := 1; life <= 3; life++ {
			n := made(t, id, b)
			shows(t, n, seen{life: life, table: blank(), mirror: blank()})
			holds(t, b, 0, life)
		}
		for _, x := range []struct{ epoch, life int }{{7, 4}, {8, 0}, {api.MaxEpoch, api.MaxEpoch - 1}} {
			b := holding(t, 6, x.epoch, x.life)
			shows(t, made(t, id, b), seen{epoch: x.epoch, life: x.life + 1, table: blank(), mirror: blank()})
			holds(t, b, x.epoch, x.life+1)
		}
	}
}

// P90: what flows there were, and that it was active, is gone in another life; its epoch is not.
func TestNewAnew(t *testing.T) {
	b := cell.NewBytes()
	n := made(t, 1, b)
	hears(t, n, node.Note{From: 0, Life: 1, Epoch: 6, Cells: []api.Cell{{Slot: 2, Version: 1, F: api.Flow{Proto: api.UDP}}}})
	ticks(t, n, api.HoldOff+1)
	begins(t, n, udp(inner, far), 2024)
	n = made(t, 1, b)
	shows(t, n, seen{epoch: 7, life: 2, table: blank(), mirror: blank()})
	quiet(t, n, api.HoldOff)
	if l := ticks(t, n, 1); len(l) != 1 || !reflect.DeepEqual(l[0], node.Note{From: 1, Life: 2, Epoch: 9, Claim: true}) {
		t.Error(l)
	}
	holds(t, b, 9, 2)
}

// P90: errors of New, the first that is so, bare but for a rule's; the bytes stay as they are.
func TestNewRefuses(t *testing.T) {
	many, wrong := make([]api.Rule, api.MaxRules+1), append(admitting(), api.Rule{Low: 2, Top: 1})
	off := cell.NewBytes()
	off.Off()
	for _, x := range []struct {
		id    int
		b     *cell.Bytes
		rules []api.Rule
		want  error
		at    int
	}{
		{2, nil, wrong, api.ErrBound, -1},
		{-1, nil, wrong, api.ErrBound, -1},
		{3, cell.NewBytes(), nil, api.ErrBound, -1},
		{math.MinInt, off, nil, api.ErrBound, -1},
		{math.MaxInt, off, nil, api.ErrBound, -1},
		{0, nil, many, api.ErrBound, -1},
		{1, nil, wrong, api.ErrBound, 1},
		{1, off, wrong, api.ErrBound, 1},
		{1, cell.NewBytes(), wrong, api.ErrBound, 1},
		{0, nil, nil, api.ErrShape, -1},
		{1, nil, admitting(), api.ErrShape, -1},
		{0, off, admitting(), api.ErrOff, -1},
		{0, holding(t, 1, 0, api.MaxEpoch), nil, api.ErrBound, -1},
		{1, holding(t, 1, api.MaxEpoch, api.MaxEpoch), nil, api.ErrBound, -1},
		{0, holding(t, 1, 0, math.MaxUint32), nil, api.ErrBound, -1},
		{0, holding(t, 1, api.MaxEpoch+1, 0), nil, api.ErrBound, -1},
		{0, holding(t, math.MaxUint32, 3, api.MaxEpoch), nil, api.ErrBound, -1},
		{0, holding(t, math.MaxUint32, 3, 4), nil, api.ErrFull, -1},
	} {
		var was string
		if x.b != nil {
			was = x.b.All()
		}
		n, err := node.New(x.id, x.b, x.rules)
		at := -1
		if f := (*api.Fault)(nil); errors.As(err, &f) {
			at, err = f.At, f.Err
		}
		if n != nil || err != x.want || at != x.at {
			t.Error(x, n, err, at)
		}
		if x.b != nil && x.b.All() != was {
			t.Error("written:", x)
		}
	}
}

// P90: power may fail while the life is written: there is no node then, and no life is told twice.
func TestNewCut(t *testing.T) {
	for bytes := range 40 {
		b := holding(t, 4, 8, 3)
		b.Cut(bytes)
		n, err := node.New(0, b, nil)
		if err == nil {
			if n.Life() != 4 {
				t.Error(bytes, n.Life())
			}
			holds(t, b, 8, 4)
			continue
		}
		if n != nil || err != api.ErrOff || bytes > 20 {
			t.Error(bytes, n, err)
		}
		holds(t, b, 8, 3)
	}
}

// P90: a standby lets nothing through; what is no packet is told ahead of that.
func TestStandby(t *testing.T) {
	n := made(t, 0, cell.NewBytes())
	p := tcp(inner, far, api.SYN)
	refusesInside(t, n, api.ErrState, p)
	refusesInside(t, n, api.ErrState, tcp(inner, farTo(2000), api.ACK))
	refusesOutside(t, n, api.ErrState, tcp(far, public(2000), api.ACK))
	refusesOutside(t, n, api.ErrState, tcp(far, far, api.ACK))
	wrong(t, n)
	ticks(t, n, api.HoldOff+1)
	wrong(t, n)
	begins(t, n, p, 2000)
	hears(t, n, node.Note{From: 1, Life: 1, Epoch: 3})
	refusesInside(t, n, api.ErrState, p)
	refusesOutside(t, n, api.ErrState, tcp(far, public(2000), api.ACK))
}

// wrong packets, both ways.
func wrong(t *testing.T, n *node.Node) {
	t.Helper()
	for _, x := range []struct {
		p    api.Packet
		want error
	}{
		{api.Packet{}, api.ErrBound},
		{api.Packet{Proto: 3, Src: inner, Dst: far}, api.ErrBound},
		{udp(api.End{Addr: -1, Port: 1}, far), api.ErrBound},
		{udp(inner, api.End{Addr: api.MaxAddr + 1, Port: 1}), api.ErrBound},
		{udp(inner, farTo(0)), api.ErrBound},
		{udp(farTo(api.MaxPort+1), far), api.ErrBound},
		{tcp(inner, far, 16), api.ErrBound},
		{tcp(inner, far, math.MinInt), api.ErrBound},
		{api.Packet{Proto: api.UDP, Src: inner, Dst: far, Flags: api.ACK}, api.ErrShape},
	} {
		refusesInside(t, n, x.want, x.p)
		refusesOutside(t, n, x.want, x.p)
	}
}

// P90: a flow begins, with the least port of the node's own; the first of node 0 is 2000, of node 1 2024.
func TestInsideBegins(t *testing.T) {
	for id, first := range []int{2000, 2024} {
		n := active(t, id)
		begins(t, n, tcp(inner, far, api.SYN), first)
		begins(t, n, udp(inner, far), first)
		begins(t, n, udp(innerOf(11), far), first+1)
		begins(t, n, udp(innerOf(11), farTo(81)), first)
		has(t, n, 0, 1, api.Flow{Proto: api.TCP, Inner: inner, Far: far, Port: first, State: api.Opening, Until: 20})
		has(t, n, 1, 1, api.Flow{Proto: api.UDP, Inner: inner, Far: far, Port: first, State: api.Open, Until: 70})
		has(t, n, 2, 1, api.Flow{Proto: api.UDP, Inner: innerOf(11), Far: far, Port: first + 1, State: api.Open, Until: 70})
		has(t, n, 3, 1, api.Flow{Proto: api.UDP, Inner: innerOf(11), Far: farTo(81), Port: first, State: api.Open, Until: 70})
		has(t, n, 4, 0, api.Flow{})
	}
}

// P90: a packet of a flow goes on by its port, and the flow goes on from now.
func TestInsideGoesOn(t *testing.T) {
	n := active(t, 0)
	begins(t, n, tcp(inner, far, api.SYN), 2000)
	f := api.Flow{Proto: api.TCP, Inner: inner, Far: far, Port: 2000}
	for i, x := range []struct{ wait, flags, state, stays int }{
		{0, api.SYN, api.Opening, 10},
		{2, api.ACK, api.Opening, 10},
		{9, api.SYN | api.ACK, api.Opening, 10}, // the far end's to say
		{1, 0, api.Opening, 10},
		{1, api.FIN | api.ACK, api.Closing, 5},
		{4, api.ACK, api.Closing, 5},
		{1, api.SYN, api.Closing, 5},
	} {
		ticks(t, n, x.wait)
		begins(t, n, tcp(inner, far, x.flags), 2000)
		f.State, f.Until = x.state, n.Now()+x.stays
		has(t, n, 0, 2+i, f)
	}
	begins(t, n, udp(inner, far), 2000)
	ticks(t, n, 4)
	begins(t, n, udp(inner, far), 2000)
	has(t, n, 1, 2, api.Flow{Proto: api.UDP, Inner: inner, Far: far, Port: 2000, State: api.Open, Until: n.Now() + 60})
}

// P90: a reset ends a flow, and goes on itself.
func TestInsideGone(t *testing.T) {
	n := active(t, 1)
	begins(t, n, udp(inner, far), 2024)
	begins(t, n, tcp(innerOf(9), far, api.SYN), 2024)
	begins(t, n, tcp(inner, far, api.SYN), 2025)
	begins(t, n, tcp(inner, far, api.RST|api.ACK), 2025)
	has(t, n, 2, 2, api.Flow{})
	if n.Table()[1].F.Proto != api.TCP {
		t.Error("another one is gone")
	}
	refusesInside(t, n, api.ErrState, tcp(inner, far, api.ACK))
	refusesInside(t, n, api.ErrState, tcp(inner, far, api.RST))
	refusesOutside(t, n, api.ErrNone, tcp(far, public(2025), api.ACK))
	begins(t, n, tcp(inner, far, api.SYN), 2025)
	has(t, n, 2, 3, api.Flow{Proto: api.TCP, Inner: inner, Far: far, Port: 2025, State: api.Opening, Until: 20})
}

// P90: a flow is one of proto and both ends: what differs in one of them is another one's.
func TestInsideAnother(t *testing.T) {
	n := active(t, 0)
	begins(t, n, tcp(inner, far, api.SYN), 2000)
	for _, p := range []api.Packet{
		tcp(innerOf(11), far, api.ACK),
		tcp(api.End{Addr: inner.Addr, Port: inner.Port + 1}, far, api.ACK),
		tcp(inner, farTo(81), api.ACK),
		tcp(inner, api.End{Addr: far.Addr + 1, Port: far.Port}, api.ACK),
		tcp(far, inner, api.ACK),
	} {
		refusesInside(t, n, api.ErrState, p)
	}
}

// P90: what the policy does not admit, ahead of what no flow begins with.
func TestInsideDenied(t *testing.T) {
	n := active(t, 0)
	for _, p := range []api.Packet{tcp(inner, farTo(1001), api.SYN), tcp(inner, farTo(1001), api.ACK), udp(inner, farTo(1001))} {
		refusesInside(t, n, api.ErrDeny, p)
	}
	refusesInside(t, n, api.ErrState, tcp(inner, farTo(1000), api.SYN|api.ACK))
	begins(t, n, udp(inner, farTo(1000)), 2000)
	for _, rules := range [][]api.Rule{nil, {}, {{Allow: true, Low: 1, Top: api.MaxPort}}, {{Out: true, Low: 1, Top: 100}, {Allow: true, Out: true, Low: 1, Top: 100}}} {
		if err := n.Rules(rules); err != nil {
			t.Fatal(err)
		}
		refusesInside(t, n, api.ErrDeny, udp(inner, far))
		begins(t, n, udp(inner, farTo(1000)), 2000)
	}
}

// P90: no port is left, or no slot; what begins no flow is told ahead.
func TestInsideFull(t *testing.T) {
	n := active(t, 1)
	for i := range api.Half {
		begins(t, n, udp(innerOf(i), far), 2024+i)
	}
	refusesInside(t, n, api.ErrFull, udp(innerOf(api.Half), far))
	for i := range api.Slots - api.Half {
		begins(t, n, udp(inner, farTo(100+i)), 2024)
	}
	refusesInside(t, n, api.ErrFull, udp(inner, farTo(200)))
	refusesInside(t, n, api.ErrFull, tcp(inner, far, api.SYN))
	refusesInside(t, n, api.ErrState, tcp(inner, far, api.ACK))
	refusesInside(t, n, api.ErrDeny, tcp(inner, farTo(1001), api.SYN))
	begins(t, n, udp(innerOf(3), far), 2027)
}

// P91: an answer goes to the inner end, and brings its flow on from outside.
func TestOutside(t *testing.T) {
	n := active(t, 0)
	begins(t, n, udp(innerOf(11), far), 2000)
	begins(t, n, tcp(innerOf(12), far, api.SYN), 2000)
	begins(t, n, tcp(inner, far, api.SYN), 2001)
	f := api.Flow{Proto: api.TCP, Inner: inner, Far: far, Port: 2001}
	for i, x := range []struct{ wait, flags, state, stays int }{
		{0, api.SYN, api.Opening, 10},
		{3, api.ACK, api.Opening, 10},
		{3, api.SYN | api.ACK, api.Open, 100},
		{3, api.SYN, api.Open, 100},
		{50, 0, api.Open, 100},
		{1, api.FIN, api.Closing, 5},
		{4, api.SYN | api.ACK, api.Closing, 5},
	} {
		ticks(t, n, x.wait)
		outside(t, n, tcp(far, public(2001), x.flags), tcp(far, inner, x.flags))
		f.State, f.Until = x.state, n.Now()+x.stays
		has(t, n, 2, 2+i, f)
	}
	n = active(t, 1)
	begins(t, n, udp(inner, far), 2024)
	ticks(t, n, 59)
	outside(t, n, udp(far, public(2024)), udp(far, inner))
	has(t, n, 0, 2, api.Flow{Proto: api.UDP, Inner: inner, Far: far, Port: 2024, State: api.Open, Until: n.Now() + 60})
}

// P91: a reset from outside ends its flow alone, and goes on.
func TestOutsideGone(t *testing.T) {
	n := active(t, 0)
	begins(t, n, tcp(innerOf(9), far, api.SYN), 2000)
	begins(t, n, tcp(inner, far, api.SYN), 2001)
	outside(t, n, tcp(far, public(2001), api.RST), tcp(far, inner, api.RST))
	has(t, n, 1, 2, api.Flow{})
	refusesOutside(t, n, api.ErrNone, tcp(far, public(2001), api.RST))
	refusesInside(t, n, api.ErrState, tcp(inner, far, api.ACK))
	outside(t, n, tcp(far, public(2000), api.ACK), tcp(far, innerOf(9), api.ACK))
}

// P91: the address that is not Public, ahead of the flow that there is not; the policy is not asked.
func TestOutsideRefuses(t *testing.T) {
	n := active(t, 0)
	begins(t, n, tcp(inner, far, api.SYN), 2000)
	refusesOutside(t, n, api.ErrShape, tcp(far, api.End{Addr: 0, Port: 2000}, api.ACK))
	refusesOutside(t, n, api.ErrShape, tcp(far, api.End{Addr: 2, Port: 2001}, api.ACK))
	refusesOutside(t, n, api.ErrShape, tcp(far, inner, api.ACK))
	for _, p := range []api.Packet{
		tcp(far, public(2001), api.ACK),
		tcp(far, public(2001), api.SYN),
		tcp(farTo(81), public(2000), api.ACK),
		tcp(api.End{Addr: 78, Port: 80}, public(2000), api.ACK),
		udp(far, public(2000)),
		tcp(public(2000), public(2000), api.ACK),
	} {
		refusesOutside(t, n, api.ErrNone, p)
	}
	if err := n.Rules([]api.Rule{{Low: 1, Top: api.MaxPort}, {Out: true, Low: 1, Top: api.MaxPort}}); err != nil {
		t.Fatal(err)
	}
	outside(t, n, tcp(far, public(2000), api.ACK), tcp(far, inner, api.ACK))
	refusesOutside(t, n, api.ErrNone, tcp(far, public(2001), api.ACK))
}

// P91: rules that are none change nothing; others count from then on, also those that a standby is given.
func TestRules(t *testing.T) {
	n := made(t, 0, cell.NewBytes())
	if err := n.Rules(make([]api.Rule, api.MaxRules+1)); err != api.ErrBound {
		t.Error(err)
	}
	for at := range 3 {
		l := slices.Repeat([]api.Rule{{Out: true, Low: 1, Top: 1000}}, 3)
		l[at].Proto = -1
		var f *api.Fault
		if err := n.Rules(l); !errors.As(err, &f) || f.At != at || f.Err != api.ErrBound {
			t.Error(at, err)
		}
	}
	ticks(t, n, api.HoldOff+1)
	begins(t, n, udp(inner, far), 2000)
	n = made(t, 0, cell.NewBytes())
	if err := n.Rules([]api.Rule{{Allow: true, Out: true, Proto: api.TCP, Low: 80, Top: 80}}); err != nil {
		t.Fatal(err)
	}
	ticks(t, n, api.HoldOff+1)
	refusesInside(t, n, api.ErrDeny, udp(inner, far))
	begins(t, n, tcp(inner, far, api.SYN), 2000)
}

// P4: rules that are handed over are not kept.
func TestRulesAreCopied(t *testing.T) {
	rules := admitting()
	n, err := node.New(0, cell.NewBytes(), rules)
	if err != nil {
		t.Fatal(err)
	}
	ticks(t, n, api.HoldOff+1)
	rules[0].Allow = false
	begins(t, n, udp(inner, far), 2000)
	rules[0].Allow = true
	if err := n.Rules(rules); err != nil {
		t.Fatal(err)
	}
	rules[0].Allow = false
	begins(t, n, udp(inner, farTo(81)), 2000)
}

// P4: what is answered is nobody else's.
func TestAnswersAreCopies(t *testing.T) {
	n, m := active(t, 0), made(t, 1, cell.NewBytes())
	begins(t, n, udp(inner, far), 2000)
	l := ticks(t, n, 2)
	hears(t, m, l[1])
	was, wasOther := look(n), look(m)
	for _, cells := range [][]api.Cell{n.Table(), n.Mirror(), m.Mirror(), m.Table(), l[1].Cells} {
		cells[0] = api.Cell{Slot: 9, Version: 9}
	}
	shows(t, n, was)
	shows(t, m, wasOther)
	if next := ticks(t, n, 3); next[1].Cells[0].Slot != api.Batch {
		t.Error(next)
	}
}

// P92: ten ticks of silence, a claim, and from then on a claim and a batch at each third tick.
func TestTick(t *testing.T) {
	for id, epoch := range []int{2, 1} {
		b := cell.NewBytes()
		n := made(t, id, b)
		quiet(t, n, api.HoldOff)
		holds(t, b, 0, 1)
		for tick := api.HoldOff + 1; tick < 40; tick++ {
			claim := node.Note{From: id, Life: 1, Epoch: epoch, Claim: true}
			l := ticks(t, n, 1)
			due := tick%api.Every == 0
			if (due || tick == api.HoldOff+1) != (len(l) > 0) || due != (len(l) == 2) {
				t.Fatal(tick, l)
			}
			if len(l) > 0 && !reflect.DeepEqual(l[0], claim) {
				t.Error(tick, l[0])
			}
			claim.Claim = false
			if due {
				claim.Cells = l[1].Cells
				if !reflect.DeepEqual(l[1], claim) || len(l[1].Cells) != api.Batch {
					t.Error(tick, l[1])
				}
			}
			if n.Now() != tick || !n.Active() || n.Epoch() != epoch {
				t.Error(tick, look(n))
			}
			holds(t, b, epoch, 1)
		}
	}
}

// P92: a claim at a tick that is a multiple of Every anyway is told once, and the batch behind it.
func TestTickClaimsWhenDue(t *testing.T) {
	n := made(t, 1, cell.NewBytes())
	quiet(t, n, 2)
	cells := []api.Cell{{Slot: 30, Version: 2, F: api.Flow{Proto: api.UDP, Inner: inner, Far: far, Port: 2003}}}
	hears(t, n, node.Note{From: 0, Life: 7, Epoch: 4, Cells: cells})
	quiet(t, n, api.HoldOff)
	l := ticks(t, n, 1)
	if n.Now() != 12 || len(l) != 2 || !reflect.DeepEqual(l[0], node.Note{From: 1, Life: 1, Epoch: 5, Claim: true}) {
		t.Fatal(n.Now(), l)
	}
	first := api.Cell{Version: 1, F: api.Flow{Proto: api.UDP, Inner: inner, Far: far, Port: 2003, Until: 72}}
	if l[1].Claim || l[1].From != 1 || l[1].Life != 1 || l[1].Epoch != 5 || len(l[1].Cells) != api.Batch || l[1].Cells[0] != first {
		t.Error(l[1])
	}
}

// P92: a batch has what changed since the last one first, and the rest round by round.
func TestTickTells(t *testing.T) {
	n, m := active(t, 0), made(t, 1, cell.NewBytes())
	for i := range api.Slots {
		begins(t, n, udp(inner, farTo(1+i)), 2000)
	}
	slots := func(x node.Note) []int {
		var l []int
		for _, c := range x.Cells {
			if c != n.Table()[c.Slot] {
				t.Error(c)
			}
			l = append(l, c.Slot)
		}
		hears(t, m, x)
		return l
	}
	ticks(t, n, 1)
	for i := range api.Slots / api.Batch {
		if got := slots(ticks(t, n, api.Every)[1]); got[0] != i*api.Batch || got[7] != i*api.Batch+7 {
			t.Error(got)
		}
	}
	if !mirror.Same(m.Mirror(), n.Table()) {
		t.Error(m.Mirror())
	}
	begins(t, n, udp(inner, farTo(31)), 2000)
	if got := slots(ticks(t, n, api.Every)[1]); !slices.Equal(got, []int{30, 0, 1, 2, 3, 4, 5, 6}) {
		t.Error(got)
	}
	if !mirror.Same(m.Mirror(), n.Table()) {
		t.Error(m.Mirror())
	}
}

// P92: flows whose time is through are gone at the tick, of a standby too.
func TestTickExpires(t *testing.T) {
	n := active(t, 0)
	begins(t, n, tcp(inner, far, api.SYN), 2000)
	begins(t, n, udp(inner, far), 2000)
	ticks(t, n, 9)
	begins(t, n, udp(inner, farTo(81)), 2000)
	has(t, n, 0, 1, api.Flow{Proto: api.TCP, Inner: inner, Far: far, Port: 2000, State: api.Opening, Until: 20})
	ticks(t, n, 1)
	has(t, n, 0, 2, api.Flow{})
	refusesOutside(t, n, api.ErrNone, tcp(far, public(2000), api.ACK))
	for n.Now() < 69 {
		hears(t, n, node.Note{From: 1, Life: 1, Epoch: 3})
		quiet(t, n, 1)
	}
	has(t, n, 1, 1, api.Flow{Proto: api.UDP, Inner: inner, Far: far, Port: 2000, State: api.Open, Until: 70})
	quiet(t, n, 1)
	has(t, n, 1, 2, api.Flow{})
	has(t, n, 2, 1, api.Flow{Proto: api.UDP, Inner: inner, Far: farTo(81), Port: 2000, State: api.Open, Until: 79})
}

// P92: wherever power is cut while the epoch is written, nothing is claimed and nothing adopted; all ahead of it is done.
func TestTickCut(t *testing.T) {
	cells := []api.Cell{{Slot: 0, Version: 1, F: api.Flow{Proto: api.UDP, Inner: inner, Far: far, Port: 2030}}}
	for bytes := range 17 {
		b := cell.NewBytes()
		n := made(t, 0, b)
		hears(t, n, node.Note{From: 1, Life: 1, Epoch: 1, Cells: cells})
		b.Cut(bytes)
		quiet(t, n, api.HoldOff)
		for tick := api.HoldOff + 1; tick < api.HoldOff+9; tick++ {
			if l, err := n.Tick(); len(l) != 0 || err != api.ErrOff {
				t.Fatal(bytes, l, err)
			}
			shows(t, n, seen{epoch: 1, life: 1, now: tick, table: blank(), mirror: n.Mirror()})
			b.On()
		}
		holds(t, b, 0, 1)
		refusesInside(t, n, api.ErrState, udp(inner, far))
		hears(t, n, node.Note{From: 1, Life: 1, Epoch: 3})
		quiet(t, n, api.HoldOff)
	}
	b := cell.NewBytes()
	n := made(t, 0, b)
	b.Cut(17)
	ticks(t, n, api.HoldOff+1)
	holds(t, b, 2, 1)
	if !n.Active() {
		t.Error("no claim")
	}
}

// P92: a flow of a standby is gone at a tick that answers an error, too.
func TestTickCutExpires(t *testing.T) {
	b := cell.NewBytes()
	n := made(t, 0, b)
	ticks(t, n, api.HoldOff+1)
	begins(t, n, tcp(inner, far, api.SYN), 2000)
	hears(t, n, node.Note{From: 1, Life: 1, Epoch: 3})
	b.Off()
	quiet(t, n, api.HoldOff)
	if l, err := n.Tick(); len(l) != 0 || err != api.ErrOff {
		t.Error(l, err)
	}
	has(t, n, 0, 2, api.Flow{})
}

// P92: the other errors of the cell are answered too: its numbers run out, or its bytes are another life's by now.
func TestTickCellErrors(t *testing.T) {
	full := made(t, 0, holding(t, math.MaxUint32-1, 5, 2))
	b := cell.NewBytes()
	old := made(t, 0, b)
	quiet(t, old, 3)
	made(t, 0, b)
	for _, x := range []struct {
		n    *node.Node
		want error
	}{{full, api.ErrFull}, {old, api.ErrOld}} {
		quiet(t, x.n, api.HoldOff-x.n.Now())
		want := look(x.n)
		for range 3 {
			l, err := x.n.Tick()
			if len(l) != 0 || err != x.want {
				t.Error(l, err, x.want)
			}
			want.now++
			shows(t, x.n, want)
		}
	}
	holds(t, b, 0, 2)
}

// P92: where no epoch is left, a standby stays one, without an error, and nothing is written.
func TestTickNoEpochLeft(t *testing.T) {
	for _, x := range []struct{ id, epoch int }{{0, api.MaxEpoch}, {1, api.MaxEpoch}, {1, api.MaxEpoch - 1}} {
		b := holding(t, 1, x.epoch, 0)
		n := made(t, x.id, b)
		hears(t, n, node.Note{From: 1 - x.id, Life: 1, Cells: []api.Cell{{Version: 1, F: api.Flow{Proto: api.UDP}}}})
		was := b.All()
		quiet(t, n, 5*api.HoldOff)
		shows(t, n, seen{epoch: x.epoch, life: 1, now: 5 * api.HoldOff, table: blank(), mirror: n.Mirror()})
		if b.All() != was {
			t.Error("written")
		}
	}
	b := holding(t, 1, api.MaxEpoch-1, 0)
	n := made(t, 0, b)
	ticks(t, n, api.HoldOff+1)
	holds(t, b, api.MaxEpoch, 1)
	if !n.Active() || n.Epoch() != api.MaxEpoch {
		t.Error(look(n))
	}
}
