package world_test

import (
	"errors"
	"math"
	"reflect"
	"slices"
	"testing"

	"twinrampart/api"
	"twinrampart/node"
	"twinrampart/world"
)

var (
	inner = api.End{Addr: 10, Port: 100}
	far   = api.End{Addr: 77, Port: 80}
)

// noNodes: numbers of no node.
var noNodes = []int{-1, 2, 3, math.MinInt, math.MaxInt}

// admitting: all from inside to ports up to 1000.
func admitting() []api.Rule {
	return []api.Rule{{Allow: true, Out: true, Low: 1, Top: 1000}}
}

func udp(src, dst api.End) api.Packet {
	return api.Packet{Proto: api.UDP, Src: src, Dst: dst}
}

func public(port int) api.End { return api.End{Addr: api.Public, Port: port} }

func made(t *testing.T) *world.World {
	t.Helper()
	w, err := world.New(admitting())
	if w == nil || err != nil {
		t.Fatal(w, err)
	}
	return w
}

// led world: node 0 has claimed epoch 2, at its tick 10, and the switch knows it.
func led(t *testing.T) *world.World {
	t.Helper()
	w := made(t)
	ticks(t, w, 0, api.HoldOff+1)
	deliverAll(t, w)
	knows(t, w, 0, 2)
	return w
}

func ticks(t *testing.T, w *world.World, n, many int) {
	t.Helper()
	for range many {
		if err := w.Tick(n); err != nil {
			t.Fatal(n, err)
		}
	}
}

func fine(t *testing.T, err error) {
	t.Helper()
	if err != nil {
		t.Fatal(err)
	}
}

func refused(t *testing.T, err, want error) {
	t.Helper()
	if err != want {
		t.Errorf("%v, not %v", err, want)
	}
}

func deliverAll(t *testing.T, w *world.World) {
	t.Helper()
	for len(w.Flying()) > 0 {
		fine(t, w.Deliver(0))
	}
}

func nodeOf(t *testing.T, w *world.World, n int) *node.Node {
	t.Helper()
	x, err := w.Node(n)
	if x == nil || err != nil {
		t.Fatal(n, x, err)
	}
	return x
}

func knows(t *testing.T, w *world.World, n, epoch int) {
	t.Helper()
	if gotN, gotEpoch := w.Switch(); gotN != n || gotEpoch != epoch {
		t.Errorf("the switch knows %d, %d, not %d, %d", gotN, gotEpoch, n, epoch)
	}
}

func told(t *testing.T, w *world.World, want ...world.Event) {
	t.Helper()
	if got := w.Events(); !slices.Equal(got, want) {
		t.Errorf("events %v, not %v", got, want)
	}
}

func isDown(t *testing.T, w *world.World, n int) {
	t.Helper()
	x, err := w.Node(n)
	if x != nil || err != api.ErrOff {
		t.Error(n, x, err)
	}
}

// lets a packet from inside through, by this port.
func lets(t *testing.T, w *world.World, p api.Packet, port int) {
	t.Helper()
	want := p
	want.Src = public(port)
	if got, err := w.Inside(p); err != nil || got != want {
		t.Errorf("inside %v: %v, %v; not %v", p, got, err, want)
	}
}

// answers of both ways are just this error.
func shut(t *testing.T, w *world.World, p api.Packet, want error) {
	t.Helper()
	if got, err := w.Inside(p); got != (api.Packet{}) || err != want {
		t.Errorf("inside %v: %v, %v; not %v", p, got, err, want)
	}
	if got, err := w.Outside(p); got != (api.Packet{}) || err != want {
		t.Errorf("outside %v: %v, %v; not %v", p, got, err, want)
	}
}

// seenNode: all that a node shows; zero if it is down.
type seenNode struct {
	up, active       bool
	epoch, life, now int
	table, mirror    []api.Cell
}

// seen: all that a world shows.
type seen struct {
	nodes     [2]seenNode
	at, epoch int
	flying    []node.Note
	events    []world.Event
}

func look(w *world.World) seen {
	s := seen{flying: w.Flying(), events: w.Events()}
	s.at, s.epoch = w.Switch()
	for i := range s.nodes {
		if n, err := w.Node(i); err == nil {
			s.nodes[i] = seenNode{true, n.Active(), n.Epoch(), n.Life(), n.Now(), n.Table(), n.Mirror()}
		}
	}
	return s
}

// same world as before.
func same(t *testing.T, w *world.World, want seen) {
	t.Helper()
	if got := look(w); !reflect.DeepEqual(got, want) {
		t.Errorf("%v, not %v", got, want)
	}
}

func blank() []api.Cell {
	l := make([]api.Cell, api.Slots)
	for i := range l {
		l[i].Slot = i
	}
	return l
}

// claims and batches, as they are on their way: of each its node, epoch and kind.
type brief struct {
	from, epoch int
	claim       bool
}

func flies(t *testing.T, w *world.World, want ...brief) {
	t.Helper()
	var got []brief
	for _, x := range w.Flying() {
		got = append(got, brief{x.From, x.Epoch, x.Claim})
	}
	if !slices.Equal(got, want) {
		t.Errorf("%v fly, not %v", got, want)
	}
}

// P100, P103: two nodes in their first life, both up, and nothing else.
func TestNew(t *testing.T) {
	w := made(t)
	fresh := seenNode{up: true, life: 1, table: blank(), mirror: blank()}
	got := look(w)
	if len(got.flying) != 0 || len(got.events) != 0 || got.at != -1 || got.epoch != 0 {
		t.Error(got)
	}
	for i, n := range got.nodes {
		if !reflect.DeepEqual(n, fresh) {
			t.Error(i, n)
		}
	}
	if nodeOf(t, w, 0) == nodeOf(t, w, 1) || nodeOf(t, w, 1) != nodeOf(t, w, 1) {
		t.Error("each has its own")
	}
	for _, none := range [][]api.Rule{nil, {}, make([]api.Rule, 0, 30)} {
		if w, err := world.New(none); w == nil || err != nil {
			t.Error(none, err)
		}
	}
}

// P100: the errors of policy.Check.
func TestNewRefuses(t *testing.T) {
	if w, err := world.New(make([]api.Rule, api.MaxRules+1)); w != nil || err != api.ErrBound {
		t.Error(w, err)
	}
	for _, bad := range []api.Rule{{}, {Proto: 3, Low: 1, Top: 1}, {Low: 2, Top: 1}, {Low: 1, Top: api.MaxPort + 1}} {
		w, err := world.New(append(admitting(), bad))
		var f *api.Fault
		if w != nil || !errors.As(err, &f) || f.At != 1 || f.Err != api.ErrBound {
			t.Error(bad, w, err)
		}
	}
	most := slices.Repeat(admitting(), api.MaxRules)
	if w, err := world.New(most); w == nil || err != nil {
		t.Error(err)
	}
}

// P4: rules that are handed over are not kept: also for who comes up later.
func TestRulesAreCopied(t *testing.T) {
	rules := admitting()
	w, err := world.New(rules)
	fine(t, err)
	rules[0].Allow = false
	fine(t, w.Down(0))
	fine(t, w.Up(0))
	ticks(t, w, 0, 10)
	deliverAll(t, w)
	lets(t, w, udp(inner, far), 2000)
	rules[0].Allow = true
	fine(t, w.Rules(rules))
	rules[0].Allow = false
	lets(t, w, udp(api.End{Addr: 11, Port: 100}, far), 2001)
	fine(t, w.Down(0))
	fine(t, w.Up(0))
	ticks(t, w, 0, 10)
	deliverAll(t, w)
	lets(t, w, udp(inner, far), 2000)
}

// P100: a tick is of one node, and its notes are on their way, in order.
func TestTick(t *testing.T) {
	w := made(t)
	ticks(t, w, 0, 9)
	flies(t, w)
	told(t, w)
	if a, b := nodeOf(t, w, 0).Now(), nodeOf(t, w, 1).Now(); a != 9 || b != 0 {
		t.Error(a, b)
	}
	ticks(t, w, 0, 1)
	flies(t, w, brief{0, 2, true})
	ticks(t, w, 1, 10)
	flies(t, w, brief{0, 2, true}, brief{1, 1, true})
	ticks(t, w, 0, 1)
	ticks(t, w, 1, 2)
	ticks(t, w, 0, 1)
	flies(t, w, brief{0, 2, true}, brief{1, 1, true}, brief{1, 1, true}, brief{1, 1, false}, brief{0, 2, true}, brief{0, 2, false})
	knows(t, w, -1, 0)
	told(t, w, world.Event{Node: 0, Epoch: 2}, world.Event{Node: 1, Epoch: 1})
	want := []node.Note{
		{From: 1, Life: 1, Epoch: 1, Claim: true},
		{From: 1, Life: 1, Epoch: 1, Cells: blank()[:api.Batch]},
	}
	if got := w.Flying()[2:4]; !alike(got, want) {
		t.Error(got)
	}
}

// alike: no cells and none are one thing.
func alike(a, b []node.Note) bool {
	return slices.EqualFunc(a, b, func(x, y node.Note) bool {
		cells := slices.Equal(x.Cells, y.Cells)
		x.Cells, y.Cells = nil, nil
		return cells && reflect.DeepEqual(x, y)
	})
}

// P100, P102, P103: numbers of no node, and nodes that are down.
func TestNoSuchNode(t *testing.T) {
	w := led(t)
	ticks(t, w, 0, 3)
	fine(t, w.Down(1))
	was := look(w)
	for _, n := range noNodes {
		refused(t, w.Tick(n), api.ErrBound)
		refused(t, w.Down(n), api.ErrBound)
		refused(t, w.Up(n), api.ErrBound)
		refused(t, w.Cut(n, 1), api.ErrBound)
		refused(t, w.Cut(n, -1), api.ErrBound)
		if x, err := w.Node(n); x != nil || err != api.ErrBound {
			t.Error(n, x, err)
		}
	}
	refused(t, w.Tick(1), api.ErrOff)
	refused(t, w.Down(1), api.ErrOff)
	refused(t, w.Cut(1, 1), api.ErrOff)
	refused(t, w.Cut(1, -1), api.ErrOff)
	refused(t, w.Up(0), api.ErrHeld)
	isDown(t, w, 1)
	same(t, w, was)
	fine(t, w.Up(1))
	refused(t, w.Up(1), api.ErrHeld)
}

// P100: a node that finds no power where it would claim is down; the other one is as it was. What it has put by then counts.
func TestTickWithoutPower(t *testing.T) {
	for bytes := range 17 {
		w := led(t)
		ticks(t, w, 1, api.HoldOff)
		fine(t, w.Cut(1, bytes))
		was := look(w)
		refused(t, w.Tick(1), api.ErrOff)
		was.nodes[1] = seenNode{}
		same(t, w, was)
		refused(t, w.Tick(1), api.ErrOff)
		refused(t, w.Down(1), api.ErrOff)
		fine(t, w.Up(1))
		if n := nodeOf(t, w, 1); n.Life() != 2 || n.Epoch() != 0 || n.Now() != 0 || n.Active() {
			t.Error(bytes, look(w))
		}
		ticks(t, w, 1, api.HoldOff+1)
		told(t, w, world.Event{Node: 0, Epoch: 2}, world.Event{Node: 1, Epoch: 1})
	}
	w := led(t)
	fine(t, w.Cut(1, 17))
	ticks(t, w, 1, api.HoldOff+1)
	told(t, w, world.Event{Node: 0, Epoch: 2}, world.Event{Node: 1, Epoch: 1})
}

// P100: an active node does not write: a cut is not seen until it does.
func TestCutOfActive(t *testing.T) {
	w := led(t)
	fine(t, w.Cut(0, 0))
	ticks(t, w, 0, 50)
	lets(t, w, udp(inner, far), 2000)
	refused(t, w.Cut(0, -1), api.ErrBound)
	refused(t, w.Cut(0, math.MinInt), api.ErrBound)
	fine(t, w.Cut(0, math.MaxInt))
}

// P102: without power, while the node is not known to be down, the cell's own error is told.
func TestCutWithoutPower(t *testing.T) {
	w := made(t)
	n := nodeOf(t, w, 0)
	fine(t, w.Cut(0, 3))
	for range api.HoldOff {
		n.Tick()
	}
	if _, err := n.Tick(); err != api.ErrOff {
		t.Error(err)
	}
	refused(t, w.Cut(0, -1), api.ErrBound)
	refused(t, w.Cut(0, 5), api.ErrOff)
	nodeOf(t, w, 0)
	refused(t, w.Tick(0), api.ErrOff)
	isDown(t, w, 0)
}

// P101: the switch knows claims by their delivery alone.
func TestPacketsNeedAClaim(t *testing.T) {
	w := made(t)
	shut(t, w, udp(inner, far), api.ErrNone)
	shut(t, w, api.Packet{}, api.ErrNone)
	ticks(t, w, 0, 10)
	shut(t, w, udp(inner, far), api.ErrNone)
	fine(t, w.Drop(0))
	ticks(t, w, 0, 2)
	fine(t, w.Deliver(1))
	knows(t, w, -1, 0)
	shut(t, w, udp(inner, far), api.ErrNone)
	fine(t, w.Deliver(0))
	knows(t, w, 0, 2)
	lets(t, w, udp(inner, far), 2000)
	if q, err := w.Outside(udp(far, public(2000))); err != nil || q != udp(far, inner) {
		t.Error(q, err)
	}
}

// P101: the node's errors; and those of the world stand ahead of them.
func TestPacketErrors(t *testing.T) {
	w := led(t)
	shut(t, w, api.Packet{}, api.ErrBound)
	shut(t, w, api.Packet{Proto: api.UDP, Src: inner, Dst: far, Flags: api.SYN}, api.ErrShape)
	if q, err := w.Inside(udp(inner, api.End{Addr: 77, Port: 1001})); q != (api.Packet{}) || err != api.ErrDeny {
		t.Error(q, err)
	}
	if q, err := w.Outside(udp(far, inner)); q != (api.Packet{}) || err != api.ErrShape {
		t.Error(q, err)
	}
	if q, err := w.Outside(udp(far, public(2000))); q != (api.Packet{}) || err != api.ErrNone {
		t.Error(q, err)
	}
	fine(t, w.Down(0))
	shut(t, w, udp(inner, far), api.ErrOff)
	shut(t, w, api.Packet{}, api.ErrOff)
	knows(t, w, 0, 2)
	fine(t, w.Up(0))
	shut(t, w, udp(inner, far), api.ErrState)
	shut(t, w, api.Packet{}, api.ErrBound)
	knows(t, w, 0, 2)
}

// P101: the greatest epoch counts, in whichever order claims come, and whoever is active.
func TestGreatestClaim(t *testing.T) {
	w := made(t)
	ticks(t, w, 1, 10)
	ticks(t, w, 0, 10)
	flies(t, w, brief{1, 1, true}, brief{0, 2, true})
	fine(t, w.Twice(0))
	fine(t, w.Deliver(0))
	knows(t, w, 1, 1)
	lets(t, w, udp(inner, far), 2024)
	fine(t, w.Deliver(1))
	knows(t, w, 0, 2)
	lets(t, w, udp(inner, far), 2000)
	fine(t, w.Deliver(0))
	knows(t, w, 0, 2)
	flies(t, w)
	ticks(t, w, 0, 2)
	fine(t, w.Deliver(1))
	if n := nodeOf(t, w, 1); n.Active() || n.Epoch() != 2 {
		t.Error(look(w))
	}
	ticks(t, w, 1, 9)
	flies(t, w, brief{0, 2, true})
	ticks(t, w, 1, 1)
	flies(t, w, brief{0, 2, true}, brief{1, 3, true})
	fine(t, w.Deliver(1))
	knows(t, w, 1, 3)
	fine(t, w.Deliver(0))
	knows(t, w, 1, 3)
	lets(t, w, udp(inner, far), 2024) // its own: it has not adopted another one of these ends
	told(t, w, world.Event{Node: 1, Epoch: 1}, world.Event{Node: 0, Epoch: 2}, world.Event{Node: 1, Epoch: 3})
}

// P101: the switch goes on handing packets to a node that has stepped down, until it hears of the other one.
func TestSteppedDown(t *testing.T) {
	w := led(t)
	ticks(t, w, 0, 2)
	deliverAll(t, w)
	ticks(t, w, 1, 12)
	flies(t, w, brief{1, 3, true}, brief{1, 3, true}, brief{1, 3, false})
	fine(t, w.Deliver(2))
	if nodeOf(t, w, 0).Active() {
		t.Error("it knows a greater epoch")
	}
	knows(t, w, 0, 2)
	shut(t, w, udp(inner, far), api.ErrState)
	fine(t, w.Deliver(1))
	knows(t, w, 1, 3)
	lets(t, w, udp(inner, far), 2024)
}
