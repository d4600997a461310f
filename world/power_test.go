package world_test

import (
	"errors"
	"slices"
	"testing"

	"twinrampart/api"
	"twinrampart/mirror"
	"twinrampart/node"
	"twinrampart/world"
)

// P102: who comes up is in its next life, with the epoch that its cell has, and nothing else of before.
func TestUpAnew(t *testing.T) {
	w := led(t)
	lets(t, w, udp(inner, far), 2000)
	ticks(t, w, 0, 2)
	was := look(w)
	fine(t, w.Down(0))
	fine(t, w.Up(0))
	was.nodes[0] = seenNode{up: true, life: 2, epoch: 2, table: blank(), mirror: blank()}
	same(t, w, was)
	for life := 3; life < 40; life++ {
		fine(t, w.Down(0))
		isDown(t, w, 0)
		fine(t, w.Up(0))
		if n := nodeOf(t, w, 0); n.Life() != life || n.Epoch() != 2 || nodeOf(t, w, 1).Life() != 1 {
			t.Error(life, look(w))
		}
	}
	ticks(t, w, 0, 10)
	told(t, w, world.Event{Node: 0, Epoch: 2}, world.Event{Node: 0, Epoch: 4})
}

// P102: a beat that was heard and not put is forgotten with the life, while a claim is not.
func TestHeardIsForgotten(t *testing.T) {
	w := led(t)
	ticks(t, w, 0, 2)
	deliverAll(t, w)
	if n := nodeOf(t, w, 1); n.Epoch() != 2 {
		t.Error(n.Epoch())
	}
	fine(t, w.Down(1))
	fine(t, w.Up(1))
	if n := nodeOf(t, w, 1); n.Epoch() != 0 || n.Life() != 2 {
		t.Error(n.Epoch(), n.Life())
	}
	ticks(t, w, 1, 10)
	deliverAll(t, w)
	knows(t, w, 0, 2)
	told(t, w, world.Event{Node: 0, Epoch: 2}, world.Event{Node: 1, Epoch: 1})
}

// P102: power is on for who comes up, and no cut is ahead any more.
func TestUpEndsACut(t *testing.T) {
	for _, bytes := range []int{0, 1, 16, 17, 20, 35} {
		w := made(t)
		fine(t, w.Cut(0, bytes))
		fine(t, w.Cut(1, bytes))
		fine(t, w.Down(0))
		fine(t, w.Up(0))
		if n := nodeOf(t, w, 0); n.Life() != 2 {
			t.Error(bytes, n.Life())
		}
		ticks(t, w, 0, 10)
		told(t, w, world.Event{Node: 0, Epoch: 2})
		fine(t, w.Down(0))
		fine(t, w.Up(0))
		if n := nodeOf(t, w, 0); n.Life() != 3 || n.Epoch() != 2 {
			t.Error(bytes, n.Life(), n.Epoch())
		}
	}
}

// P102: a cut is of one node's bytes; a later one counts.
func TestCutIsOfOne(t *testing.T) {
	w := made(t)
	fine(t, w.Cut(0, 100))
	fine(t, w.Cut(0, 4))
	ticks(t, w, 1, 10)
	ticks(t, w, 0, 9)
	refused(t, w.Tick(0), api.ErrOff)
	isDown(t, w, 0)
	nodeOf(t, w, 1)
	told(t, w, world.Event{Node: 1, Epoch: 1})
}

// P102: another policy, for both that are up.
func TestRulesOfBoth(t *testing.T) {
	deny := []api.Rule{{Out: true, Low: 80, Top: 80}, {Allow: true, Out: true, Low: 1, Top: 100}}
	w := led(t)
	fine(t, w.Rules(deny))
	if q, err := w.Inside(udp(inner, far)); q != (api.Packet{}) || err != api.ErrDeny {
		t.Error(q, err)
	}
	fine(t, w.Down(0))
	ticks(t, w, 1, 10)
	ticks(t, w, 1, 1)
	fine(t, w.Deliver(0))
	knows(t, w, 0, 2) // node 1 has never heard of it: it has claimed epoch 1
	if q, err := nodeOf(t, w, 1).Inside(udp(inner, far)); q != (api.Packet{}) || err != api.ErrDeny {
		t.Error(q, err)
	}
	if _, err := nodeOf(t, w, 1).Inside(udp(inner, api.End{Addr: 77, Port: 81})); err != nil {
		t.Error(err)
	}
}

// P102: and for those that come up, also if both were down.
func TestRulesOfThoseThatComeUp(t *testing.T) {
	w, err := world.New(nil)
	fine(t, err)
	fine(t, w.Down(0))
	fine(t, w.Down(1))
	fine(t, w.Rules(admitting()))
	for n := range 2 {
		fine(t, w.Up(n))
		ticks(t, w, n, 10)
		if q, err := nodeOf(t, w, n).Inside(udp(inner, far)); err != nil || q.Src != public(api.FirstPort+n*api.Half) {
			t.Error(n, q, err)
		}
	}
	fine(t, w.Down(0))
	fine(t, w.Rules(nil))
	fine(t, w.Up(0))
	ticks(t, w, 0, 10)
	deliverAll(t, w)
	knows(t, w, 0, 4)
	if q, err := w.Inside(udp(inner, far)); q != (api.Packet{}) || err != api.ErrDeny {
		t.Error(q, err)
	}
}

// P102: rules that are none change nothing, neither for who is up, nor for who comes up.
func TestRulesRefused(t *testing.T) {
	w := led(t)
	refused(t, w.Rules(make([]api.Rule, api.MaxRules+1)), api.ErrBound)
	bad := []api.Rule{{Low: 1, Top: 1}, {Low: 1, Top: 1}, {Low: 0, Top: 1}}
	var f *api.Fault
	if err := w.Rules(bad); !errors.As(err, &f) || f.At != 2 || f.Err != api.ErrBound {
		t.Error(err)
	}
	lets(t, w, udp(inner, far), 2000)
	fine(t, w.Down(0))
	refused(t, w.Rules(make([]api.Rule, api.MaxRules+1)), api.ErrBound)
	fine(t, w.Up(0))
	ticks(t, w, 0, 10)
	deliverAll(t, w)
	lets(t, w, udp(inner, far), 2000)
}

// P103: a world's node is its own: what is done to it shows.
func TestOwnNode(t *testing.T) {
	w := led(t)
	n := nodeOf(t, w, 0)
	if _, err := n.Inside(udp(inner, far)); err != nil {
		t.Error(err)
	}
	if q, err := w.Outside(udp(far, public(2000))); err != nil || q != udp(far, inner) {
		t.Error(q, err)
	}
	fine(t, n.Hear(node.Note{From: 1, Life: 1, Epoch: 5}))
	shut(t, w, udp(inner, far), api.ErrState)
	knows(t, w, 0, 2)
	ticks(t, w, 0, 10)
	told(t, w, world.Event{Node: 0, Epoch: 2}, world.Event{Node: 0, Epoch: 6})
}

// P102, P104: a node of before, which somebody still has, can't claim: neither while its side is down, nor behind that.
func TestNodeOfBefore(t *testing.T) {
	w := made(t)
	old := nodeOf(t, w, 0)
	fine(t, w.Down(0))
	for range api.HoldOff {
		if _, err := old.Tick(); err != nil {
			t.Fatal(err)
		}
	}
	if l, err := old.Tick(); len(l) != 0 || err != api.ErrOff || old.Active() {
		t.Error(l, err)
	}
	fine(t, w.Up(0))
	if n := nodeOf(t, w, 0); n == old || n.Epoch() != 0 || n.Life() != 2 {
		t.Error(n.Epoch(), n.Life())
	}
	between := nodeOf(t, w, 0)
	fine(t, w.Down(0))
	fine(t, w.Up(0))
	for _, x := range []*node.Node{old, between} {
		for range api.HoldOff + 5 {
			x.Tick()
		}
		if x.Active() {
			t.Error("a life that is through has claimed")
		}
	}
	if n := nodeOf(t, w, 0); n.Epoch() != 0 || n.Life() != 3 || n.Now() != 0 {
		t.Error(n.Epoch(), n.Life())
	}
	ticks(t, w, 0, 10)
	told(t, w, world.Event{Node: 0, Epoch: 2})
}

// P103: events are of claims, not of the notes that tell them; no more than MaxEvents, the first ones.
func TestEvents(t *testing.T) {
	w := led(t)
	ticks(t, w, 0, 300)
	told(t, w, world.Event{Node: 0, Epoch: 2})
	want := w.Events()
	for i := range api.MaxEvents + 5 {
		n := i % 2
		fine(t, w.Down(n))
		fine(t, w.Up(n))
		ticks(t, w, n, api.HoldOff)
		told(t, w, want...)
		ticks(t, w, n, 1)
		if len(want) < api.MaxEvents {
			want = append(want, world.Event{Node: n, Epoch: nodeOf(t, w, n).Epoch()})
		}
	}
	told(t, w, want...)
	if last := want[len(want)-1]; len(want) != 1000 || last != (world.Event{Node: 0, Epoch: 1002}) {
		t.Error(len(want), last)
	}
	if n := nodeOf(t, w, 0); !n.Active() || n.Epoch() != 1008 {
		t.Error("claims go on behind the bound", n.Epoch())
	}
}

// P100 to P103: one falls, the other one takes over its flows, and hands them back.
func TestTakeOver(t *testing.T) {
	w := led(t)
	lets(t, w, udp(inner, far), 2000)
	ticks(t, w, 0, 2)
	deliverAll(t, w)
	fine(t, w.Down(0))
	ticks(t, w, 1, 10)
	deliverAll(t, w)
	knows(t, w, 1, 3)
	lets(t, w, udp(inner, far), 2000)
	lets(t, w, udp(api.End{Addr: 11, Port: 100}, far), 2024)
	fine(t, w.Up(0))
	ticks(t, w, 1, 2)
	deliverAll(t, w)
	if a, b := nodeOf(t, w, 0), nodeOf(t, w, 1); !mirror.Same(a.Mirror(), b.Table()) || a.Epoch() != 3 {
		t.Error(look(w))
	}
	fine(t, w.Down(1))
	ticks(t, w, 0, 10)
	deliverAll(t, w)
	knows(t, w, 0, 4)
	lets(t, w, udp(api.End{Addr: 11, Port: 100}, far), 2024)
	lets(t, w, udp(api.End{Addr: 12, Port: 100}, far), 2001)
	want := []world.Event{{Node: 0, Epoch: 2}, {Node: 1, Epoch: 3}, {Node: 0, Epoch: 4}}
	if got := w.Events(); !slices.Equal(got, want) {
		t.Error(got)
	}
}
