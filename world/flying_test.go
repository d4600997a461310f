package world_test

import (
	"math"
	"slices"
	"testing"

	"twinrampart/api"
	"twinrampart/node"
	"twinrampart/world"
)

// crowd: a world where this many notes fly (none, or an odd number), of node 0: a claim, then claims and batches by turns.
func crowd(t *testing.T, many int) *world.World {
	t.Helper()
	w := made(t)
	for len(w.Flying()) < many {
		ticks(t, w, 0, 1)
	}
	if len(w.Flying()) != many {
		t.Fatal(len(w.Flying()))
	}
	return w
}

// P102: a note number that there is not.
func TestNoSuchNote(t *testing.T) {
	for _, many := range []int{0, 1, 3, 199} {
		w := crowd(t, many)
		if w.Many() != many {
			t.Error(w.Many(), many)
		}
		was := look(w)
		for _, at := range []int{-1, many, many + 1, api.MaxFlying, math.MinInt, math.MaxInt} {
			refused(t, w.Deliver(at), api.ErrNone)
			refused(t, w.Drop(at), api.ErrNone)
			refused(t, w.Twice(at), api.ErrNone)
		}
		same(t, w, was)
	}
}

// P102: just the one note goes, from wherever it stands.
func TestAnyNoteGoes(t *testing.T) {
	for at := range 7 {
		w := crowd(t, 7)
		all := w.Flying()
		fine(t, w.Drop(at))
		if got := w.Flying(); !alike(got, slices.Delete(slices.Clone(all), at, at+1)) {
			t.Error(at, got)
		}
		if s := look(w); s.at != -1 || !slices.Equal(s.nodes[1].mirror, blank()) || s.nodes[1].epoch != 0 {
			t.Error(at, "what is dropped is heard by nobody", s)
		}
		w = crowd(t, 7)
		fine(t, w.Deliver(at))
		if got := w.Flying(); !alike(got, slices.Delete(slices.Clone(all), at, at+1)) {
			t.Error(at, got)
		}
		if _, epoch := w.Switch(); (epoch == 2) != all[at].Claim {
			t.Error(at, epoch, all[at].Claim)
		}
		if epoch := nodeOf(t, w, 1).Epoch(); (epoch == 2) == all[at].Claim {
			t.Error(at, epoch, all[at].Claim)
		}
	}
}

// P102: twice stands right behind itself.
func TestTwice(t *testing.T) {
	for at := range 7 {
		w := crowd(t, 7)
		all := w.Flying()
		fine(t, w.Twice(at))
		if got := w.Flying(); !alike(got, slices.Insert(slices.Clone(all), at, all[at])) {
			t.Error(at, got)
		}
		knows(t, w, -1, 0)
		told(t, w, world.Event{Node: 0, Epoch: 2})
	}
}

// P100, P102: no more than MaxFlying are on their way: what is beyond is lost.
func TestFull(t *testing.T) {
	w := crowd(t, api.MaxFlying-1)
	fine(t, w.Twice(api.MaxFlying-2))
	all := w.Flying()
	if len(all) != api.MaxFlying {
		t.Fatal(len(all))
	}
	was := look(w)
	for _, at := range []int{0, 100, api.MaxFlying - 1} {
		refused(t, w.Twice(at), api.ErrFull)
	}
	for _, at := range []int{-1, api.MaxFlying} {
		refused(t, w.Twice(at), api.ErrNone)
	}
	same(t, w, was)
	ticks(t, w, 0, 3)
	ticks(t, w, 1, 10)
	if got := w.Flying(); !alike(got, all) {
		t.Error("what is beyond has come through", got[len(got)-3:])
	}
	told(t, w, world.Event{Node: 0, Epoch: 2}, world.Event{Node: 1, Epoch: 1})
}

// P100: of two notes of one tick, where one has room, the first one flies.
func TestRoomForOne(t *testing.T) {
	w := crowd(t, api.MaxFlying-1)
	before := w.Flying()
	ticks(t, w, 0, 3)
	got := w.Flying()
	if len(got) != api.MaxFlying || !alike(got[:len(before)], before) || !got[len(before)].Claim {
		t.Error(len(got), got[len(before)-1:])
	}
	fine(t, w.Drop(0))
	fine(t, w.Twice(3))
	refused(t, w.Twice(3), api.ErrFull)
	fine(t, w.Deliver(0))
	fine(t, w.Drop(0))
	ticks(t, w, 0, 3)
	got = w.Flying()
	if l := got[api.MaxFlying-2:]; len(got) != api.MaxFlying || !l[0].Claim || l[1].Claim {
		t.Error(len(got), l)
	}
}

// P102: what flies to a node that is down is gone, and nobody answers.
func TestDeliverToDown(t *testing.T) {
	w := led(t)
	lets(t, w, udp(inner, far), 2000)
	ticks(t, w, 0, 2)
	flies(t, w, brief{0, 2, true}, brief{0, 2, false})
	fine(t, w.Twice(1))
	fine(t, w.Down(1))
	fine(t, w.Deliver(1))
	flies(t, w, brief{0, 2, true}, brief{0, 2, false})
	fine(t, w.Up(1))
	if n := nodeOf(t, w, 1); n.Epoch() != 0 || !slices.Equal(n.Mirror(), blank()) {
		t.Error(look(w))
	}
	fine(t, w.Down(0))
	fine(t, w.Deliver(1)) // its sender may be down
	if n := nodeOf(t, w, 1); n.Epoch() != 2 || n.Mirror()[0].F.Port != 2000 {
		t.Error(look(w))
	}
	fine(t, w.Down(1))
	fine(t, w.Deliver(0)) // the switch hears of who is down, too
	knows(t, w, 0, 2)
}

// P102: what a node answers is passed over: here ErrOld, of a life that is through.
func TestDeliverOldLife(t *testing.T) {
	w := led(t)
	lets(t, w, udp(inner, far), 2000)
	ticks(t, w, 0, 2)
	fine(t, w.Drop(0))
	fine(t, w.Down(0))
	fine(t, w.Up(0))
	ticks(t, w, 0, 12)
	flies(t, w, brief{0, 2, false}, brief{0, 4, true}, brief{0, 4, true}, brief{0, 4, false})
	fine(t, w.Deliver(3))
	was := look(w)
	fine(t, w.Deliver(0))
	was.flying = was.flying[1:]
	same(t, w, was)
	if n := nodeOf(t, w, 1); n.Epoch() != 4 || !slices.Equal(n.Mirror(), blank()) {
		t.Error(look(w))
	}
	refused(t, nodeOf(t, w, 1).Hear(node.Note{From: 0, Life: 1, Epoch: 2}), api.ErrOld)
}

// P102: a claim goes to the switch alone: the other node goes on being silent.
func TestClaimIsNoBeat(t *testing.T) {
	w := made(t)
	ticks(t, w, 1, 9)
	ticks(t, w, 0, 10)
	fine(t, w.Deliver(0))
	knows(t, w, 0, 2)
	ticks(t, w, 1, 1)
	flies(t, w, brief{1, 1, true})
	fine(t, w.Deliver(0))
	knows(t, w, 0, 2)
}

// P4: what is answered is new memory: of each note its own.
func TestFlyingIsNew(t *testing.T) {
	w := led(t)
	lets(t, w, udp(inner, far), 2000)
	ticks(t, w, 0, 2)
	fine(t, w.Twice(1))
	was := look(w)
	l := w.Flying()
	l[1].Cells[0].F.Port = 9
	if l[2].Cells[0].F.Port != 2000 {
		t.Error("two notes share their cells")
	}
	l[1].Cells = append(l[1].Cells[:1], api.Cell{Slot: 7})
	l[0].Epoch, l[2].From, l[2].Cells = 100, 1, nil
	same(t, w, was)
	e := w.Events()
	e[0].Epoch = 8
	told(t, w, world.Event{Node: 0, Epoch: 2})
	fine(t, w.Deliver(1))
	if got := nodeOf(t, w, 1).Mirror()[0]; got != nodeOf(t, w, 0).Table()[0] || got.F.Port != 2000 {
		t.Error(got)
	}
}
