package world

import (
	"slices"

	"twinrampart/api"
	"twinrampart/node"
)

// Deliver a note.
func (w *World) Deliver(at int) error {
	if !w.flies(at) {
		return api.ErrNone
	}
	x := w.flying[at]
	w.land(at)
	if x.Claim {
		w.hear(x)
	} else {
		w.hand(x)
	}
	return nil
}

// Drop a note.
func (w *World) Drop(at int) error {
	if !w.flies(at) {
		return api.ErrNone
	}
	w.land(at)
	return nil
}

// Twice a note.
func (w *World) Twice(at int) error {
	if !w.flies(at) {
		return api.ErrNone
	}
	if len(w.flying) == api.MaxFlying {
		return api.ErrFull
	}
	// Both may share their cells: a note on its way is only read.
	w.flying = slices.Insert(w.flying, at+1, w.flying[at])
	return nil
}

// Switch: which node, which epoch.
func (w *World) Switch() (int, int) {
	if w.heard.Epoch == 0 {
		return -1, 0
	}
	return w.heard.Node, w.heard.Epoch
}

// Flying notes.
func (w *World) Flying() []node.Note {
	l := slices.Clone(w.flying)
	for i := range l {
		l[i].Cells = slices.Clone(l[i].Cells)
	}
	return l
}

// Many notes fly: so many. A play asks at nearly each step, which should not copy them all.
func (w *World) Many() int { return len(w.flying) }

// send notes on their way; there is no more room than the bound.
func (w *World) send(l []node.Note) {
	room := api.MaxFlying - len(w.flying)
	w.flying = append(w.flying, l[:min(len(l), room)]...)
}

// flies a note of this number?
func (w *World) flies(at int) bool { return at >= 0 && at < len(w.flying) }

// land: the note is on its way no more.
func (w *World) land(at int) { w.flying = slices.Delete(w.flying, at, at+1) }

// hear a claim, as the switch does: a smaller one comes late.
func (w *World) hear(x node.Note) {
	if x.Epoch > w.heard.Epoch {
		w.heard = Event{Node: x.From, Epoch: x.Epoch}
	}
}

// hand a note to the node that it is for. Who sent it does not learn what became of it.
func (w *World) hand(x node.Note) {
	if s := &w.sides[1-x.From]; s.isUp() {
		s.Hear(x)
	}
}

// chosen by the switch: the side that packets go to.
func (w *World) chosen() (*side, error) {
	n, epoch := w.Switch()
	if epoch == 0 {
		return nil, api.ErrNone
	}
	return w.up(n)
}
