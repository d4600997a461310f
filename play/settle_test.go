package play_test

import (
	"errors"
	"math"
	"math/rand"
	"reflect"
	"slices"
	"testing"

	"twinrampart/api"
	"twinrampart/mirror"
	"twinrampart/play"
	"twinrampart/world"
)

// settles: a node's ticks, 24 of them, and behind each one all that flies.
func settles(t *testing.T, w *world.World, n int) {
	t.Helper()
	for range 24 {
		fine(t, w.Tick(n))
		for len(w.Flying()) > 0 {
			fine(t, w.Deliver(0))
		}
	}
}

// P111: the same as ticks and deliveries by hand, of either node, active or not.
func TestSettle(t *testing.T) {
	for _, begin := range []func(*testing.T) *world.World{made, led} {
		for n := range 2 {
			got, want := begin(t), begin(t)
			settles(t, want, n)
			fine(t, play.Settle(got, n))
			alike(t, n, got, want)
			if w := look(got); len(w.flying) != 0 || w.nodes[n].now-look(begin(t)).nodes[n].now != 24 {
				t.Error(n, w)
			}
		}
	}
}

// P111: behind it the other node's mirror has all, also of what was lost ahead.
func TestSettledMirror(t *testing.T) {
	for seed := range 40 {
		r := rand.New(rand.NewSource(int64(seed)))
		w := led(t)
		for range 200 {
			switch k := r.Intn(10); {
			case k < 3:
				play.Run(w, []int{16*r.Intn(48) + 8, 16*r.Intn(200) + 10})
			case k < 8:
				fine(t, w.Tick(0))
			default:
				w.Drop(0)
			}
		}
		for look(w).nodes[0].now%api.Every != 0 { // so that its last tick tells, too, what ends with it
			fine(t, w.Tick(0))
		}
		fine(t, play.Settle(w, 0))
		s := look(w)
		if !s.nodes[0].active || s.nodes[1].active || !mirror.Same(s.nodes[0].table, s.nodes[1].mirror) {
			t.Error(seed, s)
		}
	}
}

// P111: notes of both nodes are delivered, those of before too; a node that is down hears nothing.
func TestSettleDeliversAll(t *testing.T) {
	w := led(t)
	fine(t, w.Deliver(4))         // of epoch 2
	ticks(t, w, 1, api.HoldOff+3) // it claims epoch 3, and tells node 0, which claims anew behind ten ticks of silence
	fine(t, play.Settle(w, 0))
	s := look(w)
	if want := []world.Event{{Node: 0, Epoch: 2}, {Node: 1, Epoch: 3}, {Node: 0, Epoch: 4}}; !slices.Equal(s.events, want) {
		t.Error(s.events)
	}
	if len(s.flying) != 0 || s.at != 0 || s.epoch != 4 || !s.nodes[0].active || s.nodes[1].active || s.nodes[1].epoch != 4 {
		t.Error(s)
	}
	w = led(t)
	fine(t, w.Down(1))
	fine(t, play.Settle(w, 0))
	if s := look(w); len(s.flying) != 0 || s.nodes[0].now != 39 || s.nodes[1].up {
		t.Error(s)
	}
}

// P111: ErrBound, ErrOff: nothing changes, and nothing is delivered.
func TestSettleRefused(t *testing.T) {
	for _, n := range []int{-1, 2, 3, math.MinInt, math.MaxInt} {
		w := led(t)
		if err := play.Settle(w, n); err != api.ErrBound {
			t.Error(n, err)
		}
		alike(t, n, w, led(t))
	}
	for n := range 2 {
		w, was := led(t), led(t)
		fine(t, w.Down(n))
		fine(t, was.Down(n))
		for range 2 {
			if err := play.Settle(w, n); err != api.ErrOff {
				t.Error(n, err)
			}
			alike(t, n, w, was)
		}
	}
}

// P111: an error of a Tick ends it: what was done ahead stays done.
func TestSettleEndsAtAnError(t *testing.T) {
	w := led(t)
	fine(t, w.Down(0)) // node 1 is alone with what flies: a batch that it hears at its first tick
	fine(t, w.Cut(1, 3))
	if err := play.Settle(w, 1); !errors.Is(err, api.ErrOff) {
		t.Error(err)
	}
	s := look(w)
	if s.nodes[1].up || len(s.flying) != 0 || s.at != 0 || len(s.events) != 1 {
		t.Error(s)
	}
	w = made(t)
	ticks(t, w, 0, api.HoldOff+1)
	ticks(t, w, 1, api.HoldOff)
	fine(t, w.Cut(1, 3))
	if err := play.Settle(w, 1); err != api.ErrOff { // at its first tick: nothing is delivered behind it
		t.Error(err)
	}
	if s := look(w); s.nodes[1].up || len(s.flying) != 1 || s.at != -1 {
		t.Error(s)
	}
}

// scriptOf a seed: a bit of everything.
func scriptOf(seed int) []int {
	r := rand.New(rand.NewSource(int64(seed)))
	kinds := []int{0, 0, 1, 2, 5, 6, 5, 7, 8, 9, 8, 10, 11, 3, 4, 12, 13, 13, 14, 15}
	l := make([]int, 500)
	for i := range l {
		if l[i] = 16*r.Intn(1000) + kinds[r.Intn(len(kinds))]; r.Intn(50) == 0 {
			l[i] = -1 - l[i]
		}
	}
	return l
}

// P112: the same script makes the same play, at once or number by number; P104 holds in all of them.
func TestSameScriptSamePlay(t *testing.T) {
	var codes [12]int // of codes from 0 on
	for seed := range 60 {
		script := scriptOf(seed)
		a, b, c := made(t), made(t), made(t)
		first, second := play.Run(a, script), play.Run(b, script)
		var third []int
		for _, v := range script {
			third = append(third, play.Run(c, []int{v})...)
		}
		if !slices.Equal(first, second) || !slices.Equal(first, third) || len(first) != len(script) {
			t.Error(seed, first, second, third)
		}
		alike(t, seed, a, b)
		alike(t, seed, a, c)
		for i, code := range first {
			if (code == -1) != (script[i] < 0) {
				t.Error(seed, i, script[i], code)
			}
			codes[max(0, code)]++
		}
		rising(t, a.Events())
		if a, b := play.Settle(a, 0), play.Settle(b, 0); a != b {
			t.Error(seed, a, b)
		}
		alike(t, seed, a, b)
	}
	for _, code := range []int{0, 4, 7, 9, 11} {
		if codes[code] < 100 {
			t.Error("too little has happened", codes)
		}
	}
}

// rising: epochs of each node, of its parity.
func rising(t *testing.T, l []world.Event) {
	t.Helper()
	var last [2]int
	for _, e := range l {
		if e.Epoch <= last[e.Node] || e.Epoch%2 != e.Node {
			t.Error(l)
		}
		last[e.Node] = e.Epoch
	}
}

// P4: worlds have nothing from each other, though they are played by one script.
func TestWorldsApart(t *testing.T) {
	script := scriptOf(7)
	alone := made(t)
	play.Run(alone, script)
	a, b := made(t), made(t)
	for _, v := range script {
		play.Run(b, []int{16 + 5, 8})
		play.Run(a, []int{v})
	}
	if !reflect.DeepEqual(look(a), look(alone)) {
		t.Error(look(a), look(alone))
	}
}
