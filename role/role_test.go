package role_test

import (
	"math"
	"math/rand"
	"testing"

	"twinrampart/api"
	"twinrampart/role"
)

// numbers that are no epochs.
var noEpochs = []int{-1, -2, math.MinInt, api.MaxEpoch + 1, api.MaxEpoch + 2, 1 << 32, 1<<32 + 4, math.MaxInt}

func made(t *testing.T, node, epoch int) *role.Role {
	t.Helper()
	r, err := role.New(node, epoch)
	if r == nil || err != nil {
		t.Fatal(node, epoch, r, err)
	}
	return r
}

// claimed: an active role, of the least epoch that is more than this one.
func claimed(t *testing.T, node, epoch int) *role.Role {
	t.Helper()
	r := made(t, node, epoch)
	next, err := r.Next()
	if err != nil {
		t.Fatal(err)
	}
	claims(t, r, next)
	return r
}

func claims(t *testing.T, r *role.Role, epoch int) {
	t.Helper()
	if err := r.Claim(epoch); err != nil {
		t.Fatal(epoch, err)
	}
	is(t, r, true, epoch)
}

func is(t *testing.T, r *role.Role, active bool, epoch int) {
	t.Helper()
	if r.Active() != active || r.Epoch() != epoch {
		t.Errorf("active %v, epoch %d; not %v, %d", r.Active(), r.Epoch(), active, epoch)
	}
}

// silent says how many ticks it takes until the role should claim: as many as its silence is short of that.
func silent(t *testing.T, r *role.Role, ticks int) {
	t.Helper()
	for i := 1; i < ticks; i++ {
		if r.Tick() {
			t.Fatal("should claim at tick", i, "of", ticks)
		}
	}
	if !r.Tick() {
		t.Error("should not claim at tick", ticks)
	}
}

// P80: a role begins as a standby, with the epoch that it is given and no silence.
func TestNew(t *testing.T) {
	for _, node := range []int{0, 1} {
		for _, epoch := range []int{0, 1, 2, 7, api.MaxEpoch - 1, api.MaxEpoch} {
			r := made(t, node, epoch)
			is(t, r, false, epoch)
			silent(t, r, api.HoldOff+1)
			is(t, r, false, epoch)
		}
	}
}

// P80: what is no node, or no epoch.
func TestNewRefuses(t *testing.T) {
	for _, node := range []int{-1, -2, 2, 3, math.MinInt, math.MaxInt} {
		refuses(t, node, 0)
		refuses(t, node, -1)
	}
	for _, epoch := range noEpochs {
		refuses(t, 0, epoch)
		refuses(t, 1, epoch)
	}
}

func refuses(t *testing.T, node, epoch int) {
	t.Helper()
	if r, err := role.New(node, epoch); r != nil || err != api.ErrBound {
		t.Error(node, epoch, r, err)
	}
}

// P80: the tenth tick without a beat is the first at which a standby should claim, and it should from then on.
func TestTickGoesOn(t *testing.T) {
	r := made(t, 1, 0)
	silent(t, r, 10)
	for i := range 1000 {
		if !r.Tick() {
			t.Fatal("not any more", i)
		}
	}
	is(t, r, false, 0)
	if r.Hear(0) {
		t.Error("steps down")
	}
	silent(t, r, 10)
}

// P80: an active one has no need to claim, however long.
func TestTickOfActive(t *testing.T) {
	r := claimed(t, 0, 0)
	for range 3 * api.HoldOff {
		if r.Tick() {
			t.Fatal("should claim")
		}
	}
	is(t, r, true, 2)
}

// P81: the least epoch that is more, even of node 0, odd of node 1.
func TestNext(t *testing.T) {
	for _, c := range []struct{ node, epoch, next int }{
		{0, 0, 2}, {0, 1, 2}, {0, 2, 4}, {0, 3, 4}, {0, 4, 6},
		{1, 0, 1}, {1, 1, 3}, {1, 2, 3}, {1, 3, 5}, {1, 4, 5},
		{0, api.MaxEpoch - 3, api.MaxEpoch - 2},
		{0, api.MaxEpoch - 2, api.MaxEpoch},
		{0, api.MaxEpoch - 1, api.MaxEpoch},
		{1, api.MaxEpoch - 3, api.MaxEpoch - 1},
		{1, api.MaxEpoch - 2, api.MaxEpoch - 1},
	} {
		r := made(t, c.node, c.epoch)
		for range 2 { // to ask changes nothing
			if next, err := r.Next(); next != c.next || err != nil {
				t.Error(c, next, err)
			}
			is(t, r, false, c.epoch)
		}
		claims(t, r, c.next)
	}
}

// P81: an active one may be asked too.
func TestNextOfActive(t *testing.T) {
	r := claimed(t, 1, 6)
	if next, err := r.Next(); next != 9 || err != nil {
		t.Error(next, err)
	}
	is(t, r, true, 7)
}

// P81: behind the last epoch of a node there is none to claim, whatever is asked for.
func TestNoNext(t *testing.T) {
	for _, c := range [][2]int{{0, api.MaxEpoch}, {1, api.MaxEpoch - 1}, {1, api.MaxEpoch}} {
		r := made(t, c[0], c[1])
		if next, err := r.Next(); next != 0 || err != api.ErrBound {
			t.Error(c, next, err)
		}
		for _, epoch := range append([]int{0, 1, api.MaxEpoch - 1, api.MaxEpoch}, noEpochs...) {
			if err := r.Claim(epoch); err != api.ErrBound {
				t.Error(c, epoch, err)
			}
		}
		is(t, r, false, c[1])
		silent(t, r, api.HoldOff+1)
	}
}

// P81: only the next epoch is claimed; another one changes nothing.
func TestClaimRefuses(t *testing.T) {
	for _, c := range []struct{ node, epoch, next int }{{0, 4, 6}, {1, 4, 5}, {0, 0, 2}, {1, 0, 1}} {
		r := made(t, c.node, c.epoch)
		r.Tick()
		others := append([]int{0, c.epoch, c.next - 1, c.next + 1, c.next + 2, c.next - 2, api.MaxEpoch}, noEpochs...)
		for _, epoch := range others {
			if err := r.Claim(epoch); err != api.ErrShape {
				t.Error(c, epoch, err)
			}
			is(t, r, false, c.epoch)
		}
		silent(t, r, api.HoldOff)
		claims(t, r, c.next)
	}
}

// P81: a standby may claim ahead of its time: silence is the caller's reason, not the role's.
func TestClaimEarly(t *testing.T) {
	claims(t, made(t, 0, 3), 4)
}

// P81: who is active claims nothing more, and that is told first.
func TestClaimHeld(t *testing.T) {
	last := claimed(t, 0, api.MaxEpoch-1)
	for _, r := range []*role.Role{claimed(t, 1, 0), last} {
		old := r.Epoch()
		for _, epoch := range append([]int{old, old + 2, 0}, noEpochs...) {
			if err := r.Claim(epoch); err != api.ErrHeld {
				t.Error(old, epoch, err)
			}
			is(t, r, true, old)
		}
	}
}

// P81: a beat of what it knows, or of more, ends a standby's silence; less does not.
func TestHearOfStandby(t *testing.T) {
	for _, c := range []struct{ epoch, knows, ticks int }{
		{0, 5, 6}, {4, 5, 6}, {5, 5, 10}, {6, 6, 10}, {7, 7, 10}, {9, 9, 10}, {api.MaxEpoch, api.MaxEpoch, 10},
	} {
		r := made(t, 0, 5)
		for range 4 {
			r.Tick()
		}
		if r.Hear(c.epoch) {
			t.Error(c, "a standby steps down")
		}
		is(t, r, false, c.knows)
		silent(t, r, c.ticks)
	}
}

// P81: only more lets an active one step down, and its silence begins then.
func TestHearOfActive(t *testing.T) {
	for _, epoch := range []int{0, 1, 5, 6} {
		r := claimed(t, 0, 5)
		if r.Hear(epoch) {
			t.Error(epoch, "steps down")
		}
		is(t, r, true, 6)
	}
	for _, epoch := range []int{7, 8, 100, api.MaxEpoch} {
		r := made(t, 0, 5)
		for range 7 {
			r.Tick()
		}
		claims(t, r, 6)
		r.Tick()
		if !r.Hear(epoch) {
			t.Error(epoch, "does not step down")
		}
		is(t, r, false, epoch)
		if r.Hear(epoch) {
			t.Error(epoch, "steps down again")
		}
		silent(t, r, 10)
	}
}

// P81: what is no epoch is not heard, by neither of them.
func TestHearNothing(t *testing.T) {
	for _, epoch := range noEpochs {
		standby, active := made(t, 1, 0), claimed(t, 1, 0)
		standby.Tick()
		if standby.Hear(epoch) || active.Hear(epoch) {
			t.Error(epoch, "steps down")
		}
		is(t, standby, false, 0)
		is(t, active, true, 1)
		silent(t, standby, 9)
	}
}

// P81: who stepped down claims what is more than all that it has heard.
func TestClaimAgain(t *testing.T) {
	r := claimed(t, 1, 0)
	r.Hear(8)
	claims(t, r, 9)
	r.Hear(10)
	claims(t, r, 11)
}

// P1, P3: a role that New refused does nothing, and does not panic.
func TestNoRole(t *testing.T) {
	r, _ := role.New(2, 0)
	if r.Tick() || r.Hear(4) {
		t.Error("does something")
	}
	if next, err := r.Next(); next != 0 || err != api.ErrBound {
		t.Error(next, err)
	}
	if err := r.Claim(2); err != api.ErrBound {
		t.Error(err)
	}
	is(t, r, false, 0)
}

// P2: roles have nothing in common.
func TestApart(t *testing.T) {
	a, b := made(t, 0, 0), made(t, 0, 0)
	a.Tick()
	claims(t, a, 2)
	is(t, b, false, 0)
	silent(t, b, 10)
}

// P82: however beats go and are lost, no epoch is claimed by both, and those of a node rise.
func TestEpochsApart(t *testing.T) {
	for seed := range int64(200) {
		source := rand.New(rand.NewSource(seed))
		both := [2]*role.Role{made(t, 0, source.Intn(4)), made(t, 1, source.Intn(4))}
		by, last := map[int]int{}, [2]int{-1, -1}
		for range 2000 {
			n := source.Intn(2)
			r := both[n]
			switch source.Intn(30) { // few beats come through
			case 0:
				r.Hear(both[1-n].Epoch())
			case 1:
				r.Hear(source.Intn(both[1-n].Epoch() + 1)) // late
			default:
				if !r.Tick() {
					continue
				}
				next, _ := r.Next()
				claims(t, r, next)
				if other, is := by[next]; is || next <= last[n] || next%2 != n {
					t.Fatal("seed", seed, "epoch", next, "of", n, "and", other)
				}
				by[next], last[n] = n, next
			}
		}
		if len(by) < 4 {
			t.Error("seed", seed, "too few claims:", len(by))
		}
	}
}
