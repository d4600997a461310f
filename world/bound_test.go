package world

import (
	"encoding/binary"
	"hash/crc32"
	"reflect"
	"testing"

	"twinrampart/api"
)

// laid: bytes of a cell that has these numbers. They stand in the package, because nobody can wait for so many lives and claims.
func laid(number, epoch, life uint32) string {
	b := make([]byte, api.MaxBytes)
	slot := b[20*(number%2):]
	binary.BigEndian.PutUint32(slot, number)
	binary.BigEndian.PutUint32(slot[4:], epoch)
	binary.BigEndian.PutUint32(slot[8:], life)
	binary.BigEndian.PutUint32(slot[12:], crc32.ChecksumIEEE(slot[:12]))
	slot[16] = 165
	return string(b)
}

// came: a world whose node 0 goes down and finds these bytes where it comes up, if it does.
func came(t *testing.T, bytes string) (*World, error) {
	t.Helper()
	w, err := New([]api.Rule{{Allow: true, Out: true, Low: 1, Top: 1000}})
	if err != nil || w.Down(0) != nil || w.sides[0].bytes.Lay(bytes) != nil {
		t.Fatal(err)
	}
	return w, w.Up(0)
}

// P102: node.New's errors where a node comes up: it stays down, without power, and what it had is as it was.
func TestUpRefused(t *testing.T) {
	for _, c := range []struct {
		bytes string
		want  error
	}{
		{laid(1, 2, api.MaxEpoch), api.ErrBound},
		{laid(6, 2, 1<<32-1), api.ErrBound},
		{laid(6, 1<<32-1, 1), api.ErrBound},
		{laid(1<<32-1, 2, 5), api.ErrFull},
		{laid(1<<32-1, 2, api.MaxEpoch), api.ErrBound},
	} {
		w, err := came(t, c.bytes)
		for range 3 {
			if err != c.want || w.sides[0].isUp() || w.sides[0].bytes.Power() || w.sides[0].bytes.All() != c.bytes {
				t.Error(err, c.want)
			}
			if n, err := w.Node(0); n != nil || err != api.ErrOff || w.Tick(0) != api.ErrOff {
				t.Error(n, err)
			}
			err = w.Up(0)
		}
		if n, err := w.Node(1); n == nil || err != nil {
			t.Error(err)
		}
	}
	w, err := came(t, laid(7, 2, api.MaxEpoch-1))
	if n, _ := w.Node(0); err != nil || n.Life() != api.MaxEpoch {
		t.Error(err)
	}
}

// P100: another error of the node's than ErrOff is answered, and the node stays up.
func TestTickRefused(t *testing.T) {
	w, err := came(t, laid(1<<32-2, 2, 5)) // its life takes the last number
	if err != nil {
		t.Fatal(err)
	}
	for range api.HoldOff {
		if err := w.Tick(0); err != nil {
			t.Fatal(err)
		}
	}
	for range 3 {
		if err := w.Tick(0); err != api.ErrFull {
			t.Error(err)
		}
	}
	n, err := w.Node(0)
	if err != nil || n.Active() || !w.sides[0].bytes.Power() || len(w.Events()) != 0 || len(w.Flying()) != 0 {
		t.Error(err, w.Events(), w.Flying())
	}
}

// P100, P103: where there is no epoch any more, nobody claims: no event, and nothing flies.
func TestNoEpochLeft(t *testing.T) {
	w, err := came(t, laid(4, api.MaxEpoch-2, 1))
	if err != nil {
		t.Fatal(err)
	}
	claims := func() {
		for range api.HoldOff + 1 {
			if err := w.Tick(0); err != nil {
				t.Fatal(err)
			}
		}
	}
	claims()
	last := []Event{{Node: 0, Epoch: api.MaxEpoch}}
	if !reflect.DeepEqual(w.Events(), last) || len(w.Flying()) != 1 || w.Deliver(0) != nil {
		t.Error(w.Events(), w.Flying())
	}
	if n, epoch := w.Switch(); n != 0 || epoch != api.MaxEpoch {
		t.Error(n, epoch)
	}
	if w.Down(0) != nil || w.Up(0) != nil {
		t.Error("it has lives left")
	}
	claims()
	if !reflect.DeepEqual(w.Events(), last) || len(w.Flying()) != 0 {
		t.Error(w.Events(), w.Flying())
	}
}
