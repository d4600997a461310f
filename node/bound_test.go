package node

import (
	"testing"

	"twinrampart/api"
	"twinrampart/cell"
)

// P92: no tick behind MaxTick. It stands in the package, because nobody can wait so long.
func TestTickBound(t *testing.T) {
	n, err := New(0, cell.NewBytes(), nil)
	if err != nil {
		t.Fatal(err)
	}
	n.now = api.MaxTick - 1
	if _, err := n.Tick(); err != nil || n.Now() != api.MaxTick {
		t.Error(n.Now(), err)
	}
	for range api.HoldOff + 1 {
		if l, err := n.Tick(); len(l) != 0 || err != api.ErrBound || n.Now() != api.MaxTick || n.Active() {
			t.Error(n.Now(), l, err)
		}
	}
}
