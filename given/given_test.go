// Package given: tests of what packages api and plain give (they stay to the byte, so their tests stand here).
package given

import (
	"errors"
	"testing"

	"twinrampart/api"
	"twinrampart/plain"
)

// P5: the constants' numbers.
func TestNumbers(t *testing.T) {
	for _, c := range []struct {
		name      string
		got, want int
	}{
		{"MaxAddr", api.MaxAddr, 1048576},
		{"MaxPort", api.MaxPort, 65535},
		{"FirstPort", api.FirstPort, 2000},
		{"Half", api.Half, 24},
		{"Slots", api.Slots, 32},
		{"MaxRules", api.MaxRules, 20},
		{"MaxText", api.MaxText, 3000},
		{"MaxTick", api.MaxTick, 1099511627776},
		{"MaxEpoch", api.MaxEpoch, 1073741824},
		{"Batch", api.Batch, 8},
		{"Every", api.Every, 3},
		{"HoldOff", api.HoldOff, 9},
		{"MaxBytes", api.MaxBytes, 64},
		{"MaxFlying", api.MaxFlying, 200},
		{"MaxEvents", api.MaxEvents, 1000},
		{"MaxSteps", api.MaxSteps, 3000},
		{"MaxLines", api.MaxLines, 100},
		{"Workers", api.Workers, 16},
		{"Public", api.Public, 1},
		{"UDP", api.UDP, 1},
		{"TCP", api.TCP, 2},
		{"SYN", api.SYN, 1},
		{"ACK", api.ACK, 2},
		{"FIN", api.FIN, 4},
		{"RST", api.RST, 8},
		{"Opening", api.Opening, 1},
		{"Open", api.Open, 2},
		{"Closing", api.Closing, 3},
	} {
		if c.got != c.want {
			t.Errorf("%s: %d, not %d", c.name, c.got, c.want)
		}
	}
}

// P5: the errors' texts and codes. P3: a Fault wraps its error, and has a place.
func TestErrors(t *testing.T) {
	for i, c := range []struct {
		err  error
		text string
	}{
		{api.ErrText, "text"},
		{api.ErrBound, "bound"},
		{api.ErrShape, "shape"},
		{api.ErrNone, "none"},
		{api.ErrExist, "exist"},
		{api.ErrFull, "full"},
		{api.ErrOff, "off"},
		{api.ErrDeny, "deny"},
		{api.ErrState, "state"},
		{api.ErrOld, "old"},
		{api.ErrHeld, "held"},
	} {
		if c.err.Error() != "twinrampart: "+c.text {
			t.Errorf("%q, not %q", c.err.Error(), c.text)
		}
		if code, at := plain.Code(c.err); code != i+1 || at != -1 {
			t.Errorf("%s: %d at %d", c.text, code, at)
		}
		fault := &api.Fault{At: 7, Err: c.err}
		if code, at := plain.Code(fault); code != i+1 || at != 7 || fault.Error() != c.err.Error() || !errors.Is(fault, c.err) {
			t.Errorf("fault %s: %d at %d", c.text, code, at)
		}
	}
	if code, at := plain.Code(nil); code != 0 || at != -1 {
		t.Errorf("nil: %d at %d", code, at)
	}
	if code, at := plain.Code(errors.New("another")); code != -1 || at != -1 {
		t.Errorf("another: %d at %d", code, at)
	}
}
