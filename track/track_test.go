package track_test

import (
	"math"
	"testing"

	"twinrampart/api"
	"twinrampart/track"
)

// numbers that are no proto.
var noProtos = []int{0, -1, -2, 3, 4, 256 + api.UDP, 256 + api.TCP, math.MinInt, math.MaxInt}

// numbers that are no state.
var noStates = []int{0, -1, -2, 4, 9, 256 + api.Open, math.MinInt, math.MaxInt}

// numbers that are no flags.
var noFlags = []int{-1, -15, 16, 17, 32, 256 + api.SYN, math.MinInt, math.MaxInt}

var states = []int{api.Opening, api.Open, api.Closing}

var bothWays = []bool{true, false}

func begins(t *testing.T, proto, flags, want int, wantErr error) {
	t.Helper()
	if state, err := track.Begin(proto, flags); state != want || err != wantErr {
		t.Errorf("Begin(%d, %d): %d, %v; not %d, %v", proto, flags, state, err, want, wantErr)
	}
}

func goesTo(t *testing.T, proto, state, flags int, out bool, want int, wantGone bool) {
	t.Helper()
	if next, gone := track.Next(proto, state, flags, out); next != want || gone != wantGone {
		t.Errorf("Next(%d, %d, %d, %t): %d, %t; not %d, %t", proto, state, flags, out, next, gone, want, wantGone)
	}
}

func stays(t *testing.T, proto, state, want int) {
	t.Helper()
	if ticks := track.Time(proto, state); ticks != want {
		t.Errorf("Time(%d, %d): %d, not %d", proto, state, ticks, want)
	}
}

// P30: UDP begins Open, whatever its flags.
func TestBeginUDP(t *testing.T) {
	for flags := range 16 {
		begins(t, api.UDP, flags, api.Open, nil)
	}
}

// P30: TCP begins with SYN alone.
func TestBeginTCP(t *testing.T) {
	begins(t, api.TCP, api.SYN, api.Opening, nil)
	for flags := range 16 {
		if flags != api.SYN {
			begins(t, api.TCP, flags, 0, api.ErrState)
		}
	}
}

// P30, P3: what is out of bounds begins nothing, also where SYN is among it.
func TestBeginWrong(t *testing.T) {
	for _, proto := range noProtos {
		for flags := range 16 {
			begins(t, proto, flags, 0, api.ErrBound)
		}
	}
	for _, flags := range noFlags {
		begins(t, api.UDP, flags, 0, api.ErrBound)
		begins(t, api.TCP, flags, 0, api.ErrBound)
		for _, proto := range noProtos {
			begins(t, proto, flags, 0, api.ErrBound)
		}
	}
}

// P31: UDP, and what is no proto, stays as it is.
func TestNextNoTCP(t *testing.T) {
	for _, proto := range append([]int{api.UDP}, noProtos...) {
		for _, state := range append(states, noStates...) {
			for flags := range 16 {
				for _, out := range bothWays {
					goesTo(t, proto, state, flags, out, state, false)
				}
			}
			for _, flags := range noFlags {
				goesTo(t, proto, state, flags, false, state, false)
			}
		}
	}
}

// P31: a RST ends a TCP flow, whatever stands beside it; behind it a FIN closes it.
func TestNextEnds(t *testing.T) {
	const rst, fin = 8, 4
	for _, state := range append(states, noStates...) {
		for _, out := range bothWays {
			for flags := rst; flags < 2*rst; flags++ {
				goesTo(t, api.TCP, state, flags, out, 0, true)
			}
			for flags := fin; flags < 2*fin; flags++ {
				goesTo(t, api.TCP, state, flags, out, api.Closing, false)
			}
		}
	}
}

// P31: only SYN and ACK, both, from outside, open what is Opening.
func TestNextOpens(t *testing.T) {
	goesTo(t, api.TCP, api.Opening, api.SYN|api.ACK, false, api.Open, false)
	goesTo(t, api.TCP, api.Opening, api.SYN|api.ACK, true, api.Opening, false)
	for _, flags := range []int{0, api.SYN, api.ACK} {
		for _, out := range bothWays {
			goesTo(t, api.TCP, api.Opening, flags, out, api.Opening, false)
		}
	}
	for _, state := range append([]int{api.Open, api.Closing}, noStates...) {
		for _, flags := range []int{0, api.SYN, api.ACK, api.SYN | api.ACK} {
			for _, out := range bothWays {
				goesTo(t, api.TCP, state, flags, out, state, false)
			}
		}
	}
}

// P31: of flags that are out of bounds, the four that have a name count.
func TestNextWrongFlags(t *testing.T) {
	for _, more := range []int{16, 32, 256, math.MinInt} {
		for _, state := range states {
			for flags := range 16 {
				for _, out := range bothWays {
					want, wantGone := track.Next(api.TCP, state, flags, out)
					goesTo(t, api.TCP, state, flags|more, out, want, wantGone)
				}
			}
		}
	}
	goesTo(t, api.TCP, api.Open, -1, true, 0, true)
	goesTo(t, api.TCP, api.Open, math.MaxInt, true, 0, true)
}

// P31: the ticks of each proto and state.
func TestTime(t *testing.T) {
	for _, state := range append(states, noStates...) {
		stays(t, api.UDP, state, 60)
	}
	stays(t, api.TCP, api.Opening, 10)
	stays(t, api.TCP, api.Open, 100)
	stays(t, api.TCP, api.Closing, 5)
	for _, state := range noStates {
		stays(t, api.TCP, state, 0)
	}
	for _, proto := range noProtos {
		for _, state := range append(states, noStates...) {
			stays(t, proto, state, 0)
		}
	}
}

// P32: what is Closing stays Closing, or is gone.
func TestClosingStays(t *testing.T) {
	protos := append([]int{api.UDP, api.TCP}, noProtos...)
	for _, proto := range protos {
		for flags := -64; flags < 64; flags++ {
			for _, out := range bothWays {
				next, gone := track.Next(proto, api.Closing, flags, out)
				if !gone && next != api.Closing || gone && next != 0 {
					t.Errorf("Next(%d, Closing, %d, %t): %d, %t", proto, flags, out, next, gone)
				}
			}
		}
	}
}

// DOC.md's examples: Opening with its SYN, Open behind the answer, Closing behind a FIN of either end, gone behind a RST.
func TestLife(t *testing.T) {
	for _, out := range bothWays {
		state, err := track.Begin(api.TCP, api.SYN)
		if err != nil || state != api.Opening {
			t.Fatal(state, err)
		}
		for i, step := range []struct {
			flags int
			out   bool
			next  int
			gone  bool
		}{
			{api.SYN, true, api.Opening, false},
			{api.SYN | api.ACK, false, api.Open, false},
			{api.ACK, true, api.Open, false},
			{api.SYN | api.ACK, false, api.Open, false},
			{api.FIN | api.ACK, out, api.Closing, false},
			{api.ACK, !out, api.Closing, false},
			{api.SYN, true, api.Closing, false},
			{api.SYN | api.ACK, false, api.Closing, false},
			{api.FIN | api.ACK, !out, api.Closing, false},
			{api.RST, out, 0, true},
		} {
			next, gone := track.Next(api.TCP, state, step.flags, step.out)
			if next != step.next || gone != step.gone {
				t.Errorf("step %d: %d, %t", i, next, gone)
			}
			state = next
		}
	}
}
