package play_test

import (
	"fmt"
	"math"
	"reflect"
	"slices"
	"testing"

	"twinrampart/api"
	"twinrampart/node"
	"twinrampart/packet"
	"twinrampart/plain"
	"twinrampart/play"
	"twinrampart/world"
)

func made(t *testing.T) *world.World {
	t.Helper()
	w, err := world.New([]api.Rule{{Allow: true, Out: true, Low: 1, Top: 1000}})
	if w == nil || err != nil {
		t.Fatal(w, err)
	}
	return w
}

func fine(t *testing.T, err error) {
	t.Helper()
	if err != nil {
		t.Fatal(err)
	}
}

func ticks(t *testing.T, w *world.World, n, many int) {
	t.Helper()
	for range many {
		fine(t, w.Tick(n))
	}
}

// read a packet.
func read(t *testing.T, line string) api.Packet {
	t.Helper()
	p, err := packet.Read(line)
	fine(t, err)
	return p
}

// led world: the switch knows node 0, which has flows of UDP (port 2000) and of TCP (2000 too: it is another proto), and five notes fly: claim, claim, batch, claim, batch.
func led(t *testing.T) *world.World {
	t.Helper()
	w := made(t)
	ticks(t, w, 0, api.HoldOff+1)
	fine(t, w.Twice(0))
	fine(t, w.Deliver(0))
	for _, line := range []string{"udp 10:100 77:80", "tcp 11:100 77:81 syn"} {
		_, err := w.Inside(read(t, line))
		fine(t, err)
	}
	ticks(t, w, 0, 5)
	if len(w.Flying()) != 5 || w.Many() != 5 {
		t.Fatal(w.Flying())
	}
	return w
}

// seenNode: all that a node shows; zero if it is down.
type seenNode struct {
	up, active       bool
	epoch, life, now int
	table, mirror    []api.Cell
}

// seen: all that a world shows.
type seen struct {
	nodes     [2]seenNode
	at, epoch int
	flying    []node.Note
	events    []world.Event
}

func look(w *world.World) seen {
	s := seen{flying: w.Flying(), events: w.Events()}
	s.at, s.epoch = w.Switch()
	for i := range s.nodes {
		if n, err := w.Node(i); err == nil {
			s.nodes[i] = seenNode{true, n.Active(), n.Epoch(), n.Life(), n.Now(), n.Table(), n.Mirror()}
		}
	}
	return s
}

// alike are two worlds in all that they show.
func alike(t *testing.T, what any, got, want *world.World) {
	t.Helper()
	if a, b := look(got), look(want); !reflect.DeepEqual(a, b) {
		t.Errorf("%v: %v, not %v", what, a, b)
	}
}

// answers of a script.
func answers(t *testing.T, w *world.World, script []int, want ...int) {
	t.Helper()
	if got := play.Run(w, script); !slices.Equal(got, want) {
		t.Errorf("%v: %v, not %v", script, got, want)
	}
}

// deed: what a number of a script stands for.
type deed struct {
	v    int
	does func(w *world.World) error
}

func inside(t *testing.T, line string) func(*world.World) error {
	p := read(t, line)
	return func(w *world.World) error {
		_, err := w.Inside(p)
		return err
	}
}

func outside(t *testing.T, line string) func(*world.World) error {
	p := read(t, line)
	return func(w *world.World) error {
		_, err := w.Outside(p)
		return err
	}
}

// tenTicks, or as many as there are ahead of an error.
func tenTicks(n int) func(*world.World) error {
	return func(w *world.World) error {
		for range 10 {
			if err := w.Tick(n); err != nil {
				return err
			}
		}
		return nil
	}
}

func deliver(at int) func(*world.World) error {
	return func(w *world.World) error { return w.Deliver(at) }
}

func drop(at int) func(*world.World) error {
	return func(w *world.World) error { return w.Drop(at) }
}

func twice(at int) func(*world.World) error {
	return func(w *world.World) error { return w.Twice(at) }
}

func tick(n int) func(*world.World) error {
	return func(w *world.World) error { return w.Tick(n) }
}

func down(n int) func(*world.World) error {
	return func(w *world.World) error { return w.Down(n) }
}

func up(n int) func(*world.World) error {
	return func(w *world.World) error { return w.Up(n) }
}

// deeds in a led world, of all kinds.
func deeds(t *testing.T) []deed {
	nothing := func(*world.World) error { return nil }
	return []deed{
		{0, deliver(0)}, {16*2 + 0, deliver(2)}, {16*7 + 0, deliver(2)},
		{16*1 + 1, deliver(1)}, {16*14 + 1, deliver(4)},
		{16*5 + 2, deliver(0)}, {16*9 + 2, deliver(4)},
		{3, drop(0)}, {16*4 + 3, drop(4)}, {16*5 + 3, drop(0)}, {16*8 + 3, drop(3)},
		{4, twice(0)}, {16*3 + 4, twice(3)}, {16*5 + 4, twice(0)}, {16*7 + 4, twice(2)},
		{5, tick(0)}, {16*1 + 5, tick(1)}, {16*2 + 5, tick(0)}, {16*101 + 5, tick(1)},
		{6, tick(0)}, {16*1 + 6, tick(1)}, {16*2 + 6, tick(0)}, {16*101 + 6, tick(1)},
		{7, tenTicks(0)}, {16*1 + 7, tenTicks(1)}, {16*8 + 7, tenTicks(0)}, {16*9 + 7, tenTicks(1)},
		{8, inside(t, "udp 10:100 77:80")}, {9, inside(t, "udp 10:100 77:80")},
		{16*2 + 8, inside(t, "udp 11:100 77:80")}, {16*6 + 9, inside(t, "udp 10:100 77:81")},
		{16*1 + 8, inside(t, "tcp 10:100 77:80 syn")}, {16*5 + 9, inside(t, "tcp 12:100 77:80 syn")},
		{16*13 + 8, inside(t, "tcp 10:100 77:80 ack")}, {16*21 + 9, inside(t, "tcp 11:100 77:81 ack")},
		{16*33 + 8, inside(t, "tcp 11:100 77:81 ack+fin")}, {16*45 + 9, inside(t, "tcp 11:100 77:81 rst")},
		{10, outside(t, "udp 77:80 1:2000")}, {11, outside(t, "udp 77:80 1:2000")},
		{16*2 + 10, outside(t, "udp 77:81 1:2000")}, {16*4 + 11, outside(t, "udp 77:80 1:2001")},
		{16*3 + 10, outside(t, "tcp 77:81 1:2000 syn+ack")}, {16*1 + 11, outside(t, "tcp 77:80 1:2000 syn+ack")},
		{16*3 + 11, outside(t, "tcp 77:81 1:2000 syn+ack")}, {16*195 + 10, outside(t, "tcp 77:81 1:2000 syn+ack")},
		{12, down(0)}, {16*1 + 12, down(1)}, {16*6 + 12, down(0)}, {16*7 + 12, down(1)},
		{13, up(0)}, {16*1 + 13, up(1)},
		{15, nothing}, {16*1 + 15, nothing}, {16*77 + 15, nothing}, {math.MaxInt, nothing},
	}
}

// P110: each number does what the chapter says, and nothing else, and answers its error.
func TestDeeds(t *testing.T) {
	for _, c := range deeds(t) {
		got, want := led(t), led(t)
		code, _ := plain.Code(c.does(want))
		answers(t, got, []int{c.v}, code)
		alike(t, c.v, got, want)
	}
}

// P110: where nodes are down, and none flies.
func TestDeedsBehindAFall(t *testing.T) {
	fallen := func() *world.World {
		w := made(t)
		fine(t, w.Down(0))
		fine(t, w.Down(1))
		return w
	}
	codes := [16]int{4, 4, 4, 4, 4, 7, 7, 7, 4, 4, 4, 4, 7, 0, 7, 0}
	for q := range 20 {
		for kind, code := range codes {
			got, want := fallen(), fallen()
			answers(t, got, []int{16*q + kind}, code)
			if kind == 13 {
				fine(t, want.Up(q%2))
			}
			alike(t, 16*q+kind, got, want)
		}
	}
}

// P110: 7 ends at the first error, and answers it.
func TestWaitEndsAtAnError(t *testing.T) {
	w := made(t)
	answers(t, w, []int{14, 7, 5, 13, 7}, 0, 7, 7, 0, 0)
	n, err := w.Node(0)
	if err != nil || n.Life() != 2 || n.Now() != 10 || len(w.Flying()) != 1 || n.Epoch() != 2 {
		t.Error(n, err)
	}
}

// P110: power fails after q over 2, down, modulo 30 bytes, at the node of q.
func TestCut(t *testing.T) {
	held := 0
	for q := range 130 {
		n, bytes := q%2, q/2
		for bytes >= 30 {
			bytes -= 30
		}
		got, want := made(t), made(t)
		fine(t, want.Cut(n, bytes))
		answers(t, got, []int{16*q + 14}, 0)
		for _, does := range []func(*world.World) error{tenTicks(0), tenTicks(1), down(n), up(n), tenTicks(n)} {
			a, b := does(got), does(want)
			if a != b {
				t.Errorf("%d: %v, not %v", q, a, b)
			}
			if a == api.ErrOff {
				held++
			}
			alike(t, q, got, want)
		}
	}
	if held < 60 {
		t.Error("power has hardly failed", held)
	}
}

// P110: a number below 0 is nothing, and the next one goes on.
func TestBelowNothing(t *testing.T) {
	w, was := led(t), led(t)
	answers(t, w, []int{-1, -16, -11, -12, math.MinInt, math.MinInt + 1}, -1, -1, -1, -1, -1, -1)
	alike(t, "below 0", w, was)
	fine(t, was.Tick(1))
	answers(t, w, []int{-5, 16 + 5, -5}, -1, 0, -1)
	alike(t, "beside a tick", w, was)
}

// P110: numbers as great as there are.
func TestGreatNumbers(t *testing.T) {
	w := led(t)
	for v := range 64 {
		play.Run(w, []int{math.MaxInt - v})
	}
	answers(t, made(t), []int{math.MaxInt, math.MaxInt - 15, math.MaxInt - 10, math.MaxInt - 7}, 0, 4, 0, 4)
}

// P110, P3: no numbers, no answers.
func TestNoScript(t *testing.T) {
	for _, none := range [][]int{nil, {}, make([]int, 0, 9)} {
		w := led(t)
		answers(t, w, none)
		alike(t, "none", w, led(t))
	}
}

// P110: at most MaxSteps; what is beyond is not done.
func TestMostSteps(t *testing.T) {
	for _, many := range []int{api.MaxSteps - 1, api.MaxSteps, api.MaxSteps + 1, 2 * api.MaxSteps} {
		w := made(t)
		script := slices.Repeat([]int{15}, many)
		for i := api.MaxSteps - 1; i < many; i++ {
			script[i] = 5 // the last one that counts, and all behind it
		}
		if got := play.Run(w, script); !slices.Equal(got, make([]int, min(many, api.MaxSteps))) {
			t.Error(many, len(got))
		}
		n, err := w.Node(0)
		fine(t, err)
		if want := max(0, min(many, api.MaxSteps)-api.MaxSteps+1); n.Now() != want {
			t.Errorf("of %d: tick %d, not %d", many, n.Now(), want)
		}
	}
}

// P3, P4: the script is only read, and nothing behind its length; the answers are new.
func TestScriptIsOnlyRead(t *testing.T) {
	whole := []int{7, 0, 8, 12, 12}
	w := made(t)
	got := play.Run(w, whole[:3])
	if !slices.Equal(got, []int{0, 0, 0}) || !slices.Equal(whole, []int{7, 0, 8, 12, 12}) {
		t.Error(got, whole)
	}
	_ = append(got, 99)
	got[0] = 99
	if !slices.Equal(whole, []int{7, 0, 8, 12, 12}) {
		t.Error(whole)
	}
	if _, err := w.Node(0); err != nil {
		t.Error(err)
	}
}

// P110: a play whose answers are worked out by hand: a flow from inside and its answer, then the other node takes over.
func TestTakeOver(t *testing.T) {
	w := made(t)
	steps := []struct{ v, want int }{
		{8, 4},       // the switch knows none
		{7, 0},       // node 0 claims epoch 2, at tick 10
		{16 + 8, 4},  // its claim flies
		{16 + 0, 0},  // one flies: number 0
		{16 + 8, 0},  // SYN, by port 2000
		{16 + 10, 0}, // SYN+ACK: open
		{5, 0}, {6, 0},
		{16 + 0, 0}, // two fly: the batch
		{12, 0},     // down
		{12, 7},
		{16 + 8, 7}, // whom the switch knows
		{16 + 5, 0},
		{16 + 7, 0},    // node 1 claims epoch 3, at its tick 10
		{16*2 + 2, 0},  // of both claims the first one: node 0's
		{16 + 8, 7},    // it knew that
		{2, 0},         // 1's claim
		{16*13 + 9, 0}, // ACK, of the flow that was adopted
		{13, 0},
		{13, 11},
		{15, 0},
	}
	for i, s := range steps {
		if got := play.Run(w, []int{s.v}); !slices.Equal(got, []int{s.want}) {
			t.Fatalf("step %d: %v, not %d; %v", i, got, s.want, look(w))
		}
	}
	if got := fmt.Sprint(w.Events()); got != "[{0 2} {1 3}]" {
		t.Error(got)
	}
}
