package script_test

import (
	"fmt"
	"math/rand"
	"slices"
	"strings"
	"testing"

	"twinrampart/api"
	"twinrampart/packet"
	"twinrampart/policy"
	"twinrampart/script"
	"twinrampart/world"
)

// scripts by chance, of as many lines as there may be; now and then one that is none.
func scripts(many int) [][]string {
	r := rand.New(rand.NewSource(13))
	l := make([][]string, many)
	for i := range l {
		l[i] = []string{"tick 0 10", "all"}
		for len(l[i]) < api.MaxLines {
			l[i] = append(l[i], line(r))
		}
	}
	return l
}

// noLines: what is no command.
func noLines() []string { return []string{"", "tick 2 1", "fly ", "go 007", "inside udp 5:7", "what"} }

func line(r *rand.Rand) string {
	node, flags := r.Intn(2), []string{"syn", "syn+ack", "ack", "ack+fin", "rst", "-"}[r.Intn(6)]
	inner, far := fmt.Sprintf("%d:7", r.Intn(4)), fmt.Sprintf("9:%d", []int{80, 81, 2000}[r.Intn(3)])
	public := fmt.Sprintf("%d:%d", 1+r.Intn(8)/7, api.FirstPort+r.Intn(2)*api.Half+r.Intn(3))
	switch k := r.Intn(100); {
	case k < 20:
		return fmt.Sprintf("tick %d %d", node, r.Intn(13))
	case k < 30:
		return fmt.Sprintf("%s %d", []string{"go", "lose", "twice"}[r.Intn(3)], r.Intn(3))
	case k < 40:
		return "all"
	case k < 50:
		return fmt.Sprintf("inside tcp %s %s %s", inner, far, flags)
	case k < 55:
		return fmt.Sprintf("inside udp %s %s", inner, far)
	case k < 65:
		return fmt.Sprintf("outside tcp %s %s %s", far, public, flags)
	case k < 70:
		return fmt.Sprintf("outside udp %s %s", far, public)
	case k < 76:
		return fmt.Sprintf("%s %d", []string{"down", "up", "up"}[r.Intn(3)], node)
	case k < 79:
		return fmt.Sprintf("cut %d %d", node, r.Intn(30))
	case k < 92:
		return fmt.Sprintf("%s %d", []string{"active", "flows", "mirror", "epoch", "life"}[r.Intn(5)], node)
	case k < 98:
		return []string{"fly", "switch", "events"}[r.Intn(3)]
	}
	return noLines()[r.Intn(len(noLines()))]
}

// beside: what the chapter says of a line, told without this package. The lines are those made above.
func beside(w *world.World, line string) string {
	var n, many int
	name, rest, _ := strings.Cut(line, " ")
	fmt.Sscan(rest, &n, &many)
	switch name {
	case "tick":
		for range many {
			if err := w.Tick(n); err != nil {
				return err.Error()
			}
		}
		return "ok"
	case "cut":
		return ok(w.Cut(n, many))
	case "go":
		return ok(w.Deliver(n))
	case "lose":
		return ok(w.Drop(n))
	case "twice":
		return ok(w.Twice(n))
	case "down":
		return ok(w.Down(n))
	case "up":
		return ok(w.Up(n))
	case "inside":
		p, _ := packet.Read(rest)
		return onward(w.Inside(p))
	case "outside":
		p, _ := packet.Read(rest)
		return onward(w.Outside(p))
	case "all":
		many := len(w.Flying())
		for range many {
			w.Deliver(0)
		}
		return fmt.Sprint(many)
	}
	return shown(w, name, n)
}

// shown: what changes nothing.
func shown(w *world.World, name string, n int) string {
	switch name {
	case "fly":
		return fmt.Sprint(len(w.Flying()))
	case "switch":
		if n, epoch := w.Switch(); n >= 0 {
			return fmt.Sprint(n, epoch)
		}
		return "nothing"
	case "events":
		if l := w.Events(); len(l) > 0 {
			return strings.NewReplacer("[{", "", "} {", ", ", "}]", "").Replace(fmt.Sprint(l))
		}
		return "nothing"
	}
	x, err := w.Node(n)
	switch {
	case err != nil && name == "active":
		return "down"
	case err != nil:
		return err.Error()
	case name == "active" && x.Active():
		return "yes"
	case name == "active":
		return "no"
	case name == "flows":
		return flows(x.Table())
	case name == "mirror":
		return flows(x.Mirror())
	case name == "epoch":
		return fmt.Sprint(x.Epoch())
	}
	return fmt.Sprint(x.Life())
}

func flows(l []api.Cell) string {
	return fmt.Sprint(len(slices.DeleteFunc(l, func(c api.Cell) bool { return c.F.Proto == 0 })))
}

func ok(err error) string {
	if err != nil {
		return err.Error()
	}
	return "ok"
}

func onward(p api.Packet, err error) string {
	if err != nil {
		return err.Error()
	}
	s, err := packet.Text(p)
	if err != nil {
		panic(err)
	}
	return s
}

// P130, P131: whatever comes, in whichever order, line by line.
func TestBeside(t *testing.T) {
	counts := map[string]int{}
	rules, err := policy.Read(out)
	if err != nil {
		t.Fatal(err)
	}
	for _, lines := range scripts(200) {
		got, err := script.Run(out, lines)
		w, none := world.New(rules)
		if err != nil || none != nil || len(got) != len(lines) {
			t.Fatalf("%q, %v, %v", got, err, none)
		}
		for i, line := range lines {
			want := text
			if !slices.Contains(noLines(), line) {
				want = beside(w, line)
			}
			if got[i] != want {
				t.Fatalf("%q, %d: %q, not %q", lines[:i+1], i, got[i], want)
			}
			counts[want]++
		}
	}
	for _, e := range []string{text, none, off, deny, state, shape, held} {
		if counts[e] == 0 {
			t.Error("never", e)
		}
	}
}
