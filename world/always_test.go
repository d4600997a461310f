package world_test

import (
	"math/rand"
	"reflect"
	"slices"
	"testing"

	"twinrampart/api"
	"twinrampart/node"
	"twinrampart/world"
)

// model of what flies, what the switch knows, and who has claimed, kept beside a world.
type model struct {
	t      *testing.T
	w      *world.World
	flying []node.Note
	heard  world.Event // Node -1: none
	events []world.Event
	claim  [2]int              // the last epoch of each
	ports  [2]map[api.Flow]int // flows that each had when it claimed, by their ends and port: adopted, or its own
	given  [2]map[int]int      // ports that each has given out, and how often
}

func newModel(t *testing.T) *model {
	return &model{t: t, w: made(t), heard: world.Event{Node: -1}, ports: [2]map[api.Flow]int{{}, {}}, given: [2]map[int]int{{}, {}}}
}

// active is a node that is up and active.
func (m *model) active(n int) bool {
	x, err := m.w.Node(n)
	return err == nil && x.Active()
}

func (m *model) tick(n int) {
	was := m.active(n)
	err := m.w.Tick(n)
	if err != nil {
		if x, still := m.w.Node(n); err != api.ErrOff || still != api.ErrOff || x != nil {
			m.t.Fatal(n, err, still)
		}
		return
	}
	x := nodeOf(m.t, m.w, n)
	l := m.w.Flying()
	due := x.Active() && x.Now()%api.Every == 0
	if claimed := !was && x.Active(); claimed {
		m.claimed(n, x)
		m.sent(l, node.Note{From: n, Life: x.Life(), Epoch: x.Epoch(), Claim: true})
	} else if due {
		m.sent(l, node.Note{From: n, Life: x.Life(), Epoch: x.Epoch(), Claim: true})
	}
	if due {
		m.sent(l, node.Note{From: n, Life: x.Life(), Epoch: x.Epoch()})
	}
}

// claimed: P104: epochs rise at each node, and are of its parity.
func (m *model) claimed(n int, x *node.Node) {
	if x.Epoch() <= m.claim[n] || x.Epoch()%2 != n {
		m.t.Fatal(n, x.Epoch(), m.claim[n])
	}
	m.claim[n] = x.Epoch()
	m.events = append(m.events, world.Event{Node: n, Epoch: x.Epoch()})
	for _, c := range x.Table() {
		if c.F.Proto != 0 {
			m.ports[n][ends(c.F)]++
		}
	}
}

func ends(f api.Flow) api.Flow {
	f.State, f.Until = 0, 0
	return f
}

// sent: if there is room. The cells are taken as they fly: they are the teller's.
func (m *model) sent(now []node.Note, x node.Note) {
	if at := len(m.flying); at < api.MaxFlying {
		if !x.Claim {
			if x.Cells = now[at].Cells; len(x.Cells) != api.Batch {
				m.t.Fatal(x)
			}
		}
		m.flying = append(m.flying, x)
	}
}

func (m *model) deliver(at int) {
	x := m.flying[at]
	fine(m.t, m.w.Deliver(at))
	m.flying = slices.Delete(m.flying, at, at+1)
	if x.Claim && x.Epoch > m.heard.Epoch {
		m.heard = world.Event{Node: x.From, Epoch: x.Epoch}
	}
}

func (m *model) twice(at int) {
	if len(m.flying) == api.MaxFlying {
		refused(m.t, m.w.Twice(at), api.ErrFull)
		return
	}
	fine(m.t, m.w.Twice(at))
	m.flying = slices.Insert(m.flying, at, m.flying[at])
}

// inside: P104: a port is given out by one node alone; another one has it by adoption.
func (m *model) inside(p api.Packet) {
	q, err := m.w.Inside(p)
	if m.heard.Node < 0 {
		refused(m.t, err, api.ErrNone)
		return
	}
	if _, off := m.w.Node(m.heard.Node); off != nil {
		refused(m.t, err, api.ErrOff)
		return
	}
	n := m.heard.Node
	if err != nil || m.ports[n][api.Flow{Proto: p.Proto, Inner: p.Src, Far: p.Dst, Port: q.Src.Port}] > 0 {
		return
	}
	m.given[n][q.Src.Port]++
	if m.given[1-n][q.Src.Port] > 0 || (q.Src.Port-api.FirstPort)/api.Half != n {
		m.t.Fatal(n, p, q)
	}
}

// check that the world is as the model is.
func (m *model) check() {
	m.t.Helper()
	knows(m.t, m.w, m.heard.Node, m.heard.Epoch)
	told(m.t, m.w, m.events...)
	if l := m.w.Flying(); !alike(l, m.flying) {
		m.t.Errorf("%v fly, not %v", l, m.flying)
	}
}

// step of a play, by chance.
func (m *model) step(r *rand.Rand) {
	n, some := r.Intn(2), len(m.flying) > 0
	switch k := r.Intn(100); {
	case k < 35:
		m.tick(n)
	case k < 38:
		for range 10 {
			m.tick(n)
		}
	case k < 58 && some:
		m.deliver(r.Intn(len(m.flying)))
	case k < 62 && some:
		at := r.Intn(len(m.flying))
		fine(m.t, m.w.Drop(at))
		m.flying = slices.Delete(m.flying, at, at+1)
	case k < 66 && some:
		m.twice(r.Intn(len(m.flying)))
	case k < 80:
		m.inside(udp(api.End{Addr: 10 + r.Intn(20), Port: 100}, api.End{Addr: 77, Port: 80 + r.Intn(2)}))
	case k < 90:
		m.w.Outside(udp(api.End{Addr: 77, Port: 80 + r.Intn(2)}, public(api.FirstPort+r.Intn(2*api.Half))))
	case k < 92:
		m.w.Down(n)
	case k < 96:
		m.w.Up(n)
	case k < 98:
		m.w.Cut(n, r.Intn(30))
	}
}

// P100 to P104: whatever comes, in whichever order.
func TestAlways(t *testing.T) {
	claims := [2]int{}
	for seed := range 40 {
		r := rand.New(rand.NewSource(int64(seed)))
		m := newModel(t)
		for range 500 {
			m.step(r)
			if m.check(); t.Failed() {
				t.Fatal(seed)
			}
		}
		for _, e := range m.events {
			claims[e.Node]++
		}
	}
	if claims[0] < 40 || claims[1] < 40 {
		t.Error("too little has happened", claims)
	}
}

// P2: the same calls make the same world.
func TestSameCallsSameWorld(t *testing.T) {
	for seed := range 10 {
		var ends [2]seen
		for i := range ends {
			r := rand.New(rand.NewSource(int64(seed)))
			m := newModel(t)
			for range 500 {
				m.step(r)
			}
			ends[i] = look(m.w)
		}
		if !reflect.DeepEqual(ends[0], ends[1]) {
			t.Error(seed)
		}
	}
}
