package policy_test

import (
	"errors"
	"math"
	"math/rand"
	"slices"
	"strings"
	"testing"

	"twinrampart/api"
	"twinrampart/packet"
	"twinrampart/policy"
)

var all = api.Rule{Allow: true, Low: 1, Top: api.MaxPort}

// rules that are none.
var wrong = []api.Rule{
	{},
	{Proto: -1, Low: 1, Top: 2},
	{Proto: 3, Low: 1, Top: 2},
	{Proto: math.MinInt, Low: 1, Top: 2},
	{Proto: math.MaxInt, Low: 1, Top: 2},
	{Proto: api.UDP, Low: 0, Top: 2},
	{Proto: api.UDP, Low: -1, Top: 2},
	{Proto: api.TCP, Low: 3, Top: 2},
	{Low: 1, Top: api.MaxPort + 1},
	{Low: api.MaxPort + 1, Top: api.MaxPort + 1},
	{Low: 1},
	{Top: 1},
	{Low: math.MinInt, Top: math.MaxInt},
	{Allow: true, Out: true, Low: 2, Top: math.MinInt},
}

// rules that are some.
var right = []api.Rule{
	{Low: 1, Top: 1},
	{Low: api.MaxPort, Top: api.MaxPort},
	{Proto: api.UDP, Low: 1, Top: api.MaxPort},
	{Proto: api.TCP, Low: 80, Top: 81},
	{Allow: true, Low: 2, Top: 2},
	{Allow: true, Out: true, Low: 2, Top: 99},
}

func dst(proto, port int) api.Packet {
	return api.Packet{Proto: proto, Src: api.End{Addr: 10, Port: 7}, Dst: api.End{Addr: 77, Port: port}}
}

// isFault says whether err is a Fault with that place and error.
func isFault(err error, at int, want error) bool {
	f, ok := err.(*api.Fault)
	return ok && f.At == at && f.Err == want
}

// random rules; few ports, so that they often meet.
func random(r *rand.Rand, n int) []api.Rule {
	ports := []int{1, 2, 3, 4, 5, 6, 65533, 65534, 65535}
	var l []api.Rule
	for range n {
		i := r.Intn(len(ports))
		j := i + r.Intn(len(ports)-i)
		l = append(l, api.Rule{Allow: r.Intn(2) == 0, Out: r.Intn(2) == 0, Proto: r.Intn(3), Low: ports[i], Top: ports[j]})
	}
	return l
}

// admits asks every port that random rules tell apart.
func admits(t *testing.T, l []api.Rule) []bool {
	t.Helper()
	var list []bool
	for _, out := range []bool{false, true} {
		for _, proto := range []int{api.UDP, api.TCP} {
			for _, port := range []int{1, 2, 3, 4, 5, 6, 7, 8, 30000, 65532, 65533, 65534, 65535} {
				is, err := policy.Admits(l, dst(proto, port), out)
				if err != nil {
					t.Fatal(l, err)
				}
				list = append(list, is)
			}
		}
	}
	return list
}

// P20.
func TestCheck(t *testing.T) {
	for _, l := range [][]api.Rule{nil, {}, right, slices.Repeat(right[:1], api.MaxRules)} {
		if err := policy.Check(l); err != nil {
			t.Error(l, err)
		}
	}
	for _, r := range wrong {
		for i := range right {
			l := slices.Concat(right[:i], []api.Rule{r}, right[i:], []api.Rule{{}})
			if err := policy.Check(l); !isFault(err, i, api.ErrBound) {
				t.Error(l, err)
			}
		}
	}
}

// tooMany rules: a bare error, whatever they are.
func tooMany() [][]api.Rule {
	return [][]api.Rule{slices.Repeat(right[:1], api.MaxRules+1), slices.Repeat(wrong[:1], api.MaxRules+1), make([]api.Rule, 500)}
}

func TestCheckTooMany(t *testing.T) {
	for _, l := range tooMany() {
		if err := policy.Check(l); err != api.ErrBound {
			t.Error(len(l), err)
		}
	}
}

// P3: what lies behind a list's length is not read.
func TestBehindTheList(t *testing.T) {
	l := []api.Rule{all, {}, {}}[:1]
	if err := policy.Check(l); err != nil {
		t.Error(err)
	}
	if s, err := policy.Text(l); s != "allow in any 1-65535\n" || err != nil {
		t.Error(s, err)
	}
}

// P21: the first rule that has the packet says it.
func TestAdmits(t *testing.T) {
	l := []api.Rule{
		{Out: true, Proto: api.TCP, Low: 25, Top: 30},
		{Allow: true, Out: true, Proto: api.UDP, Low: 25, Top: 25},
		{Out: true, Low: 20, Top: 25},
		{Allow: true, Out: true, Low: 1, Top: 1000},
		{Allow: true, Proto: api.TCP, Low: api.MaxPort, Top: api.MaxPort},
		{Low: 1, Top: api.MaxPort},
		{Allow: true, Low: 1, Top: api.MaxPort},
	}
	for _, c := range []struct {
		proto, port int
		out, want   bool
	}{
		{api.TCP, 24, true, false}, {api.TCP, 25, true, false}, {api.TCP, 30, true, false}, {api.TCP, 31, true, true},
		{api.UDP, 19, true, true}, {api.UDP, 20, true, false}, {api.UDP, 24, true, false}, {api.UDP, 25, true, true}, {api.UDP, 26, true, true},
		{api.UDP, 1, true, true}, {api.TCP, 1000, true, true}, {api.TCP, 1001, true, false}, {api.UDP, api.MaxPort, true, false},
		{api.TCP, api.MaxPort, false, true}, {api.UDP, api.MaxPort, false, false}, {api.TCP, api.MaxPort - 1, false, false}, {api.UDP, 25, false, false},
	} {
		if is, err := policy.Admits(l, dst(c.proto, c.port), c.out); is != c.want || err != nil {
			t.Error(c, is, err)
		}
	}
}

// P21: without a rule nothing is admitted; neither Src nor flags count.
func TestAdmitsByDstAlone(t *testing.T) {
	for _, out := range []bool{false, true} {
		if is, err := policy.Admits(nil, dst(api.TCP, 80), out); is || err != nil {
			t.Error(is, err)
		}
		for src := 1; src < 20; src++ {
			p := api.Packet{Proto: api.TCP, Src: api.End{Addr: src, Port: src}, Dst: api.End{Addr: 20 - src, Port: 9}, Flags: src % 16}
			at9 := []api.Rule{{Allow: true, Out: out, Low: 9, Top: 9}}
			if is, err := policy.Admits(at9, p, out); !is || err != nil {
				t.Error(p, is, err)
			}
			if is, err := policy.Admits(at9, p, !out); is || err != nil {
				t.Error(p, is, err)
			}
		}
	}
}

// P21: Check's errors ahead of the packet's.
func TestAdmitsErrors(t *testing.T) {
	flagged := api.Packet{Proto: api.UDP, Src: api.End{Port: 1}, Dst: api.End{Port: 1}, Flags: api.SYN}
	for _, p := range []api.Packet{dst(api.TCP, 80), {}, flagged} {
		for _, l := range tooMany() {
			if is, err := policy.Admits(l, p, true); is || err != api.ErrBound {
				t.Error(is, err)
			}
		}
		for _, r := range wrong {
			if is, err := policy.Admits([]api.Rule{all, {Allow: true, Out: true, Low: 1, Top: 100}, r}, p, true); is || !isFault(err, 2, api.ErrBound) {
				t.Error(is, err)
			}
		}
		want := packet.Check(p)
		if is, err := policy.Admits([]api.Rule{all}, p, false); err != want || is != (want == nil) {
			t.Error(is, err)
		}
	}
}

// P21: every word of a line.
func TestText(t *testing.T) {
	l := []api.Rule{
		{Low: 1, Top: 1}, {Allow: true, Low: 2, Top: 10}, {Out: true, Low: 9, Top: 65535}, {Allow: true, Out: true, Low: 65535, Top: 65535},
		{Proto: api.UDP, Low: 1, Top: 1}, {Allow: true, Proto: api.UDP, Low: 1, Top: 1}, {Out: true, Proto: api.UDP, Low: 1, Top: 1}, {Allow: true, Out: true, Proto: api.UDP, Low: 1, Top: 1},
		{Proto: api.TCP, Low: 1, Top: 1}, {Allow: true, Proto: api.TCP, Low: 1, Top: 1}, {Out: true, Proto: api.TCP, Low: 1, Top: 1}, {Allow: true, Out: true, Proto: api.TCP, Low: 1, Top: 1},
	}
	text := `deny in any 1-1
allow in any 2-10
deny out any 9-65535
allow out any 65535-65535
deny in udp 1-1
allow in udp 1-1
deny out udp 1-1
allow out udp 1-1
deny in tcp 1-1
allow in tcp 1-1
deny out tcp 1-1
allow out tcp 1-1
`
	if s, err := policy.Text(l); s != text || err != nil {
		t.Error(s, err)
	}
	for _, s := range []string{text, strings.TrimSuffix(text, "\n")} {
		if got, err := policy.Read(s); !slices.Equal(got, l) || err != nil {
			t.Error(got, err)
		}
	}
	if s, err := policy.Text(nil); s != "" || err != nil {
		t.Error(s, err)
	}
	if got, err := policy.Read(""); len(got) != 0 || err != nil {
		t.Error(got, err)
	}
}

func TestTextErrors(t *testing.T) {
	for _, l := range tooMany() {
		if s, err := policy.Text(l); s != "" || err != api.ErrBound {
			t.Error(s, err)
		}
	}
	for _, r := range wrong {
		if s, err := policy.Text([]api.Rule{all, r}); s != "" || !isFault(err, 1, api.ErrBound) {
			t.Error(s, err)
		}
	}
}

// P21: a line that Text does not make is ErrText, at its place.
func TestReadBadLine(t *testing.T) {
	const good = "allow out any 1-2\n"
	for _, s := range []string{
		"", " ", "allow", "allow out", "allow out any", "allow out any ", "allow out any 1", "allow out any 1-", "allow out any -2", "allow out any -", "allow out any 1-2-3", "allow out any 1--2", "allow out any -1-2", "allow out any 1:2", "allow out any 1 2",
		" allow out any 1-2", "allow out any 1-2 ", "allow  out any 1-2", "allow out  any 1-2", "allow out any  1-2", "allow\tout any 1-2", "allow out any 1-2\r", "allow out any 1-2 3", "allow out any 1 - 2", "allow out any 1-2\x00",
		"Allow out any 1-2", "let out any 1-2", " out any 1-2", "1 out any 1-2", "allowdeny out any 1-2", "allow up any 1-2", "allow  any 1-2", "allow any any 1-2", "allow out all 1-2", "allow out  1-2", "allow out icmp 1-2", "allow out 0 1-2", "allow out tcp+udp 1-2", "out allow any 1-2", "allow udp out 1-2",
		"allow out any 01-2", "allow out any 1-02", "allow out any 00-2", "allow out any +1-2", "allow out any 1-+2", "allow out any 1-x", "allow out any x-1", "allow out any 1-2x", "allow out any 0x1-2", "allow out any 1_0-20", "allow out any 1-\u0662",
		"allow out any 1-100000", "allow out any 100000-100001", "allow out any 1-000002", "allow out any 1-18446744073709551618", "allow out any 1-" + strings.Repeat("9", 2000),
	} {
		for i := range 4 {
			for _, behind := range []string{"\n", "\n" + good, "\nnone", "\nallow out any 0-0"} {
				if l, err := policy.Read(strings.Repeat(good, i) + s + behind); len(l) != 0 || !isFault(err, i, api.ErrText) {
					t.Errorf("%.80q: %v, %v", s, l, err)
				}
			}
		}
		if s == "" {
			continue // without its line break it is no line at all
		}
		if l, err := policy.Read(s); len(l) != 0 || !isFault(err, 0, api.ErrText) {
			t.Errorf("%.80q: %v, %v", s, l, err)
		}
	}
}

// P21: of lines that are some, Check's errors; a bad line is told ahead, wherever it stands.
func TestReadBadRule(t *testing.T) {
	const good = "deny in udp 7-9\n"
	for _, s := range []string{"allow out any 0-2", "allow out any 0-0", "deny in tcp 3-2", "deny in udp 3-65536", "deny in udp 65536-65536", "deny in udp 99999-99999", "allow out any 10000-9999", "allow out any 2-0"} {
		for i := range 4 {
			ahead := strings.Repeat(good, i)
			if l, err := policy.Read(ahead + s); len(l) != 0 || !isFault(err, i, api.ErrBound) {
				t.Errorf("%q: %v, %v", s, l, err)
			}
			if l, err := policy.Read(ahead + s + "\n" + good + "none\n"); len(l) != 0 || !isFault(err, i+2, api.ErrText) {
				t.Errorf("%q: %v, %v", s, l, err)
			}
		}
	}
	if l, err := policy.Read(strings.Repeat(good, api.MaxRules)); len(l) != api.MaxRules || err != nil {
		t.Error(l, err)
	}
	for _, s := range []string{good, "deny in udp 0-0\n"} {
		if l, err := policy.Read(strings.Repeat(s, api.MaxRules+1)); len(l) != 0 || err != api.ErrBound {
			t.Error(l, err)
		}
		if l, err := policy.Read(strings.Repeat(s, api.MaxRules+1) + "none"); len(l) != 0 || !isFault(err, api.MaxRules+1, api.ErrText) {
			t.Error(l, err)
		}
	}
}

// P21: the length is asked first of all.
func TestReadLength(t *testing.T) {
	for _, s := range []string{"x", "\n", "deny in udp 7-9\n"} {
		long := strings.Repeat(s, api.MaxText+1)
		if l, err := policy.Read(long[:api.MaxText+1]); len(l) != 0 || err != api.ErrBound {
			t.Errorf("%q: %v, %v", s, l, err)
		}
		if l, err := policy.Read(long[:api.MaxText]); len(l) != 0 || !errors.Is(err, api.ErrText) {
			t.Errorf("%q: %v, %v", s, l, err)
		}
	}
}

// P21: what is written is read, and what is read is written so.
func TestWrittenIsRead(t *testing.T) {
	r := rand.New(rand.NewSource(1))
	for i := range 200 {
		l := random(r, i%(api.MaxRules+1))
		s, e1 := policy.Text(l)
		got, e2 := policy.Read(s)
		if e1 != nil || e2 != nil || !slices.Equal(got, l) {
			t.Fatal(l, s, got, e1, e2)
		}
	}
	const text = "deny out tcp 25-25\nallow in any 9-1000"
	for i := range len(text) + 1 {
		for _, c := range []string{"", "\n", " ", "-", "+", "0", "1", "9", "a", "\x00", "\xff"} {
			near := []string{text[:i] + c + text[i:]}
			if i < len(text) {
				near = append(near, text[:i]+c+text[i+1:])
			}
			for _, s := range near {
				l, err := policy.Read(s)
				if err != nil && len(l) == 0 {
					continue
				}
				if made, _ := policy.Text(l); err != nil || made != strings.TrimSuffix(s, "\n")+"\n" {
					t.Errorf("%q: %v, %v", s, l, err)
				}
			}
		}
	}
}

// P22.
func TestSame(t *testing.T) {
	for _, c := range []struct {
		a, b []api.Rule
		want bool
	}{
		{nil, []api.Rule{}, true},
		{nil, []api.Rule{{Low: 5, Top: 9}, {Out: true, Low: 1, Top: 65535}}, true},
		{nil, []api.Rule{{Allow: true, Low: 65535, Top: 65535}}, false},
		{nil, []api.Rule{{Allow: true, Proto: api.TCP, Out: true, Low: 1, Top: 1}}, false},
		{nil, []api.Rule{{Allow: true, Proto: api.UDP, Low: 300, Top: 300}}, false},
		{[]api.Rule{all}, []api.Rule{{Allow: true, Low: 2, Top: 65535}}, false},
		{[]api.Rule{all}, []api.Rule{{Allow: true, Low: 1, Top: 65534}}, false},
		{[]api.Rule{all}, []api.Rule{{Allow: true, Low: 1, Top: 99}, {Allow: true, Low: 100, Top: 65535}}, true},
		{[]api.Rule{all}, []api.Rule{{Allow: true, Low: 1, Top: 99}, {Allow: true, Low: 101, Top: 65535}}, false},
		{[]api.Rule{all}, []api.Rule{{Allow: true, Proto: api.UDP, Low: 1, Top: 65535}, {Allow: true, Proto: api.TCP, Low: 1, Top: 65535}}, true},
		{[]api.Rule{all}, []api.Rule{{Allow: true, Proto: api.UDP, Low: 1, Top: 65535}}, false},
		{[]api.Rule{all}, []api.Rule{{Allow: true, Out: true, Low: 1, Top: 65535}}, false},
		{[]api.Rule{{Low: 7, Top: 7}, all}, []api.Rule{{Allow: true, Low: 1, Top: 6}, {Allow: true, Low: 8, Top: 65535}}, true},
		{[]api.Rule{{Low: 7, Top: 7}, all}, []api.Rule{all, {Low: 7, Top: 7}}, false},
	} {
		for _, pair := range [][2][]api.Rule{{c.a, c.b}, {c.b, c.a}} {
			if is, err := policy.Same(pair[0], pair[1]); is != c.want || err != nil {
				t.Error(pair, is, err)
			}
		}
	}
}

// P22: as every packet says it.
func TestSameAsAllPackets(t *testing.T) {
	r := rand.New(rand.NewSource(2))
	found := [2]int{}
	for i := range 4000 {
		a, b := random(r, r.Intn(4)), random(r, r.Intn(4))
		if i%2 == 0 {
			b = slices.Insert(slices.Clone(a), len(a), random(r, 1)...)
		}
		want := slices.Equal(admits(t, a), admits(t, b))
		if is, err := policy.Same(a, b); is != want || err != nil {
			t.Fatal(a, b, is, err)
		}
		if want {
			found[1]++
		} else {
			found[0]++
		}
	}
	if found[0] < 500 || found[1] < 500 {
		t.Error("too few of a kind:", found)
	}
}

// P22: Check's errors of a, then of b.
func TestSameErrors(t *testing.T) {
	good, bad0, bad1 := []api.Rule{all}, []api.Rule{{}}, []api.Rule{all, {}}
	many := tooMany()[0]
	for _, c := range []struct {
		a, b []api.Rule
		at   int
	}{{bad0, good, 0}, {bad1, good, 1}, {good, bad1, 1}, {bad0, bad1, 0}, {bad1, bad0, 1}, {bad0, many, 0}} {
		if is, err := policy.Same(c.a, c.b); is || !isFault(err, c.at, api.ErrBound) {
			t.Error(is, err)
		}
	}
	for _, c := range [][2][]api.Rule{{many, many}, {many, good}, {good, many}, {many, bad0}} {
		if is, err := policy.Same(c[0], c[1]); is || err != api.ErrBound {
			t.Error(is, err)
		}
	}
}

// P23: a rule behind one that has all that it has makes no difference.
func TestBehindAWiderOne(t *testing.T) {
	r := rand.New(rand.NewSource(3))
	for range 1000 {
		l := random(r, 1+r.Intn(6))
		i := r.Intn(len(l))
		wide := l[i]
		narrow := api.Rule{Allow: r.Intn(2) == 0, Out: wide.Out, Proto: wide.Proto}
		if wide.Proto == 0 {
			narrow.Proto = r.Intn(3)
		}
		narrow.Low = wide.Low + r.Intn(wide.Top-wide.Low+1)
		narrow.Top = narrow.Low + r.Intn(wide.Top-narrow.Low+1)
		longer := slices.Insert(slices.Clone(l), i+1+r.Intn(len(l)-i), narrow)
		if is, err := policy.Same(l, longer); !is || err != nil {
			t.Fatal(l, longer, is, err)
		}
		if !slices.Equal(admits(t, l), admits(t, longer)) {
			t.Fatal(l, longer)
		}
	}
}

// P4: what is handed over is only read, and what is answered is new.
func TestMemory(t *testing.T) {
	l := slices.Clone(right)
	policy.Check(l)
	policy.Text(l)
	policy.Admits(l, dst(api.TCP, 80), true)
	policy.Same(l, l[1:])
	policy.Same(l[:2], l[3:])
	if !slices.Equal(l, right) {
		t.Error(l)
	}
	const text = "allow out any 1-2\n"
	first, _ := policy.Read(text)
	first[0] = api.Rule{}
	if second, err := policy.Read(text); err != nil || second[0] == first[0] {
		t.Error(second, err)
	}
}
