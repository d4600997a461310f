package side_test

import (
	"errors"
	"fmt"
	"math"
	"math/rand"
	"reflect"
	"slices"
	"strings"
	"testing"
	"testing/synctest"

	"twinrampart/api"
	"twinrampart/play"
	"twinrampart/policy"
	"twinrampart/side"
	"twinrampart/world"
)

func out() []api.Rule { return []api.Rule{{Allow: true, Out: true, Low: 1, Top: 1000}} }

// scripts of all lengths, some of them none, some alike.
func scripts(many int) [][]int {
	r := rand.New(rand.NewSource(12))
	l := make([][]int, many)
	for i := range l {
		script := make([]int, r.Intn(200))
		for j := range script {
			script[j] = r.Intn(16*200) - 20
		}
		l[i] = append([]int{7, 0, 8, 16 + 7}, script...)
		switch i % 10 {
		case 3:
			l[i] = nil
		case 5:
			l[i] = slices.Clone(l[i-1])
		}
	}
	return l
}

// oneByOne: what the chapter says of each script, without this package.
func oneByOne(t *testing.T, rules []api.Rule, scripts [][]int) []side.Told {
	t.Helper()
	l := []side.Told{}
	for _, script := range scripts {
		w, err := world.New(rules)
		if err != nil {
			t.Fatal(err)
		}
		answers := play.Run(w, script)
		l = append(l, side.Told{Answers: answers, Events: w.Events()})
	}
	return l
}

// shown: a list that is nil, and one that is empty, are one thing.
func shown(l []side.Told) string { return fmt.Sprint(l) }

// bare errors are no faults.
func bare(t *testing.T, what string, got, want error) {
	t.Helper()
	if got != want {
		t.Errorf("%s: %v, not %v, bare", what, got, want)
	}
}

func fault(t *testing.T, what string, got error, at int, want error) {
	t.Helper()
	var f *api.Fault
	if !errors.As(got, &f) || f.At != at || f.Err != want {
		t.Errorf("%s: %#v, not %v at %d", what, got, want, at)
	}
}

// P120, P121: a play of each script, in a world of its own, by however many.
func TestPlays(t *testing.T) {
	for _, rules := range [][]api.Rule{out(), nil} {
		for _, many := range []int{0, 1, 2, 15, 16, 17, 100} {
			l := scripts(many)
			want := oneByOne(t, rules, l)
			for workers := 1; workers <= api.Workers; workers++ {
				got, err := side.Plays(rules, l, workers)
				if err != nil || len(got) != many || shown(got) != shown(want) {
					t.Fatalf("%d by %d: %v, %v, not %v", many, workers, got, err, want)
				}
			}
		}
	}
}

// P120: answers and events that are worked out by hand.
func TestToldByHand(t *testing.T) {
	got, err := side.Plays(out(), [][]int{{8, 7, 0, 8, 16 + 7}, {16 + 7, -1}, {}, {12, 12}, {16 + 7, -1}}, 3)
	want := []side.Told{
		{[]int{4, 0, 0, 0, 0}, []world.Event{{Node: 0, Epoch: 2}, {Node: 1, Epoch: 1}}},
		{[]int{0, -1}, []world.Event{{Node: 1, Epoch: 1}}},
		{},
		{[]int{0, 7}, nil},
		{[]int{0, -1}, []world.Event{{Node: 1, Epoch: 1}}},
	}
	if err != nil || shown(got) != shown(want) {
		t.Errorf("%v, %v, not %v", got, err, want)
	}
	denied, err := side.Plays(nil, [][]int{{7, 0, 8}}, 1)
	if err != nil || shown(denied) != "[{[0 0 8] [{0 2}]}]" {
		t.Error("without rules", denied, err)
	}
}

// P120: a long script is play.Run's to bound, no error.
func TestLongScripts(t *testing.T) {
	l := [][]int{make([]int, api.MaxSteps), slices.Repeat([]int{5, 21, 0}, api.MaxSteps), nil}
	want := oneByOne(t, out(), l)
	for _, workers := range []int{1, 2, api.Workers} {
		got, err := side.Plays(out(), l, workers)
		if err != nil || shown(got) != shown(want) {
			t.Error(workers, err)
		}
	}
}

// P120, P3: of Plays: the errors, in their order, with nothing beside them.
func TestPlaysErrors(t *testing.T) {
	few, many := scripts(3), make([][]int, 101)
	long := slices.Repeat(out(), api.MaxRules+1)
	wrong := append(out(), out()[0], api.Rule{Low: 2, Top: 1})
	for _, workers := range []int{0, -1, api.Workers + 1, math.MinInt, math.MaxInt} {
		for _, rules := range [][]api.Rule{nil, out(), long, wrong} {
			for _, l := range [][][]int{nil, few, many} {
				got, err := side.Plays(rules, l, workers)
				bare(t, "workers", err, api.ErrShape)
				if len(got) != 0 {
					t.Error(got)
				}
			}
		}
	}
	for workers := 1; workers <= api.Workers; workers++ {
		for _, rules := range [][]api.Rule{nil, out(), long, wrong} {
			got, err := side.Plays(rules, many, workers)
			bare(t, "scripts", err, api.ErrBound)
			if len(got) != 0 {
				t.Error(got)
			}
		}
		for _, l := range [][][]int{nil, {}, few, many[:100]} {
			a, tooMany := side.Plays(long, l, workers)
			b, none := side.Plays(wrong, l, workers)
			bare(t, "rules", tooMany, api.ErrBound)
			fault(t, "rule", none, 2, api.ErrBound)
			if len(a) != 0 || len(b) != 0 {
				t.Error(a, b)
			}
		}
	}
}

// P3, P4: what is handed to Plays is only read, not behind its length, and not kept; what is answered is new.
func TestPlaysMemory(t *testing.T) {
	rules := append(out(), api.Rule{})
	l := append(scripts(20), []int{-1})
	got, err := side.Plays(rules[:1], l[:20], 4)
	other, err2 := side.Plays(rules[:1], l[:20], 4)
	if err != nil || err2 != nil || len(got) != 20 || len(other) != 20 {
		t.Fatal(err, err2)
	}
	if !slices.Equal(rules, append(out(), api.Rule{})) || !reflect.DeepEqual(l, append(scripts(20), []int{-1})) {
		t.Error("changed", rules, l)
	}
	clear(rules)
	for i := range l {
		clear(l[i])
	}
	want := oneByOne(t, out(), scripts(20))
	for i := range got {
		if shown(got[i:]) != shown(want[i:]) {
			t.Fatal("shared or kept", i)
		}
		clear(got[i].Answers[:cap(got[i].Answers)])
		clear(got[i].Events[:cap(got[i].Events)])
	}
	if shown(other) != shown(want) {
		t.Error("shared by two calls")
	}
}

// texts of policies, the i-th of i % 5 rules.
func texts(t *testing.T, many int) []string {
	t.Helper()
	l := make([]string, many)
	for i := range l {
		var rules []api.Rule
		for k := range i % 5 {
			rules = append(rules, api.Rule{Allow: k%2 == 0, Out: i%2 == 0, Proto: i % 3, Low: i + 1, Top: i + k + 1})
		}
		s, err := policy.Text(rules)
		if err != nil {
			t.Fatal(err)
		}
		if i%7 == 0 {
			s = strings.TrimSuffix(s, "\n")
		}
		l[i] = s
	}
	return l
}

// read one by one.
func read(t *testing.T, l []string) [][]api.Rule {
	t.Helper()
	all := [][]api.Rule{}
	for _, s := range l {
		rules, err := policy.Read(s)
		if err != nil {
			t.Fatal(err)
		}
		all = append(all, rules)
	}
	return all
}

// P120, P121: policy.Read of each, by however many.
func TestReads(t *testing.T) {
	for _, many := range []int{0, 1, 2, 15, 16, 17, 100} {
		l := texts(t, many)
		want := fmt.Sprint(read(t, l))
		for workers := 1; workers <= api.Workers; workers++ {
			got, err := side.Reads(l, workers)
			if err != nil || len(got) != many || fmt.Sprint(got) != want {
				t.Fatalf("%d by %d: %v, %v", many, workers, got, err)
			}
		}
	}
	got, err := side.Reads([]string{"deny in udp 7-9\n", "", "deny in udp 7-9"}, 2)
	if err != nil || fmt.Sprint(got) != "[[{false false 1 7 9}] [] [{false false 1 7 9}]]" {
		t.Error(got, err)
	}
}

// P120: of Reads: ErrShape, then ErrBound, then what is wrong in a text.
func TestReadsErrors(t *testing.T) {
	for _, workers := range []int{0, -1, api.Workers + 1, math.MinInt, math.MaxInt} {
		for _, l := range [][]string{nil, {"what"}, make([]string, 101)} {
			got, err := side.Reads(l, workers)
			bare(t, "workers", err, api.ErrShape)
			if len(got) != 0 {
				t.Error(got)
			}
		}
	}
	for workers := 1; workers <= api.Workers; workers++ {
		for _, l := range [][]string{make([]string, 101), slices.Repeat([]string{"what"}, 101), make([]string, 5000)} {
			got, err := side.Reads(l, workers)
			bare(t, "texts", err, api.ErrBound)
			if len(got) != 0 {
				t.Error(got)
			}
		}
	}
}

// P120, P121: a fault is At the first text that has an error, not where that text has it, nor whose worker was first; it has the error alone.
func TestReadsFaults(t *testing.T) {
	line := "allow out any 1-1000\n"
	long := strings.Repeat(line, api.MaxRules)
	for _, c := range []struct {
		text string
		want error
	}{
		{"what", api.ErrText},
		{"\n", api.ErrText},
		{line + line + "what", api.ErrText},
		{long + strings.Repeat(line, 100) + "what\n", api.ErrText},
		{strings.Repeat("a", api.MaxText+1), api.ErrBound},
		{strings.Repeat("a", api.MaxText), api.ErrText},
		{long + line, api.ErrBound},
		{line + "allow out any 0-1", api.ErrBound},
		{line + line + line + "allow out udp 9-8\n" + line, api.ErrBound},
	} {
		for _, at := range []int{0, 1, 50, 99} {
			l := slices.Repeat([]string{long}, 100)
			l[at] = c.text
			for i := at + 1; i < len(l); i++ { // others, which are refused sooner
				l[i] = []string{"x", strings.Repeat("x", api.MaxText+1), "allow out any 0-0"}[i%3]
			}
			for workers := 1; workers <= api.Workers; workers++ {
				got, err := side.Reads(l, workers)
				fault(t, fmt.Sprintf("%.20q by %d", c.text, workers), err, at, c.want)
				if len(got) != 0 {
					t.Error(got)
				}
			}
		}
	}
}

// P3, P4: what is handed to Reads is only read, not behind its length, and not kept; what is answered is new.
func TestReadsMemory(t *testing.T) {
	l := append(slices.Repeat([]string{"allow out any 1-1000\ndeny in tcp 5-6"}, 10), "what")
	was := slices.Clone(l)
	got, err := side.Reads(l[:10], 3)
	if err != nil || len(got) != 10 || !slices.Equal(l, was) {
		t.Fatal(got, err, l)
	}
	clear(l)
	want := fmt.Sprint(read(t, was[:1])[0])
	for i := range got {
		if fmt.Sprint(got[i]) != want {
			t.Error("shared", i, got[i])
		}
		clear(got[i][:cap(got[i])])
	}
}

// P1, P2: no call leaves somebody waiting for ever: a bubble that has one left over ends with a panic.
func TestNobodyIsLeft(t *testing.T) {
	for workers := -1; workers <= api.Workers+1; workers++ {
		synctest.Test(t, func(t *testing.T) {
			side.Plays(out(), scripts(20), workers)
			side.Plays(out(), nil, workers)
			side.Plays([]api.Rule{{}}, scripts(20), workers)
			side.Reads([]string{"what", "", "what", "", "what"}, workers)
			side.Reads(nil, workers)
		})
	}
}

// P121: calls that run side by side, on the same lists, answer the same.
func TestCallsSideBySide(t *testing.T) {
	rules, l, s := out(), scripts(30), texts(t, 30)
	plays, reads := shown(oneByOne(t, rules, l)), fmt.Sprint(read(t, s))
	for workers := 1; workers <= api.Workers; workers++ {
		t.Run("", func(t *testing.T) {
			t.Parallel()
			a, err := side.Plays(rules, l, workers)
			if err != nil || shown(a) != plays {
				t.Error(workers, err)
			}
			b, err := side.Reads(s, workers)
			if err != nil || fmt.Sprint(b) != reads {
				t.Error(workers, err)
			}
		})
	}
}
