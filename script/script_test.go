package script_test

import (
	"errors"
	"fmt"
	"slices"
	"strings"
	"sync"
	"testing"

	"twinrampart/api"
	"twinrampart/policy"
	"twinrampart/script"
)

const out = "allow out any 1-1000\n"

// Answers of errors.
const (
	text  = "twinrampart: text"
	none  = "twinrampart: none"
	full  = "twinrampart: full"
	off   = "twinrampart: off"
	deny  = "twinrampart: deny"
	state = "twinrampart: state"
	shape = "twinrampart: shape"
	held  = "twinrampart: held"
)

// said: a line, and what is answered.
type said [2]string

// plays lines that stand ahead of their answers.
func plays(t *testing.T, rules string, l ...said) {
	t.Helper()
	var lines []string
	for _, s := range l {
		lines = append(lines, s[0])
	}
	got, err := script.Run(rules, lines)
	if err != nil || len(got) != len(l) {
		t.Fatalf("%q, %v", got, err)
	}
	for i, s := range l {
		if got[i] != s[1] {
			t.Errorf("%d, %q: %q, not %q", i, s[0], got[i], s[1])
		}
	}
}

// P130: a world that has just begun.
func TestNewWorld(t *testing.T) {
	plays(t, "",
		said{"fly", "0"}, said{"all", "0"}, said{"switch", "nothing"}, said{"events", "nothing"},
		said{"active 0", "no"}, said{"active 1", "no"}, said{"epoch 0", "0"}, said{"epoch 1", "0"}, said{"life 0", "1"}, said{"life 1", "1"},
		said{"flows 0", "0"}, said{"flows 1", "0"}, said{"mirror 0", "0"}, said{"mirror 1", "0"},
		said{"go 0", none}, said{"lose 0", none}, said{"twice 0", none}, said{"up 0", held}, said{"up 1", held},
		said{"inside udp 5:7 9:80", none}, said{"outside udp 9:80 1:2000", none})
}

// P130: N ticks, no more and no less: a standby claims at its tenth.
func TestTicks(t *testing.T) {
	plays(t, out,
		said{"tick 0 0", "ok"}, said{"tick 0 9", "ok"}, said{"active 0", "no"}, said{"fly", "0"},
		said{"tick 0 1", "ok"}, said{"active 0", "yes"}, said{"epoch 0", "2"}, said{"fly", "1"},
		said{"tick 1 10", "ok"}, said{"active 1", "yes"}, said{"epoch 1", "1"}, said{"fly", "2"},
		said{"events", "0 2, 1 1"}, said{"switch", "nothing"},
		said{"tick 0 1", "ok"}, said{"fly", "2"}, said{"tick 0 1", "ok"}, said{"fly", "4"},
		said{"go 1", "ok"}, said{"switch", "1 1"}, said{"go 0", "ok"}, said{"switch", "0 2"}, said{"fly", "2"})
}

// P130: ticks go on until one has an error, which is the answer.
func TestTicksUntilError(t *testing.T) {
	plays(t, out,
		said{"cut 0 0", "ok"}, said{"tick 0 9", "ok"}, said{"active 0", "no"},
		said{"tick 0 99999", off}, said{"active 0", "down"}, said{"tick 0 1", off}, said{"tick 0 0", "ok"},
		said{"events", "nothing"}, said{"fly", "0"},
		said{"up 0", "ok"}, said{"life 0", "2"}, said{"epoch 0", "0"}, said{"tick 0 10", "ok"}, said{"events", "0 2"},
		said{"cut 1 3", "ok"}, said{"tick 1 10", off}, said{"cut 1 99999", off}, said{"up 1", "ok"}, said{"life 1", "2"},
		said{"cut 1 99999", "ok"}, said{"tick 1 10", "ok"}, said{"events", "0 2, 1 1"})
}

// P130: what is asked of a node that is down.
func TestDown(t *testing.T) {
	plays(t, out,
		said{"tick 1 10", "ok"}, said{"all", "1"}, said{"down 1", "ok"}, said{"active 1", "down"}, said{"active 0", "no"},
		said{"epoch 1", off}, said{"life 1", off}, said{"flows 1", off}, said{"mirror 1", off}, said{"tick 1 1", off}, said{"cut 1 0", off}, said{"down 1", off},
		said{"switch", "1 1"}, said{"inside udp 5:7 9:80", off}, said{"outside udp 9:80 1:2024", off},
		said{"up 1", "ok"}, said{"active 1", "no"}, said{"epoch 1", "1"}, said{"life 1", "2"}, said{"up 1", held},
		said{"inside udp 5:7 9:80", state}, said{"tick 1 10", "ok"}, said{"inside udp 5:7 9:80", "udp 1:2024 9:80"},
		said{"switch", "1 1"}, said{"all", "1"}, said{"switch", "1 3"}, said{"events", "1 1, 1 3"})
}

// P130, P131: packets, both ways, and what is refused of them.
func TestPackets(t *testing.T) {
	plays(t, "deny out udp 53-53\nallow out any 1-1000\n",
		said{"tick 0 10", "ok"}, said{"all", "1"},
		said{"inside udp 5:7 9:80", "udp 1:2000 9:80"}, said{"inside tcp 5:7 9:80 syn", "tcp 1:2000 9:80 syn"}, said{"inside udp 6:7 9:80", "udp 1:2001 9:80"},
		said{"flows 0", "3"}, said{"flows 1", "0"},
		said{"inside udp 5:7 9:53", deny}, said{"inside tcp 5:7 9:53 syn", "tcp 1:2000 9:53 syn"}, said{"inside tcp 5:7 9:1001 syn", deny}, said{"inside tcp 5:9 9:80 -", state},
		said{"outside udp 9:80 1:2001", "udp 9:80 6:7"}, said{"outside tcp 9:80 1:2000 syn+ack", "tcp 9:80 5:7 syn+ack"},
		said{"outside udp 9:80 2:2001", shape}, said{"outside udp 9:80 1:2002", none}, said{"outside udp 8:80 1:2001", none},
		said{"inside tcp 5:7 9:80 ack+rst", "tcp 1:2000 9:80 ack+rst"}, said{"flows 0", "3"}, said{"outside tcp 9:80 1:2000 -", none},
		said{"inside udp 0:1 1048576:1000", "udp 1:2000 1048576:1000"}, said{"outside udp 1048576:1000 1:2000", "udp 1048576:1000 0:1"},
		said{"inside udp 0:1 1048577:1000", text}, said{"inside udp 0:0 9:80", text}, said{"inside udp 0:1 9:65536", text}, said{"outside udp 0:1 1:2000 -", text}, said{"inside tcp 5:7 9:80 ack+syn", text},
		said{"inside", text}, said{"inside ", text}, said{"inside  udp 5:7 9:80", text}, said{"inside udp 5:7  9:80", text}, said{"inside udp 5:7 9:80 ", text}, said{"outside", text}, said{"outside udp", text})
}

// P130, P131: where all ports of a node are given out.
func TestPortsFull(t *testing.T) {
	l := []said{{"tick 1 10", "ok"}, {"all", "1"}}
	for i := range api.Half {
		l = append(l, said{fmt.Sprintf("inside udp %d:7 9:80", i), fmt.Sprintf("udp 1:%d 9:80", api.FirstPort+api.Half+i)})
	}
	l = append(l, said{"inside udp 77:7 9:80", full}, said{"flows 1", "24"}, said{"tick 1 59", "ok"}, said{"flows 1", "24"}, said{"tick 1 1", "ok"}, said{"flows 1", "0"}, said{"flows 0", "0"})
	plays(t, out, l...)
}

// P130: notes are delivered, lost and doubled by their numbers.
func TestNotes(t *testing.T) {
	plays(t, out,
		said{"tick 0 10", "ok"}, said{"all", "1"}, said{"inside udp 5:7 9:80", "udp 1:2000 9:80"}, said{"inside udp 6:7 9:80", "udp 1:2001 9:80"},
		said{"tick 0 2", "ok"}, said{"fly", "2"}, said{"go 2", none}, said{"lose 2", none}, said{"twice 2", none}, said{"go 99999", none}, said{"fly", "2"},
		said{"twice 1", "ok"}, said{"fly", "3"}, said{"lose 0", "ok"}, said{"fly", "2"}, said{"mirror 1", "0"},
		said{"lose 1", "ok"}, said{"mirror 1", "0"}, said{"go 0", "ok"}, said{"mirror 1", "2"}, said{"mirror 0", "0"}, said{"epoch 1", "2"}, said{"flows 1", "0"}, said{"fly", "0"},
		said{"down 0", "ok"}, said{"tick 1 10", "ok"}, said{"flows 1", "2"}, said{"mirror 1", "2"}, said{"outside udp 9:80 1:2001", off},
		said{"twice 0", "ok"}, said{"all", "2"}, said{"switch", "1 3"}, said{"outside udp 9:80 1:2001", "udp 9:80 6:7"})
}

// P130: no more than MaxFlying fly, and all of them are delivered.
func TestAll(t *testing.T) {
	plays(t, out,
		said{"tick 0 99999", "ok"}, said{"fly", "200"}, said{"twice 0", full}, said{"twice 200", none}, said{"go 199", "ok"}, said{"fly", "199"},
		said{"twice 198", "ok"}, said{"fly", "200"}, said{"all", "200"}, said{"fly", "0"}, said{"all", "0"}, said{"switch", "0 2"}, said{"epoch 1", "2"})
}

// right lines, one of each command.
func right() []string {
	return []string{
		"tick 0 3", "cut 0 3", "go 0", "lose 0", "twice 0", "down 0", "up 0", "inside udp 5:7 9:8", "outside udp 9:8 1:2",
		"all", "fly", "active 0", "switch", "flows 0", "mirror 0", "epoch 0", "life 0", "events",
	}
}

// answer of one line, in a world that has just begun.
func answer(t *testing.T, line string) string {
	t.Helper()
	l, err := script.Run(out, []string{line})
	if err != nil || len(l) != 1 {
		t.Fatalf("%q: %q, %v", line, l, err)
	}
	return l[0]
}

// P131: a line that is none, however near it is to one.
func TestNoCommand(t *testing.T) {
	for _, line := range right() {
		if got := answer(t, line); got == text {
			t.Errorf("%q: %q", line, got)
		}
		name, rest, more := strings.Cut(line, " ")
		wrong := []string{
			" " + line, line + " ", line + "  ", line + " 0", line + " x", line + "\n", line + "\r", line + "\t", line + "\x00", line + "\xff", line + line,
			strings.ToUpper(line), line[1:], "x" + line, name + "s " + rest, line[:len(line)-1],
		}
		if more {
			wrong = append(wrong, name, name+" ", name+"  "+rest, name+"\t"+rest, rest, name+" "+line, line[:len(line)-1]+"x", line+"x")
		}
		for _, w := range wrong {
			if got := answer(t, w); got != text {
				t.Errorf("%q: %q", w, got)
			}
		}
	}
	for _, line := range []string{"", " ", "  ", "\n", "what", "rules", "node 0", "deliver 0", "drop 0", "flying", "nothing", "ok", "text", "0", "tick0 1", strings.Repeat(" ", 1<<16), strings.Repeat("tick ", 1<<12)} {
		if got := answer(t, line); got != text {
			t.Errorf("%q: %q", line, got)
		}
	}
}

// P130: which words are numbers, and which are nodes.
func TestWords(t *testing.T) {
	for _, line := range []string{"go ", "lose ", "twice ", "cut 0 ", "cut 1 ", "tick 1 "} {
		for _, n := range []string{"0", "1", "9", "10", "99", "10000", "99999"} {
			if got := answer(t, line+n); got == text {
				t.Errorf("%q: %q", line+n, got)
			}
		}
		for _, n := range []string{"", "00", "01", "00001", "000", "100000", "012345", "-1", "-0", "+1", "1.0", "1e3", "0x1", "1_0", "a", "١", "18446744073709551616"} {
			if got := answer(t, line+n); got != text {
				t.Errorf("%q: %q", line+n, got)
			}
		}
	}
	for _, name := range []string{"down", "up", "active", "flows", "mirror", "epoch", "life", "tick", "cut"} {
		more := ""
		if name == "tick" || name == "cut" {
			more = " 5"
		}
		for _, n := range []string{"0", "1"} {
			if got := answer(t, name+" "+n+more); got == text {
				t.Errorf("%q: %q", name+" "+n, got)
			}
		}
		for _, n := range []string{"", "2", "10", "00", "01", "-1", "-0", "+1", "a", "99999"} {
			if got := answer(t, name+" "+n+more); got != text {
				t.Errorf("%q: %q", name+" "+n, got)
			}
		}
	}
}

// P131: a line that is none changes nothing.
func TestNoCommandNoChange(t *testing.T) {
	plays(t, out,
		said{"tick 0 9", "ok"}, said{"tick 0 01", text}, said{"tick 0 1 ", text}, said{"tick 0 1 1", text}, said{"active 0", "no"}, said{"tick 0 1", "ok"},
		said{"go 0 ", text}, said{"lose 00", text}, said{"all 0", text}, said{"twice 0 0", text}, said{"fly", "1"}, said{"down 0 ", text}, said{"down  0", text}, said{"active 0", "yes"})
}

// refused: the error, and nothing beside it.
func refused(t *testing.T, rules string, many int) error {
	t.Helper()
	l, err := script.Run(rules, slices.Repeat([]string{"fly"}, many))
	if err == nil || len(l) != 0 {
		t.Errorf("%q, %v", l, err)
	}
	return err
}

// P130, P3: ErrBound of lines ahead of all, then policy.Read's errors, as they are.
func TestRefused(t *testing.T) {
	long := strings.Repeat("x", api.MaxText+1)
	wrong := []string{"what", out + "what", "\n", out + "\n", "allow out any 1-65536\n", out + "allow out any 0-5\n", strings.Repeat(out, api.MaxRules+1), long}
	for _, rules := range wrong {
		_, want := policy.Read(rules)
		var f, g *api.Fault
		isFault := errors.As(want, &f)
		for _, many := range []int{0, 1, api.MaxLines} {
			err := refused(t, rules, many)
			if isFault && (!errors.As(err, &g) || *f != *g) || !isFault && err != want {
				t.Errorf("%q: %#v, not %#v", rules, err, want)
			}
		}
	}
	for _, rules := range append(wrong, out, "") {
		for _, many := range []int{api.MaxLines + 1, 5 * api.MaxLines} {
			if err := refused(t, rules, many); err != api.ErrBound {
				t.Errorf("%q, %d lines: %v", rules, many, err)
			}
		}
	}
}

// P130: as many lines as the bound, and none at all.
func TestHowManyLines(t *testing.T) {
	got, err := script.Run(out, slices.Repeat([]string{"fly"}, api.MaxLines))
	if err != nil || !slices.Equal(got, slices.Repeat([]string{"0"}, api.MaxLines)) {
		t.Errorf("%q, %v", got, err)
	}
	for _, l := range [][]string{nil, {}} {
		if got, err := script.Run(out, l); err != nil || len(got) != 0 {
			t.Errorf("%q, %v", got, err)
		}
	}
	plays(t, strings.TrimSuffix(out, "\n"), said{"tick 0 10", "ok"}, said{"all", "1"}, said{"inside udp 5:7 9:80", "udp 1:2000 9:80"})
}

// P132: the same lines make the same answers, whoever plays beside them; and nobody's lines are changed (P4).
func TestSameAnswers(t *testing.T) {
	lines := scripts(1)[0]
	was := slices.Clone(lines)
	want, err := script.Run(out, lines)
	if err != nil {
		t.Fatal(err)
	}
	var group sync.WaitGroup
	for range 8 {
		group.Go(func() {
			for range 20 {
				if got, err := script.Run(out, lines); err != nil || !slices.Equal(got, want) {
					t.Errorf("%q, %v, not %q", got, err, want)
				}
			}
		})
	}
	group.Wait()
	if !slices.Equal(lines, was) {
		t.Errorf("%q", lines)
	}
}
