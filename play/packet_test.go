package play

import (
	"math"
	"slices"
	"testing"

	"twinrampart/api"
	"twinrampart/packet"
)

// text of a packet; the packets stand here, inside the package, because a world shows little of one that it refuses.
func text(t *testing.T, p api.Packet) string {
	t.Helper()
	s, err := packet.Text(p)
	if err != nil {
		t.Fatal(p, err)
	}
	return s
}

// P110: the packets from inside, by q.
func TestFromInside(t *testing.T) {
	for _, c := range []struct {
		q    int
		want string
	}{
		{0, "udp 10:100 77:80"},
		{1, "tcp 10:100 77:80 syn"},
		{2, "udp 11:100 77:80"},
		{3, "tcp 11:100 77:80 syn"},
		{4, "udp 12:100 77:80"},
		{5, "tcp 12:100 77:80 syn"},
		{6, "udp 10:100 77:81"},
		{7, "tcp 10:100 77:81 syn"},
		{11, "tcp 12:100 77:81 syn"},
		{12, "udp 10:100 77:80"},
		{13, "tcp 10:100 77:80 ack"},
		{23, "tcp 12:100 77:81 ack"},
		{24, "udp 10:100 77:80"},
		{25, "tcp 10:100 77:80 ack+fin"},
		{33, "tcp 11:100 77:81 ack+fin"},
		{37, "tcp 10:100 77:80 rst"},
		{47, "tcp 12:100 77:81 rst"},
		{48, "udp 10:100 77:80"},
		{49, "tcp 10:100 77:80 syn"},
		{48*1000 + 33, "tcp 11:100 77:81 ack+fin"},
	} {
		if got := text(t, fromInside(c.q)); got != c.want {
			t.Errorf("%d: %s, not %s", c.q, got, c.want)
		}
	}
}

// P110: the packets from outside, by q.
func TestFromOutside(t *testing.T) {
	for _, c := range []struct {
		q    int
		want string
	}{
		{0, "udp 77:80 1:2000"},
		{1, "tcp 77:80 1:2000 syn+ack"},
		{2, "udp 77:81 1:2000"},
		{3, "tcp 77:81 1:2000 syn+ack"},
		{4, "udp 77:80 1:2001"},
		{5, "tcp 77:80 1:2001 ack"},
		{7, "tcp 77:81 1:2001 ack"},
		{9, "tcp 77:80 1:2002 ack+fin"},
		{13, "tcp 77:80 1:2003 rst"},
		{17, "tcp 77:80 1:2004 syn+ack"},
		{4 * 23, "udp 77:80 1:2023"},
		{4 * 24, "udp 77:80 1:2024"},
		{4*47 + 3, "tcp 77:81 1:2047 rst"},
		{4 * 48, "udp 77:80 1:2000"},
		{4*48*100 + 4*25 + 1, "tcp 77:80 1:2025 ack"},
	} {
		if got := text(t, fromOutside(c.q)); got != c.want {
			t.Errorf("%d: %s, not %s", c.q, got, c.want)
		}
	}
}

// P110: of any q a packet that is one.
func TestPacketsAreSome(t *testing.T) {
	numbers := []int{math.MaxInt / 16, math.MaxInt/16 - 1}
	for q := range 2000 {
		numbers = append(numbers, q)
	}
	var inside, outside []string
	for _, q := range numbers {
		inside = append(inside, text(t, fromInside(q)))
		outside = append(outside, text(t, fromOutside(q)))
	}
	for _, c := range []struct {
		of   []string
		many int
	}{{inside, 3*2 + 3*2*4}, {outside, 2*48 + 2*48}} {
		slices.Sort(c.of)
		if got := len(slices.Compact(c.of)); got != c.many {
			t.Errorf("%d packets, not %d", got, c.many)
		}
	}
}
