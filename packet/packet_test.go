package packet_test

import (
	"math"
	"strings"
	"testing"

	"twinrampart/api"
	"twinrampart/packet"
)

var (
	here  = api.End{Addr: 258, Port: 80}
	there = api.End{Addr: api.MaxAddr, Port: api.MaxPort}
)

func udp(src, dst api.End) api.Packet {
	return api.Packet{Proto: api.UDP, Src: src, Dst: dst}
}

func tcp(src, dst api.End, flags int) api.Packet {
	return api.Packet{Proto: api.TCP, Src: src, Dst: dst, Flags: flags}
}

// good packets: all flags, and ends at and beside their bounds.
func good() []api.Packet {
	var list []api.Packet
	var ends []api.End
	for _, addr := range []int{0, 1, 255, 256, 65535, 65536, 1<<20 - 1, api.MaxAddr} {
		for _, port := range []int{1, 2, 255, 256, 65534, api.MaxPort} {
			ends = append(ends, api.End{Addr: addr, Port: port})
		}
	}
	for i, src := range ends {
		for j, dst := range ends {
			list = append(list, udp(src, dst), tcp(src, dst, (i+j)%16))
		}
	}
	for flags := range 16 {
		list = append(list, tcp(here, there, flags))
	}
	return list
}

// bad packets, each with what Check must answer.
func bad() map[api.Packet]error {
	wrong := map[api.Packet]error{}
	for _, proto := range []int{0, -1, 3, 4, 256 + api.UDP, 256 + api.TCP, math.MinInt, math.MaxInt} {
		wrong[api.Packet{Proto: proto, Src: here, Dst: there}] = api.ErrBound
	}
	for _, addr := range []int{-1, api.MaxAddr + 1, 1 << 32, math.MinInt, math.MaxInt} {
		e := api.End{Addr: addr, Port: 80}
		wrong[udp(e, there)] = api.ErrBound
		wrong[udp(there, e)] = api.ErrBound
		wrong[tcp(e, there, api.SYN)] = api.ErrBound
		wrong[tcp(there, e, api.SYN)] = api.ErrBound
	}
	for _, port := range []int{0, -1, api.MaxPort + 1, api.MaxPort + 2, math.MinInt, math.MaxInt} {
		e := api.End{Addr: 5, Port: port}
		wrong[udp(e, there)] = api.ErrBound
		wrong[udp(there, e)] = api.ErrBound
		wrong[tcp(e, there, 0)] = api.ErrBound
		wrong[tcp(there, e, 0)] = api.ErrBound
	}
	for _, flags := range []int{-1, 16, 17, 256, math.MinInt, math.MaxInt} {
		wrong[tcp(here, there, flags)] = api.ErrBound
		// Both are so: the bound is named first.
		wrong[api.Packet{Proto: api.UDP, Src: here, Dst: there, Flags: flags}] = api.ErrBound
	}
	for flags := 1; flags < 16; flags++ {
		wrong[api.Packet{Proto: api.UDP, Src: here, Dst: there, Flags: flags}] = api.ErrShape
		wrong[api.Packet{Proto: api.UDP, Src: here, Dst: api.End{}, Flags: flags}] = api.ErrBound
	}
	wrong[api.Packet{}] = api.ErrBound
	return wrong
}

// P10, and P3: errors are bare.
func TestCheck(t *testing.T) {
	for _, p := range good() {
		if err := packet.Check(p); err != nil {
			t.Errorf("%+v: %v", p, err)
		}
	}
	for p, want := range bad() {
		if err := packet.Check(p); err != want {
			t.Errorf("%+v: %v, not %v", p, err, want)
		}
	}
}

// P11 and P12: Check's errors, with an empty text (P3).
func TestWritesNothingBad(t *testing.T) {
	for p, want := range bad() {
		if s, err := packet.Encode(p); s != "" || err != want {
			t.Errorf("Encode %+v: %q, %v, not %v", p, s, err, want)
		}
		if s, err := packet.Text(p); s != "" || err != want {
			t.Errorf("Text %+v: %q, %v, not %v", p, s, err, want)
		}
	}
}

// P11: each byte in its place, the highest first.
func TestBytes(t *testing.T) {
	for s, p := range map[string]api.Packet{
		"\x01\x00\x00\x01\x02\x00\x50\x00\x10\x00\x00\xff\xff\x00": udp(here, there),
		"\x02\x00\x10\x00\x00\xff\xff\x00\x00\x01\x02\x00\x50\x09": tcp(there, here, api.SYN|api.RST),
		"\x02\x00\x00\x00\x00\x00\x01\x00\x00\x00\x00\x01\x00\x0f": tcp(api.End{Addr: 0, Port: 1}, api.End{Addr: 0, Port: 256}, 15),
		"\x02\x00\x0a\xbc\xde\x12\x34\x00\x05\x43\x21\xfe\xdc\x02": tcp(api.End{Addr: 0xabcde, Port: 0x1234}, api.End{Addr: 0x54321, Port: 0xfedc}, api.ACK),
	} {
		if got, err := packet.Encode(p); got != s || err != nil {
			t.Errorf("Encode %+v: %q, %v", p, got, err)
		}
		if got, err := packet.Decode(s); got != p || err != nil {
			t.Errorf("Decode %q: %+v, %v", s, got, err)
		}
	}
}

// P11: another length is ErrText, whatever the bytes are.
func TestDecodeLength(t *testing.T) {
	whole, _ := packet.Encode(tcp(here, there, api.SYN))
	long := strings.Repeat(whole, 3)
	for n := range len(long) + 1 {
		if n == 14 {
			continue
		}
		if p, err := packet.Decode(long[:n]); p != (api.Packet{}) || err != api.ErrText {
			t.Errorf("%d bytes: %+v, %v", n, p, err)
		}
	}
}

// P11: Check's errors of what the bytes say.
func TestDecodeBad(t *testing.T) {
	for s, want := range map[string]error{
		strings.Repeat("\x00", 14):                                 api.ErrBound,
		strings.Repeat("\xff", 14):                                 api.ErrBound,
		"\x03\x00\x00\x01\x02\x00\x50\x00\x10\x00\x00\xff\xff\x00": api.ErrBound,
		"\x01\x00\x10\x00\x01\x00\x50\x00\x10\x00\x00\xff\xff\x00": api.ErrBound,
		"\x01\xff\xff\xff\xff\x00\x50\x00\x10\x00\x00\xff\xff\x00": api.ErrBound,
		"\x01\x00\x00\x01\x02\x00\x00\x00\x10\x00\x00\xff\xff\x00": api.ErrBound,
		"\x01\x00\x00\x01\x02\x00\x50\x00\x10\x00\x01\xff\xff\x00": api.ErrBound,
		"\x01\x00\x00\x01\x02\x00\x50\x00\x10\x00\x00\x00\x00\x00": api.ErrBound,
		"\x02\x00\x00\x01\x02\x00\x50\x00\x10\x00\x00\xff\xff\x10": api.ErrBound,
		"\x01\x00\x00\x01\x02\x00\x50\x00\x10\x00\x00\xff\xff\x10": api.ErrBound,
		"\x01\x00\x00\x01\x02\x00\x50\x00\x10\x00\x00\xff\xff\x01": api.ErrShape,
	} {
		if p, err := packet.Decode(s); p != (api.Packet{}) || err != want {
			t.Errorf("%q: %+v, %v, not %v", s, p, err, want)
		}
	}
}

// P12: the names of all flags, in their order.
func TestTextOfFlags(t *testing.T) {
	for flags, names := range []string{"-", "syn", "ack", "syn+ack", "fin", "syn+fin", "ack+fin", "syn+ack+fin", "rst", "syn+rst", "ack+rst", "syn+ack+rst", "fin+rst", "syn+fin+rst", "ack+fin+rst", "syn+ack+fin+rst"} {
		want := "tcp 258:80 1048576:65535 " + names
		if s, err := packet.Text(tcp(here, there, flags)); s != want || err != nil {
			t.Errorf("Text: %q, %v, not %q", s, err, want)
		}
		if p, err := packet.Read(want); p != tcp(here, there, flags) || err != nil {
			t.Errorf("Read %q: %+v, %v", want, p, err)
		}
	}
}

// P12: UDP has no flags to tell.
func TestTextOfUDP(t *testing.T) {
	for want, p := range map[string]api.Packet{
		"udp 258:80 1048576:65535": udp(here, there),
		"udp 0:1 1048576:65535":    udp(api.End{Port: 1}, there),
		"udp 10:100 0:9":           udp(api.End{Addr: 10, Port: 100}, api.End{Port: 9}),
	} {
		if s, err := packet.Text(p); s != want || err != nil {
			t.Errorf("Text: %q, %v, not %q", s, err, want)
		}
		if got, err := packet.Read(want); got != p || err != nil {
			t.Errorf("Read %q: %+v, %v", want, got, err)
		}
	}
}

// P12: what Text does not make is ErrText, bounds too.
func TestReadBad(t *testing.T) {
	for _, s := range []string{
		"", " ", "udp", "tcp", "udp ", "udp 1:1", "udp 1:1 ", "udp 1:1 2:2 ", " udp 1:1 2:2", "udp  1:1 2:2", "udp 1:1  2:2",
		"udp 1:1 2:2\n", "udp\t1:1 2:2", "udp 1:1 2:2 -", "udp 1:1 2:2 syn", "udp 1:1 2:2 3:3", "udp 1:1 2:2\x00",
		"UDP 1:1 2:2", "ip 1:1 2:2", "any 1:1 2:2", "1 1:1 2:2", " 1:1 2:2", "udptcp 1:1 2:2",
		"udp 1 2:2", "udp :1 2:2", "udp 1: 2:2", "udp : 2:2", "udp 1:1:1 2:2", "udp 1:1 2", "udp 1:1 :", "udp 1.1 2:2",
		"udp 01:1 2:2", "udp 00:1 2:2", "udp 1:01 2:2", "udp 1:1 02:2", "udp 1:1 2:02",
		"udp +1:1 2:2", "udp 1:+1 2:2", "udp -1:1 2:2", "udp -0:1 2:2", "udp 1:-1 2:2", "udp 1_0:1 2:2", "udp 0x1:1 2:2", "udp 1e1:1 2:2", "udp \u0661:1 2:2",
		"udp 1:0 2:2", "udp 1:1 2:0", "udp 1:65536 2:2", "udp 1:1 2:65536", "udp 1048577:1 2:2", "udp 1:1 1048577:2",
		"udp 4294967297:1 2:2", "udp 18446744073709551617:1 2:2", "udp 1:18446744073709551617 2:2", "udp 1:" + strings.Repeat("9", 5000) + " 2:2",
		"tcp 1:1 2:2", "tcp 1:1 2:2 ", "tcp 1:1 2:2  -", "tcp 1:1 2:2 - ", "tcp 1:1 2:2 --", "tcp 1:1 2:2 -+syn", "tcp 1:1 2:2 syn+-",
		"tcp 1:1 2:2 ack+syn", "tcp 1:1 2:2 rst+fin", "tcp 1:1 2:2 syn+syn", "tcp 1:1 2:2 syn+ack+syn", "tcp 1:1 2:2 +", "tcp 1:1 2:2 +syn", "tcp 1:1 2:2 syn+", "tcp 1:1 2:2 syn++ack",
		"tcp 1:1 2:2 SYN", "tcp 1:1 2:2 sy", "tcp 1:1 2:2 synack", "tcp 1:1 2:2 syn,ack", "tcp 1:1 2:2 syn ack", "tcp 1:1 2:2 psh", "tcp 1:1 2:2 1", "tcp 1:0 2:2 syn", "tcp 1:1 2:2 syn\n",
		strings.Repeat(" ", 5000), strings.Repeat("tcp 1:1 2:2 syn ", 500), "tcp 1:1 2:2 " + strings.Repeat("syn+", 5000) + "syn",
	} {
		if p, err := packet.Read(s); p != (api.Packet{}) || err != api.ErrText {
			t.Errorf("%.60q: %+v, %v", s, p, err)
		}
	}
}

// P13: what is written is read.
func TestWrittenIsRead(t *testing.T) {
	for _, p := range good() {
		code, e1 := packet.Encode(p)
		decoded, e2 := packet.Decode(code)
		text, e3 := packet.Text(p)
		read, e4 := packet.Read(text)
		if e1 != nil || e2 != nil || e3 != nil || e4 != nil || len(code) != 14 || decoded != p || read != p {
			t.Fatalf("%+v: %q %+v, %q %+v: %v %v %v %v", p, code, decoded, text, read, e1, e2, e3, e4)
		}
	}
}

// nearby texts: s with one byte left out, another one, or one more.
func nearby(s string) []string {
	var list []string
	for i := range len(s) + 1 {
		for _, c := range []byte("\x00\n +-0129:acfinrstu\x10\xff") {
			list = append(list, s[:i]+string([]byte{c})+s[i:])
			if i < len(s) {
				list = append(list, s[:i]+string([]byte{c})+s[i+1:])
			}
		}
		if i < len(s) {
			list = append(list, s[:i]+s[i+1:])
		}
	}
	return list
}

// P12 and P1: beside good texts, each one is refused, or is just what Text makes.
func TestReadOnlyWhatIsMade(t *testing.T) {
	for _, p := range []api.Packet{udp(here, there), tcp(there, here, 0), tcp(here, here, api.SYN), tcp(here, there, 15)} {
		text, _ := packet.Text(p)
		for _, s := range nearby(text) {
			got, err := packet.Read(s)
			if err == api.ErrText && got == (api.Packet{}) {
				continue
			}
			if made, _ := packet.Text(got); err != nil || made != s {
				t.Errorf("%q: %+v, %v", s, got, err)
			}
		}
	}
}

// P11 and P1: beside good bytes, each one is refused, or is just what Encode makes.
func TestDecodeOnlyWhatIsMade(t *testing.T) {
	for _, p := range []api.Packet{udp(here, there), tcp(there, here, 0), tcp(here, there, 15)} {
		code, _ := packet.Encode(p)
		for _, s := range nearby(code) {
			got, err := packet.Decode(s)
			if err != nil && got == (api.Packet{}) && (len(s) == 14) == (err != api.ErrText) {
				continue
			}
			if made, _ := packet.Encode(got); err != nil || made != s {
				t.Errorf("%q: %+v, %v", s, got, err)
			}
		}
	}
}
