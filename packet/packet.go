// Package packet: packets: see ../shared/doc/01-packet.md.
package packet

import (
	"strconv"
	"strings"

	"twinrampart/api"
)

// How many bytes an encoded packet has, and each of its numbers.
const (
	byteWidth = 1
	addrWidth = 4
	portWidth = 2
	size      = byteWidth + 2*(addrWidth+portWidth) + byteWidth
)

const (
	maxFlags = api.SYN | api.ACK | api.FIN | api.RST
	noFlags  = "-"
)

// By bits: flag 1<<i is called flagNames[i].
var flagNames = [4]string{"syn", "ack", "fin", "rst"}

// Check a packet.
func Check(p api.Packet) error {
	if p.Proto != api.UDP && p.Proto != api.TCP {
		return api.ErrBound
	}
	for _, e := range ends(&p) {
		if e.Addr < 0 || e.Addr > api.MaxAddr || e.Port < 1 || e.Port > api.MaxPort {
			return api.ErrBound
		}
	}
	if p.Flags < 0 || p.Flags > maxFlags {
		return api.ErrBound
	}
	if p.Proto == api.UDP && p.Flags != 0 {
		return api.ErrShape
	}
	return nil
}

// Encode a packet.
func Encode(p api.Packet) (string, error) {
	if err := Check(p); err != nil {
		return "", err
	}
	var b [size]byte
	put := putter(&b)
	put(p.Proto, byteWidth)
	for _, e := range ends(&p) {
		put(e.Addr, addrWidth)
		put(e.Port, portWidth)
	}
	put(p.Flags, byteWidth)
	return string(b[:]), nil
}

// Decode a packet.
func Decode(s string) (api.Packet, error) {
	if len(s) != size {
		return api.Packet{}, api.ErrText
	}
	var p api.Packet
	take := taker(s)
	p.Proto = take(byteWidth)
	for _, e := range ends(&p) {
		e.Addr = take(addrWidth)
		e.Port = take(portWidth)
	}
	p.Flags = take(byteWidth)
	if err := Check(p); err != nil {
		return api.Packet{}, err
	}
	return p, nil
}

// Text of a packet.
func Text(p api.Packet) (string, error) {
	if err := Check(p); err != nil {
		return "", err
	}
	s := protoText(p.Proto)
	for _, e := range ends(&p) {
		s += " " + endText(*e)
	}
	if p.Proto == api.TCP {
		s += " " + flagsText(p.Flags)
	}
	return s, nil
}

// Read a packet.
func Read(s string) (api.Packet, error) {
	p, ok := parse(s)
	if !ok {
		return api.Packet{}, api.ErrText
	}
	// Signs, needless zeros, flags twice or in another order are parsed,
	// but Text would not have made them.
	if made, err := Text(p); err != nil || made != s {
		return api.Packet{}, api.ErrText
	}
	return p, nil
}

// ends are pointers, so that one loop reads or fills both.
func ends(p *api.Packet) [2]*api.End {
	return [2]*api.End{&p.Src, &p.Dst}
}

// putter makes a function that writes a number behind what it has written.
func putter(b *[size]byte) func(value, width int) {
	at := 0
	return func(value, width int) {
		for i := width - 1; i >= 0; i-- {
			b[at] = byte(value >> (8 * i))
			at++
		}
	}
}

// taker makes a function that reads a number behind what it has read.
func taker(s string) func(width int) int {
	at := 0
	return func(width int) int {
		value := 0
		for range width {
			value = value<<8 | int(s[at])
			at++
		}
		return value
	}
}

func protoText(proto int) string {
	if proto == api.UDP {
		return "udp"
	}
	return "tcp"
}

func endText(e api.End) string {
	return strconv.Itoa(e.Addr) + ":" + strconv.Itoa(e.Port)
}

func flagsText(flags int) string {
	var names []string
	for i, name := range flagNames {
		if flags&(1<<i) != 0 {
			names = append(names, name)
		}
	}
	if len(names) == 0 {
		return noFlags
	}
	return strings.Join(names, "+")
}

// parse answers the only packet whose text s could be; Read asks whether it is.
func parse(s string) (api.Packet, bool) {
	var p api.Packet
	words := strings.Split(s, " ")
	switch {
	case len(words) == 3 && words[0] == protoText(api.UDP):
		p.Proto = api.UDP
	case len(words) == 4 && words[0] == protoText(api.TCP):
		p.Proto = api.TCP
	default:
		return api.Packet{}, false
	}
	for i, e := range ends(&p) {
		if !parseEnd(words[1+i], e) {
			return api.Packet{}, false
		}
	}
	if p.Proto == api.TCP && !parseFlags(words[3], &p.Flags) {
		return api.Packet{}, false
	}
	return p, true
}

func parseEnd(word string, e *api.End) bool {
	addr, port, ok := strings.Cut(word, ":")
	if !ok {
		return false
	}
	a, errAddr := strconv.Atoi(addr)
	n, errPort := strconv.Atoi(port)
	if errAddr != nil || errPort != nil {
		return false
	}
	e.Addr, e.Port = a, n
	return true
}

func parseFlags(word string, flags *int) bool {
	if word == noFlags {
		return true
	}
	for _, name := range strings.Split(word, "+") {
		bit := flagBit(name)
		if bit == 0 {
			return false
		}
		*flags |= bit
	}
	return true
}

// flagBit of a name; 0: it is no flag's.
func flagBit(name string) int {
	for i, known := range flagNames {
		if known == name {
			return 1 << i
		}
	}
	return 0
}
