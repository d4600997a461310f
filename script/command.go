package script

import (
	"strconv"
	"strings"

	"twinrampart/api"
	"twinrampart/digits"
	"twinrampart/node"
	"twinrampart/packet"
)

// Forms of commands: a letter for each word behind the name; or a packet, which is the rest of the line.
const (
	noWord        = ""
	aNode         = "S"
	aNumber       = "N"
	nodeAndNumber = aNode + aNumber
	aPacket       = "PACKET"
)

// args behind a command's name; what its form lacks is zero.
type args struct {
	node, number int
	packet       api.Packet
}

// command of a script: what stands behind its name, and what is done with it.
type command struct {
	form string
	do   func(a args) (string, error)
}

// commandsOf a player, by names.
func commandsOf(p *player) map[string]command {
	return map[string]command{
		"tick":    onNodeAndNumber(p.ticks),
		"cut":     onNodeAndNumber(p.Cut),
		"go":      onNumber(p.Deliver),
		"lose":    onNumber(p.Drop),
		"twice":   onNumber(p.Twice),
		"down":    onNode(p.Down),
		"up":      onNode(p.Up),
		"inside":  onPacket(p.Inside),
		"outside": onPacket(p.Outside),
		"all":     telling(func() string { return strconv.Itoa(p.deliverAll()) }),
		"fly":     telling(func() string { return strconv.Itoa(p.Many()) }),
		"switch":  telling(p.switchText),
		"events":  telling(p.eventsText),
		"active":  {aNode, func(a args) (string, error) { return p.activeText(a.node), nil }},
		"flows":   showing(p.Node, func(n *node.Node) int { return flows(n.Table()) }),
		"mirror":  showing(p.Node, func(n *node.Node) int { return flows(n.Mirror()) }),
		"epoch":   showing(p.Node, func(n *node.Node) int { return n.Epoch() }),
		"life":    showing(p.Node, func(n *node.Node) int { return n.Life() }),
	}
}

func onNodeAndNumber(act func(n, number int) error) command {
	return command{nodeAndNumber, func(a args) (string, error) { return "ok", act(a.node, a.number) }}
}

func onNumber(act func(number int) error) command {
	return command{aNumber, func(a args) (string, error) { return "ok", act(a.number) }}
}

func onNode(act func(n int) error) command {
	return command{aNode, func(a args) (string, error) { return "ok", act(a.node) }}
}

// onPacket: a way through the world.
func onPacket(way func(p api.Packet) (api.Packet, error)) command {
	return command{aPacket, func(a args) (string, error) {
		p, err := way(a.packet)
		if err != nil {
			return "", err
		}
		return packet.Text(p)
	}}
}

// telling what has no error.
func telling(text func() string) command {
	return command{noWord, func(args) (string, error) { return text(), nil }}
}

// showing a number of a node that is up.
func showing(up func(n int) (*node.Node, error), of func(n *node.Node) int) command {
	return command{aNode, func(a args) (string, error) {
		n, err := up(a.node)
		if err != nil {
			return "", err
		}
		return strconv.Itoa(of(n)), nil
	}}
}

// flows that cells have.
func flows(l []api.Cell) int {
	many := 0
	for _, c := range l {
		if c.F.Proto != 0 {
			many++
		}
	}
	return many
}

// readArgs as a form asks for them.
func readArgs(form string, words []string) (args, error) {
	if form == aPacket {
		// Joined again, the words are the rest of the line as it was, needless blanks too.
		p, err := packet.Read(strings.Join(words, " "))
		return args{packet: p}, err
	}
	if len(words) != len(form) {
		return args{}, api.ErrText
	}
	var a args
	for i, word := range words {
		if !a.read(form[i:i+1], word) {
			return args{}, api.ErrText
		}
	}
	return a, nil
}

// read a word, of a kind that is a form of one letter.
func (a *args) read(kind, word string) bool {
	n, is := digits.Read(word)
	if kind == aNumber {
		a.number = n
		return is
	}
	a.node = n
	return is && n <= 1
}
