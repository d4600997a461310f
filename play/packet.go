package play

import "twinrampart/api"

// Flags of TCP packets, in the order in which a script numbers them.
var (
	insideFlags  = [4]int{api.SYN, api.ACK, api.FIN | api.ACK, api.RST}
	outsideFlags = [4]int{api.SYN | api.ACK, api.ACK, api.FIN | api.ACK, api.RST}
)

// fromInside: a packet of one of three inner ends, to one of two far ones.
func fromInside(q int) api.Packet {
	p := api.Packet{
		Proto: proto(q),
		Src:   api.End{Addr: 10 + q/2%3, Port: 100},
		Dst:   farEnd(q / 6),
	}
	if p.Proto == api.TCP {
		p.Flags = insideFlags[q/12%len(insideFlags)]
	}
	return p
}

// fromOutside: a packet of one of two far ends, to a port of either node.
func fromOutside(q int) api.Packet {
	p := api.Packet{
		Proto: proto(q),
		Src:   farEnd(q / 2),
		Dst:   api.End{Addr: api.Public, Port: api.FirstPort + q/4%(2*api.Half)},
	}
	if p.Proto == api.TCP {
		p.Flags = outsideFlags[q/4%len(outsideFlags)]
	}
	return p
}

func proto(q int) int {
	if q%2 == 0 {
		return api.UDP
	}
	return api.TCP
}

func farEnd(q int) api.End { return api.End{Addr: 77, Port: 80 + q%2} }
