package world

import (
	"twinrampart/api"
	"twinrampart/cell"
	"twinrampart/node"
)

// side of a world: a node, and the bytes that stay while it is down.
type side struct {
	*node.Node // nil: it is down
	bytes      *cell.Bytes
}

func (s *side) isUp() bool { return s.Node != nil }

// rise with a new node. Where there is none, power goes again: a node of before, which somebody may still have, must not write.
func (s *side) rise(id int, rules []api.Rule) error {
	s.bytes.On()
	n, err := node.New(id, s.bytes, rules)
	if err != nil {
		s.bytes.Off()
		return err
	}
	s.Node = n
	return nil
}

// fall: power goes with the node, so that who still has the node can't claim by it.
func (s *side) fall() {
	s.Node = nil
	s.bytes.Off()
}
