package graph

import (
	"slices"

	"relay/api"
)

// Parts are held against what was read: that ends, so the comparison does, too.

func sameRung(a, b api.Rung) bool {
	return slices.EqualFunc(a.Contacts, b.Contacts, sameElement) && slices.EqualFunc(a.Coils, b.Coils, sameElement)
}

func sameElement(a, b api.Element) bool {
	return a.Op == b.Op && a.Name == b.Name && slices.EqualFunc(a.Branches, b.Branches, sameSeries)
}

func sameSeries(a, b []api.Element) bool { return slices.EqualFunc(a, b, sameElement) }

func sameNetwork(a, b api.Network) bool { return slices.EqualFunc(a.Nodes, b.Nodes, sameNode) }

func sameNode(a, b api.Node) bool {
	return a.Op == b.Op && a.Name == b.Name && a.Kind == b.Kind && a.Func == b.Func &&
		slices.Equal(a.Names, b.Names) && slices.EqualFunc(a.Wires, b.Wires, sameWire)
}

// sameWire leaves places aside alone: what layer 15 puts in no text has.
func sameWire(a, b api.Expr) bool {
	return a.Op == b.Op && a.Name == b.Name && a.Field == b.Field && a.Value == b.Value &&
		a.Kind == b.Kind && a.Area == b.Area && a.Ref == b.Ref && a.From == b.From && a.To == b.To &&
		slices.Equal(a.Names, b.Names) && slices.EqualFunc(a.Kids, b.Kids, sameWire)
}
