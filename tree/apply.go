package tree

import (
	"slices"

	"almoner/admit"
	"almoner/api"
	"almoner/plan"
)

// deed does an order to a tree, which is the caller's own and already at the order's time, or refuses it by a code and leaves the tree alone.
type deed func(t *api.Tree, o api.Order) api.Result

// deeds is what is done by each Kind of order.
func deeds() map[int]deed {
	return map[int]deed{
		api.OrdCreate: create,
		api.OrdResize: resize,
		api.OrdDelete: remove,
		api.OrdBind:   bind,
	}
}

// Apply is what an order makes of a tree, and what it comes to.
func Apply(t api.Tree, o api.Order) (api.Tree, api.Result) {
	after := clone(t)
	do, known := deeds()[o.Kind]
	if !known || o.At < 0 || o.At > api.MaxTime {
		return after, refused(api.CodeServer)
	}
	pass(&after, o.At)
	result := do(&after, o)
	return after, result
}

func refused(code int) api.Result { return api.Result{Code: code} }

// pass lets the time go on to at, and lets go of the ghosts whose time is over.
func pass(t *api.Tree, at int) {
	t.Now = max(t.Now, at)
	t.Ghosts = slices.DeleteFunc(t.Ghosts, func(g api.Ghost) bool { return g.Until <= t.Now })
}

func create(t *api.Tree, o api.Order) api.Result {
	if code := createCode(*t, o); code != api.CodeOK {
		return refused(code)
	}
	t.Last++
	t.Nodes = append(t.Nodes, api.Node{Id: t.Last, Parent: o.Id, Server: o.Server})
	hold(t, o.Id)
	return api.Result{Id: t.Last}
}

func createCode(t api.Tree, o api.Order) int {
	switch depth := Depth(t, o.Id); {
	case plan.CheckServer(o.Server) != nil:
		return api.CodeServer
	case depth < 0:
		return api.CodeGone
	case bound(t, o.Id):
		return api.CodeBound
	case depth >= api.MaxDepth:
		return api.CodeDeep
	case len(t.Nodes) >= api.MaxNodes || full(t, o.Id):
		return api.CodeFull
	case !fits(t, o.Id, o.Server):
		return api.CodeTight
	}
	return api.CodeOK
}

func resize(t *api.Tree, o api.Order) api.Result {
	if code := resizeCode(*t, o); code != api.CodeOK {
		return refused(code)
	}
	n := &t.Nodes[place(*t, o.Id)]
	t.Ghosts = append(t.Ghosts, api.Ghost{Parent: n.Parent, Server: n.Server})
	n.Server = o.Server
	hold(t, n.Parent)
	return api.Result{Id: n.Id}
}

func resizeCode(t api.Tree, o api.Order) int {
	if plan.CheckServer(o.Server) != nil {
		return api.CodeServer
	}
	if code := idleCode(t, o.Id); code != api.CodeOK {
		return code
	}
	n, _ := Find(t, o.Id)
	switch {
	case full(t, n.Parent):
		return api.CodeFull
	case !fits(t, n.Parent, o.Server):
		return api.CodeTight
	}
	return api.CodeOK
}

func remove(t *api.Tree, o api.Order) api.Result {
	if code := leafCode(*t, o.Id); code != api.CodeOK {
		return refused(code)
	}
	i := place(*t, o.Id)
	g := api.Ghost{Parent: t.Nodes[i].Parent, Server: t.Nodes[i].Server}
	// The same servers are counted below the parent, whether this one is a node or a ghost.
	g.Until = freed(*t, g.Parent)
	t.Nodes = slices.Delete(t.Nodes, i, i+1)
	t.Ghosts = append(t.Ghosts, g)
	return api.Result{Id: o.Id}
}

func bind(t *api.Tree, o api.Order) api.Result {
	if code := bindCode(*t, o); code != api.CodeOK {
		return refused(code)
	}
	n := &t.Nodes[place(*t, o.Id)]
	n.Policy, n.Tasks = o.Policy, slices.Clone(o.Tasks)
	return api.Result{Id: n.Id}
}

func bindCode(t api.Tree, o api.Order) int {
	if plan.CheckGuest(o.Policy, o.Tasks) != nil {
		return api.CodeTask
	}
	if code := idleCode(t, o.Id); code != api.CodeOK {
		return code
	}
	n, _ := Find(t, o.Id)
	if admit.Guest(n.Server, o.Policy, o.Tasks) != nil {
		return api.CodeTight
	}
	return api.CodeOK
}

// leafCode asks for a node, which the root isn't, with nothing counted below it.
func leafCode(t api.Tree, id int) int {
	if place(t, id) < 0 {
		return api.CodeGone
	}
	if len(Counted(t, id)) > 0 {
		return api.CodeKids
	}
	return api.CodeOK
}

// idleCode asks for such a node that isn't bound.
func idleCode(t api.Tree, id int) int {
	if code := leafCode(t, id); code != api.CodeOK {
		return code
	}
	if bound(t, id) {
		return api.CodeBound
	}
	return api.CodeOK
}

func bound(t api.Tree, id int) bool {
	n, ok := Find(t, id)
	return ok && n.Policy != 0
}

// full tells whether no server more may be counted below a node or the root.
func full(t api.Tree, id int) bool { return len(Counted(t, id)) >= api.MaxKids }

// fits tells whether one server more fits below a node or the root, beside all that is counted there.
func fits(t api.Tree, id int, more api.Server) bool {
	parent, _ := Server(t, id)
	return admit.Kids(parent, append(Counted(t, id), more)) == nil
}

// hold keeps the ghosts below a node or the root until what is counted there now can't reach back to them any more: with one server more, busy times may be longer.
func hold(t *api.Tree, id int) {
	until := freed(*t, id)
	for i, g := range t.Ghosts {
		if g.Parent == id {
			t.Ghosts[i].Until = max(g.Until, until)
		}
	}
}

// freed is the first time that no busy time below a node or the root reaches from now on, by what is counted there. Drain always answers: only what fits is ever counted.
func freed(t api.Tree, id int) int {
	parent, _ := Server(t, id)
	drain, _ := admit.Drain(parent, Counted(t, id))
	return t.Now + drain
}
