package tree

import (
	"almoner/api"
	"almoner/wire"
)

const (
	maxGhosts = api.MaxNodes * api.MaxKids
	maxUntil  = api.MaxTime + api.MaxLook // the greatest Now, and the longest Drain
)

// Put is a tree's bytes; ErrNumber, if a number is below 0.
func Put(t api.Tree) ([]byte, error) {
	w := wire.NewWriter()
	putAll(w, t.Last, t.Now, len(t.Nodes))
	for _, n := range t.Nodes {
		putNode(w, n)
	}
	putAll(w, len(t.Ghosts))
	for _, g := range t.Ghosts {
		putAll(w, g.Parent, g.Server.Kind, g.Server.Q, g.Server.T, g.Until)
	}
	return w.Done()
}

func putNode(w *wire.Writer, n api.Node) {
	putAll(w, n.Id, n.Parent, n.Server.Kind, n.Server.Q, n.Server.T, n.Policy, len(n.Tasks))
	for _, k := range n.Tasks {
		putAll(w, k.C, k.P, k.D, k.S)
	}
}

func putAll(w *wire.Writer, list ...int) {
	for _, n := range list {
		w.Num(n)
	}
}

// Get is the tree of bytes; ErrBytes, if they are those of none. Whether orders could make it isn't asked.
func Get(b []byte) (t api.Tree, err error) {
	defer func() {
		if recover() != nil {
			t, err = api.Tree{}, api.ErrBytes
		}
	}()
	r := reader{Reader: wire.NewReader(b)}
	t = r.tree()
	r.end()
	return t, nil
}

// reader reads what must be there, and gives up by panic where it isn't: Get alone tells the error.
type reader struct {
	*wire.Reader
}

// upTo reads a number of at most most.
func (r reader) upTo(most int) int {
	n, err := r.Num(most)
	if err != nil {
		panic(err)
	}
	return n
}

func (r reader) num() int { return r.upTo(api.MaxTime) }

func (r reader) end() {
	if err := r.End(); err != nil {
		panic(err)
	}
}

func (r reader) tree() api.Tree {
	t := api.Tree{Last: r.num(), Now: r.num()}
	for range r.upTo(api.MaxNodes) {
		t.Nodes = append(t.Nodes, r.node())
	}
	for range r.upTo(maxGhosts) {
		t.Ghosts = append(t.Ghosts, r.ghost())
	}
	return t
}

func (r reader) node() api.Node {
	n := api.Node{Id: r.num(), Parent: r.num(), Server: r.server(), Policy: r.num()}
	for range r.upTo(api.MaxTasks) {
		n.Tasks = append(n.Tasks, r.task())
	}
	return n
}

func (r reader) server() api.Server {
	return api.Server{Kind: r.num(), Q: r.num(), T: r.num()}
}

func (r reader) task() api.Task {
	return api.Task{C: r.num(), P: r.num(), D: r.num(), S: r.num()}
}

func (r reader) ghost() api.Ghost {
	return api.Ghost{Parent: r.num(), Server: r.server(), Until: r.upTo(maxUntil)}
}
