package tree

import (
	"math/rand"
	"testing"

	"almoner/api"
)

// Rows of orders of every Kind, with fixed seeds.

// row makes orders for a walk as it goes.
type row struct {
	*walk
	random *rand.Rand
	light  bool // servers are small: many of them fit
	still  bool // the time hardly goes on: ghosts stay
}

func newRow(t *testing.T, random *rand.Rand) *row {
	return &row{walk: newWalk(t), random: random, light: random.Intn(2) == 0, still: random.Intn(3) == 0}
}

func pick[T any](random *rand.Rand, list ...T) T { return list[random.Intn(len(list))] }

// at is a time about now, or about the end of a ghost; seldom one out of the time or at its end.
func (r *row) at() int {
	now := r.tree.Now
	if r.random.Intn(40) == 0 {
		return pick(r.random, wrongTimes()...)
	}
	if r.random.Intn(2000) == 0 {
		return pick(r.random, most-1, most)
	}
	if len(r.tree.Ghosts) > 0 && r.random.Intn(4) == 0 && !r.still {
		return min(most, pick(r.random, r.tree.Ghosts...).Until+pick(r.random, -1, 0, 1))
	}
	step := pick(r.random, 0, 0, 1, r.random.Intn(5), r.random.Intn(60))
	if r.still {
		step = pick(r.random, 0, 0, 0, 1)
	}
	return min(most, pick(r.random, 0, max(0, now-1), now, now+step, now+step, now+step))
}

// id is mostly that of a node; else the root's, or that of none.
func (r *row) id() int {
	if n := r.random.Intn(20); n == 0 || len(r.tree.Nodes) == 0 {
		return pick(r.random, 0, 0, 0, -1, r.tree.Last+1, r.random.Intn(r.tree.Last+1), pick(r.random, ends()...))
	}
	// The younger ones hang deeper.
	half := r.random.Intn(2) * len(r.tree.Nodes) / 2
	return r.tree.Nodes[half+r.random.Intn(len(r.tree.Nodes)-half)].Id
}

// serverFor is a server that may fit below a parent: with a longer period, and a part of its share.
func (r *row) serverFor(parent api.Server) api.Server {
	if r.random.Intn(30) == 0 {
		return pick(r.random, wrongServers()...)
	}
	period, share := 2+r.random.Intn(12), 1.0
	if parent.Kind != 0 {
		period, share = min(256, parent.T*(2+r.random.Intn(3))), float64(parent.Q)/float64(parent.T)
	}
	part := 0.05 + 0.85*r.random.Float64()
	if r.light {
		part = 0.12 * r.random.Float64()
		period = max(period, min(256, period*3))
	}
	q := min(period, max(1, int(share*part*float64(period))))
	return server(pick(r.random, 1, 1, 2, 2, 2, 3), q, period)
}

// guestFor is a guest that may fit into a node's server.
func (r *row) guestFor(s api.Server) (int, []api.Task) {
	if r.random.Intn(12) == 0 {
		return pick(r.random, wrongPolicies()...), []api.Task{small()}
	}
	tasks := make([]api.Task, 1+r.random.Intn(3))
	for i := range tasks {
		p := min(256, max(1, s.T)*(3+r.random.Intn(4)))
		c := 1 + r.random.Intn(max(1, min(p, s.Q)))
		tasks[i] = task(c, p, c+r.random.Intn(p-c+1), r.random.Intn(c+1))
		if r.random.Intn(2) == 0 {
			tasks[i].D = p
		}
	}
	if r.random.Intn(12) == 0 {
		tasks[0] = pick(r.random, wrongTasks()...)
	}
	return 1 + r.random.Intn(2), tasks
}

func (r *row) order() api.Order {
	o := api.Order{Id: r.id(), At: r.at()}
	n := r.book.nodes[o.Id]
	switch k := r.random.Intn(100); {
	case k < 45:
		o.Kind = 1
		if r.random.Intn(4) == 0 {
			o.Id = 0
		}
		o.Server = r.serverFor(r.book.server(o.Id))
	case k < 60:
		o.Kind, o.Server = 2, r.serverFor(r.book.server(n.Parent))
	case k < 82:
		o.Kind = 3
	case k < 97:
		o.Kind = 4
		o.Policy, o.Tasks = r.guestFor(n.Server)
	default:
		o = creates(o.Id, r.serverFor(n.Server), o.At)
		o.Kind = pick(r.random, wrongKinds()...)
	}
	return o
}

// goes is a row of orders; how often each Kind came to each code is counted.
func (r *row) goes(length int, counts *[5][9]int) {
	r.t.Helper()
	for range length {
		o := r.order()
		got := r.step(o)
		kind := o.Kind
		if kind < 1 || kind > 4 {
			kind = 0
		}
		counts[kind][got.Code]++
	}
	r.asksAll()
	readsBack(r.t, r.tree)
}

// P13.1 to P13.4, each asked behind each order.
func TestManyRows(t *testing.T) {
	random := rand.New(rand.NewSource(1301))
	var counts [5][9]int
	for range 400 {
		newRow(t, random).goes(120, &counts)
	}
	// By Kind, the codes that it may come to.
	for kind, codes := range [][]int{{7}, {0, 1, 3, 4, 5, 6, 7}, {0, 1, 2, 3, 4, 5, 7}, {0, 1, 2, 7}, {0, 1, 2, 3, 4, 7, 8}} {
		for _, code := range codes {
			if counts[kind][code] < 20 {
				t.Errorf("the Kind %d came to the code %d only %d times", kind, code, counts[kind][code])
			}
		}
	}
}

// Rows behind a tree that is full, or deep.
func TestRowsFromGreatTrees(t *testing.T) {
	random := rand.New(rand.NewSource(1302))
	var counts [5][9]int
	for i := range 20 {
		r := newRow(t, random)
		r.walk = []*walk{crowd(t), chain(t)}[i%2]
		r.light = true
		r.goes(100, &counts)
	}
	if counts[1][api.CodeFull] < 20 || counts[1][api.CodeDeep] < 20 {
		t.Errorf("creates came to these codes: %v", counts[1])
	}
}

// The same orders make the same trees, whatever else is made meanwhile.
func TestRowsAreTheSameAgain(t *testing.T) {
	random := rand.New(rand.NewSource(1303))
	a, b := newRow(t, random), newRow(t, random)
	var orders [2][]api.Order
	for range 150 {
		for i, r := range []*row{a, b} {
			o := r.order()
			orders[i] = append(orders[i], o)
			r.step(o)
		}
	}
	for i, r := range []*row{a, b} {
		var again api.Tree
		for _, o := range orders[i] {
			again, _ = Apply(again, o)
		}
		if !equal(again, r.tree) || !Same(again, r.tree) {
			t.Errorf("%+v, and %+v", again, r.tree)
		}
	}
}
