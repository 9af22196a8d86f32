package host

import (
	"math"
	"math/rand"

	"almoner/api"
	"almoner/tree"
)

// Scripts: rows of orders, releases and ticks that are made as they go, with fixed seeds.

// driver is what a script drives: a host with something beside it that holds it against the words or the promises.
type driver interface {
	submit(list ...api.Order)
	release(id, task, ticks int) error
	tick() Report
}

// script makes calls for a driver. What it chooses hangs on what the host tells of its tree.
type script struct {
	driver
	h      *Host
	random *rand.Rand
	tight  bool        // servers and guests are as great as they may be
	longer int         // the longest period of a server below the root
	churn  float64     // how often a tick comes with an order
	bold   float64     // how many of the orders may be such that they are refused or wait
	eager  float64     // how often a task that may be released is
	turns  int         // for how long about a node's tasks are released, and then aren't; 0: always
	cut    float64     // how many of the jobs run shorter than they may
	wrong  float64     // how many of the calls are wrong
	quiet  map[int]int // by node whose tasks aren't released now: 1
}

func newScript(d driver, h *Host, random *rand.Rand) *script {
	return &script{
		driver: d, h: h, random: random, quiet: map[int]int{},
		tight: random.Intn(4) > 0, longer: pick(random, 3, 3, 6, 12, 30), churn: pick(random, 0.02, 0.1, 0.4), bold: pick(random, 0, 0.02, 0.1),
		eager: pick(random, 0.1, 0.5, 1, 1, 1), turns: pick(random, 0, 5, 20, 60), cut: pick(random, 0, 0, 0.3),
	}
}

func pick[T any](random *rand.Rand, list ...T) T { return list[random.Intn(len(list))] }

func (s *script) chance(part float64) bool { return s.random.Float64() < part }

// step is a tick, and what comes ahead of it.
func (s *script) step() Report {
	if s.chance(s.churn) {
		s.orders()
	}
	for _, n := range s.h.Tree().Nodes {
		s.releases(n)
	}
	if s.chance(s.wrong) {
		s.release(s.id(), pick(s.random, math.MinInt, -1, 0, 1, 7, 8, math.MaxInt), pick(s.random, math.MinInt, -1, 0, 1, 9, math.MaxInt))
	}
	return s.tick()
}

// orders submits some that are done at once, and others as far as it is bold.
func (s *script) orders() {
	for range 1 + s.random.Intn(3) {
		if o := s.order(); !s.admits(o) && s.chance(s.bold) {
			s.submit(o)
		}
	}
}

// releases is what comes to a node's guest.
func (s *script) releases(n api.Node) {
	if s.turns > 0 && s.random.Intn(s.turns) == 0 {
		s.quiet[n.Id] = 1 - s.quiet[n.Id]
	}
	for i, task := range n.Tasks {
		if s.quiet[n.Id] == 0 && s.chance(s.eager) {
			s.release(n.Id, i, s.ticks(task.C))
		}
	}
}

// build makes a tree, and binds guests into its leaves as far as they are admitted.
func (s *script) build() {
	for range 2 + s.random.Intn(12) {
		t := s.h.Tree()
		s.admits(s.grows(creates(s.inner(t), api.Server{}), t))
		s.tick()
	}
	for range 4 {
		t := s.h.Tree()
		for _, n := range t.Nodes {
			if n.Policy == 0 && len(tree.Kids(t, n.Id)) == 0 {
				s.admits(s.guestFor(t, n))
			}
		}
		s.tick()
	}
}

// admits submits an order that is done at once.
func (s *script) admits(o api.Order) bool {
	o.At = s.h.Now()
	_, result := tree.Apply(s.h.Tree(), o)
	if result.Code != api.CodeOK || s.h.Waiting() > 5 {
		return false
	}
	s.submit(o)
	return true
}

func (s *script) ticks(c int) int {
	if s.chance(s.cut) {
		return s.random.Intn(c + 1)
	}
	return pick(s.random, c, c+1, math.MaxInt)
}

// id is mostly that of a node; else the root's, or that of none.
func (s *script) id() int {
	t := s.h.Tree()
	if len(t.Nodes) == 0 || s.chance(0.02+s.wrong) {
		return pick(s.random, 0, 0, -1, t.Last+1, 1+s.random.Intn(t.Last+1), math.MinInt, math.MaxInt)
	}
	return pick(s.random, t.Nodes...).Id
}

func (s *script) order() api.Order {
	if s.chance(s.wrong) {
		return s.wrongOrder()
	}
	t := s.h.Tree()
	leaf := s.leaf(t)
	switch k := s.random.Intn(100); {
	case k < 20 || leaf.Id == 0:
		return s.grows(creates(0, api.Server{}), t)
	case k < 60:
		return s.grows(creates(s.inner(t), api.Server{}), t)
	case k < 68:
		return s.grows(resizes(leaf.Id, api.Server{}), t)
	case k < 78:
		return deletes(leaf.Id)
	default:
		return s.guestFor(t, leaf)
	}
}

// leaf is a node without kids, mostly one that isn't bound; one with the Id 0, if there is none.
func (s *script) leaf(t api.Tree) api.Node {
	var all, free []api.Node
	for _, n := range t.Nodes {
		if len(tree.Kids(t, n.Id)) == 0 {
			all = append(all, n)
			if n.Policy == 0 {
				free = append(free, n)
			}
		}
	}
	if len(free) > 0 && s.chance(0.8) {
		return pick(s.random, free...)
	}
	if len(all) > 0 {
		return pick(s.random, all...)
	}
	return api.Node{}
}

// inner is a node that isn't bound, or the root.
func (s *script) inner(t api.Tree) int {
	list := []int{0}
	for _, n := range t.Nodes {
		if n.Policy == 0 {
			list = append(list, n.Id)
		}
	}
	return pick(s.random, list...)
}

// grows gives an order to create or to resize a server; of a tight script it is mostly the greatest one that is admitted now.
func (s *script) grows(o api.Order, t api.Tree) api.Order {
	above := o.Id
	if n, there := tree.Find(t, o.Id); there && o.Kind == api.OrdResize {
		above = n.Parent
	}
	parent, _ := tree.Server(t, above)
	o.Server = s.serverBelow(parent)
	if s.tight && s.chance(0.8) {
		o.Server.Q = greatest(o.Server.T, o.Server.Q, func(q int) bool {
			tried := o
			tried.At, tried.Server.Q = s.h.Now(), q
			_, result := tree.Apply(t, tried)
			return result.Code == api.CodeOK
		})
		// Room for others is left at times.
		if o.Server.Q > 1 && s.chance(0.5) {
			o.Server.Q = 1 + s.random.Intn(o.Server.Q)
		}
	}
	return o
}

// greatest is the greatest number up to most that fits, where less fits too; the other one, if 1 does not.
func greatest(most, other int, fits func(int) bool) int {
	if !fits(1) {
		return other
	}
	least := 1
	for least < most {
		middle := (least + most + 1) / 2
		if fits(middle) {
			least = middle
		} else {
			most = middle - 1
		}
	}
	return least
}

// serverBelow is a server that may fit below a parent.
func (s *script) serverBelow(parent api.Server) api.Server {
	// A deferrable one is admitted below the root alone, and no second one beside it.
	kind := pick(s.random, 1, 2)
	if s.chance(0.02) || parent.Kind == api.KindWhole && s.chance(0.3) {
		kind = 3
	}
	if parent.Kind == api.KindWhole {
		period := 1 + s.random.Intn(s.longer)
		return api.Server{Kind: kind, Q: 1 + s.random.Intn((period+1)/2), T: period}
	}
	period := min(256, parent.T*(1+s.random.Intn(3))+s.random.Intn(parent.T+2))
	most := max(1, period*parent.Q/parent.T/2)
	return api.Server{Kind: kind, Q: 1 + s.random.Intn(most), T: period}
}

// guestFor binds a guest that may fit into a node; of a tight script its tasks are as great, and the last one in as great a hurry, as is admitted.
func (s *script) guestFor(t api.Tree, n api.Node) api.Order {
	o := binds(n.Id, 1+s.random.Intn(2))
	o.At = s.h.Now()
	for range 1 + s.random.Intn(3) {
		p := min(256, n.Server.T*(2+s.random.Intn(6))+s.random.Intn(n.Server.T))
		d := pick(s.random, p, p, 1+s.random.Intn(p))
		c := 1 + s.random.Intn(max(1, min(d, p*n.Server.Q/n.Server.T/3)))
		more := aTask(c, p, d, pick(s.random, 0, 0, c, s.random.Intn(c+1)))
		o.Tasks = append(o.Tasks, more)
		if s.tight && !s.tighten(t, o, func(c int) api.Task { return aTask(c, p, p, min(c, more.S)) }, p) && len(o.Tasks) > 1 {
			o.Tasks = o.Tasks[:len(o.Tasks)-1]
		}
	}
	if last := o.Tasks[len(o.Tasks)-1]; s.tight {
		s.tighten(t, o, func(less int) api.Task { return aTask(last.C, last.P, last.D+1-less, last.S) }, last.D+1-last.C)
	}
	return o
}

// tighten makes the last task of a guest the last one, of those by number, with which it is admitted; false, if there is none.
func (s *script) tighten(t api.Tree, o api.Order, by func(int) api.Task, most int) bool {
	last := &o.Tasks[len(o.Tasks)-1]
	first := *last
	fits := func(n int) bool {
		*last = by(n)
		_, result := tree.Apply(t, o)
		return result.Code == api.CodeOK
	}
	n := greatest(most, 0, fits)
	if n == 0 {
		*last = first
		return false
	}
	*last = by(pick(s.random, n, n, 1+s.random.Intn(n)))
	return true
}

// wrongOrder is refused, most of them whatever the tree is.
func (s *script) wrongOrder() api.Order {
	id := s.id()
	right, task := s.serverBelow(api.Server{}), aTask(1, 200, 200, 0)
	at := pick(s.random, 0, -1, math.MinInt, math.MaxInt, s.h.Now()+1)
	o := pick(s.random,
		creates(id, polling(0, 5)), creates(id, api.Server{Kind: 4, Q: 1, T: 5}), creates(-1, right), creates(id, sporadic(255, 255)), creates(id, right),
		resizes(id, deferrable(6, 5)), resizes(id, api.Server{}), resizes(0, right), resizes(id, polling(256, 256)), resizes(id, right),
		deletes(0), deletes(-1), deletes(id),
		binds(id, 0, task), binds(id, 3, task), binds(id, 1), binds(id, 2, aTask(0, 1, 1, 0)), binds(0, 1, task), binds(id, 1, aTask(256, 256, 256, 0)), binds(id, 2, task),
		api.Order{Id: id, Server: right}, api.Order{Kind: 5, Id: id, Server: right}, api.Order{Kind: -1}, api.Order{},
	)
	o.At = at
	return o
}
