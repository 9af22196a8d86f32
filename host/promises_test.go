package host

import (
	"math/rand"
	"slices"
	"testing"

	"almoner/api"
	"almoner/supply"
	"almoner/tree"
)

// P16.2, P16.3 and P16.4, seen from the calls alone.

// stint is a row of ticks, up to the last one, in all of which a node was there, with one server, and had work.
type stint struct {
	server api.Server
	sums   []int // how often it was charged ahead of each of them, and in all
}

// name names a job: no task has two releases at one tick.
type name struct{ node, task, release int }

// seen is how often the promises were asked where they are near to their bounds.
type seen struct {
	bare   [4]int    // by kind: pieces of stints that were charged just the supply, not 0
	deep   [5]int    // by depth: ticks in which a node there was charged
	edge   int       // jobs that ended just at their deadlines
	ended  [3]int    // jobs that ended, by policy
	held   int       // those of them with a section
	codes  [5][9]int // by kind and code: orders that were done or refused
	waited int       // ticks in which orders waited on
}

// watch is what was seen of a host.
type watch struct {
	t      *testing.T
	h      *Host
	orders []api.Order // those submitted whose results weren't told
	stints map[int]*stint
	open   map[name]int // by job that was released: its deadline, till it ended
	table  map[api.Server][]int
	seen   *seen
}

func newWatch(t *testing.T, to *seen) *watch {
	return &watch{t: t, h: New(), stints: map[int]*stint{}, open: map[name]int{}, table: map[api.Server][]int{}, seen: to}
}

func (w *watch) fails(what string, about ...any) {
	w.t.Helper()
	w.t.Fatalf("at %d: %s: %+v; tree %+v", w.h.Now(), what, about, w.h.Tree())
}

func (w *watch) submit(list ...api.Order) {
	for _, o := range list {
		w.h.Submit(o)
		w.orders = append(w.orders, o)
	}
}

func (w *watch) release(id, task, ticks int) error {
	err := w.h.Release(id, task, ticks)
	if err == nil {
		n, _ := tree.Find(w.h.Tree(), id)
		w.open[name{id, task, w.h.Now()}] = w.h.Now() + n.Tasks[task].D
	}
	return err
}

func (w *watch) tick() Report {
	w.t.Helper()
	r := w.h.Tick()
	for _, result := range r.Results {
		w.takes(w.orders[0], result)
		w.orders = w.orders[1:]
	}
	w.seen.waited += count(len(w.orders) > 0)
	t := w.h.Tree()
	w.supplies(r)
	w.below(t, r)
	w.deadlines(t, r)
	return r
}

// takes notes which nodes are there, with which server. One that is resized, to the same server too, has another one.
func (w *watch) takes(o api.Order, result api.Result) {
	kind := o.Kind
	if kind < 1 || kind > 4 {
		kind = 0
	}
	w.seen.codes[kind][result.Code]++
	if result.Code != api.CodeOK {
		return
	}
	switch o.Kind {
	case api.OrdCreate, api.OrdResize:
		w.stints[result.Id] = &stint{server: o.Server, sums: []int{0}}
	case api.OrdDelete:
		delete(w.stints, result.Id)
		for job := range w.open {
			if job.node == result.Id {
				delete(w.open, job)
			}
		}
	}
}

// supplies holds every stint that ends with this tick against P16.2.
func (w *watch) supplies(r Report) {
	w.t.Helper()
	for _, m := range r.Marks {
		s := w.stints[m.Id]
		if s == nil {
			w.fails("a node that isn't there", m)
		}
		if !m.Work {
			s.sums = []int{0}
			continue
		}
		last := s.sums[len(s.sums)-1] + count(m.Ran)
		table := w.supplyOf(s.server, len(s.sums))
		for from, sum := range s.sums {
			got, least := last-sum, table[len(s.sums)-from]
			if got < least {
				w.fails("it was charged too little", m, s.server, len(s.sums)-from, got, least)
			}
			w.seen.bare[s.server.Kind] += count(got == least && got > 0)
		}
		s.sums = append(s.sums, last)
	}
}

// supplyOf is a server's supply in 0 to some ticks.
func (w *watch) supplyOf(s api.Server, ticks int) []int {
	for l := len(w.table[s]); l <= ticks; l++ {
		least, err := supply.Bound(s, l)
		if err != nil {
			w.fails("no supply", s, l)
		}
		w.table[s] = append(w.table[s], least)
	}
	return w.table[s]
}

// below holds who was charged against P16.4.
func (w *watch) below(t api.Tree, r Report) {
	w.t.Helper()
	if len(r.Marks) != len(t.Nodes) || len(w.stints) != len(t.Nodes) {
		w.fails("not all nodes are told", r)
	}
	charged := map[int]int{} // by node and the root: how many kids were
	for i, n := range t.Nodes {
		if r.Marks[i].Id != n.Id {
			w.fails("nodes aren't told by rising Id", r)
		}
		charged[n.Parent] += count(r.Marks[i].Ran)
	}
	if charged[0] > 1 || charged[0] != count(r.Node != 0) {
		w.fails("kids of the root were charged", charged, r)
	}
	for i, n := range t.Nodes {
		by := charged[n.Id]
		if n.Policy != 0 {
			by += count(r.Node == n.Id)
		}
		if by != count(r.Marks[i].Ran) || by > 0 && !r.Marks[i].Work {
			w.fails("it was charged otherwise than those below it", n, r)
		}
		w.seen.deep[tree.Depth(t, n.Id)] += by
	}
}

// deadlines holds the job that ran, and all that wait, against P16.3.
func (w *watch) deadlines(t api.Tree, r Report) {
	w.t.Helper()
	if r.Node == 0 {
		if r.Job != (api.Job{}) || r.Ended {
			w.fails("a job, and nothing ran", r)
		}
	} else {
		w.ran(t, r)
	}
	for job, deadline := range w.open {
		if deadline <= w.h.Now() {
			w.fails("a job is late", job, deadline)
		}
	}
	if got := w.h.Late(); got != 0 {
		w.fails("Late", got)
	}
}

func (w *watch) ran(t api.Tree, r Report) {
	w.t.Helper()
	job := name{r.Node, r.Job.Task, r.Job.Release}
	deadline, there := w.open[job]
	if !there || deadline != r.Job.Deadline || w.h.Now() > deadline {
		w.fails("it didn't wait, or is late", r, deadline)
	}
	if !r.Ended {
		return
	}
	delete(w.open, job)
	n, _ := tree.Find(t, r.Node)
	w.seen.ended[n.Policy]++
	w.seen.held += count(n.Tasks[job.task].S > 1)
	w.seen.edge += count(w.h.Now() == deadline)
}

// P16.2, P16.3 and P16.4: many scripts, those of tight trees and guests most.
func TestPromisesOfManyScripts(t *testing.T) {
	var all seen
	for seed := range 300 {
		random := rand.New(rand.NewSource(int64(16200 + seed)))
		w := newWatch(t, &all)
		s := newScript(w, w.h, random)
		s.wrong = pick(random, 0, 0, 0.05)
		s.build()
		for range 600 {
			s.step()
		}
	}
	for kind := 1; kind <= 3; kind++ {
		if all.bare[kind] < 500 {
			t.Errorf("servers of kind %d were charged just their supply only %d times", kind, all.bare[kind])
		}
	}
	for depth := 1; depth <= 4; depth++ {
		if all.deep[depth] < 500 {
			t.Errorf("nodes of depth %d ran only %d times", depth, all.deep[depth])
		}
	}
	for kind := 1; kind <= 4; kind++ {
		if all.codes[kind][api.CodeOK] < 100 {
			t.Errorf("orders of kind %d were done only %d times", kind, all.codes[kind][api.CodeOK])
		}
	}
	if all.ended[1] < 1000 || all.ended[2] < 1000 || all.held < 200 || all.waited < 1000 {
		t.Errorf("the scripts are of little use: %+v", all)
	}
}

// crowded are servers that leave next to nothing of the whole: by their shares, or, with a deferrable one, in some intervals.
func crowded() [][]api.Server {
	return [][]api.Server{
		{sporadic(1, 2), sporadic(1, 3), sporadic(1, 7)},
		{sporadic(2, 3), sporadic(1, 4), sporadic(1, 13)},
		{sporadic(2, 5), sporadic(2, 5), sporadic(1, 6)},
		{deferrable(1, 2), sporadic(1, 3)},
		{deferrable(1, 3), sporadic(2, 4)},
		{deferrable(1, 4), sporadic(3, 5)},
		{deferrable(2, 4), sporadic(2, 6)},
		{deferrable(5, 10), sporadic(5, 15)},
		{deferrable(1, 4), sporadic(1, 3), sporadic(1, 4)},
	}
}

// hurried binds a guest into a node: a task of a budget or two, whose period is the least that is admitted, and then its deadline; at times a short one ahead of it, that makes a chunk begin.
func hurried(s *script, n api.Node) api.Order {
	c := n.Server.Q * (1 + s.random.Intn(2))
	o := binds(n.Id, 1+s.random.Intn(2), aTask(c, 256, 256, s.random.Intn(c+1)))
	if s.chance(0.5) {
		o.Tasks = slices.Insert(o.Tasks, 0, aTask(1, min(256, 6*n.Server.T), min(256, 6*n.Server.T), 0))
	}
	o.At = s.h.Now()
	t, last := s.h.Tree(), &o.Tasks[len(o.Tasks)-1]
	s.least(t, o, 256, func(period int) { last.P, last.D = period, period })
	s.least(t, o, last.P, func(deadline int) { last.D = deadline })
	return o
}

// least sets a number of an order to the least with which it is admitted, or to the most that it may be.
func (s *script) least(t api.Tree, o api.Order, most int, set func(int)) {
	set(most + 1 - greatest(most, 1, func(less int) bool {
		set(most + 1 - less)
		_, result := tree.Apply(t, o)
		return result.Code == api.CodeOK
	}))
}

// P16.2, P16.3 and P16.4: the whole is all but full, tasks are in as great a hurry as they may be, and some jobs end at their very deadlines.
func TestPromisesOfFullHosts(t *testing.T) {
	var all seen
	for seed := range 108 {
		random := rand.New(rand.NewSource(int64(16300 + seed)))
		w := newWatch(t, &all)
		s := newScript(w, w.h, random)
		s.churn, s.cut = 0, 0
		list := crowded()[seed%len(crowded())]
		if random.Intn(3) == 0 {
			slices.Reverse(list)
		}
		for i, one := range list {
			if one.Kind != api.KindDeferrable {
				one.Kind = 1 + random.Intn(2)
			}
			s.submit(creates(0, one))
			for range 1 + random.Intn(one.T) {
				s.tick()
			}
			n, _ := tree.Find(w.h.Tree(), i+1)
			s.submit(hurried(s, n))
		}
		for now := range 4000 {
			if now%100 == 0 {
				s.eager, s.turns = pick(random, 0.1, 0.3, 1), pick(random, 0, 0, 2, 20)
			}
			s.step()
		}
	}
	if all.codes[1][api.CodeOK] < 200 || all.codes[4][api.CodeOK] < 200 || all.edge < 5 {
		t.Errorf("the hosts are of little use: %+v", all)
	}
}

// P16.2 and P16.3 at their bounds: a polling server is told of work just behind a boundary, and in its next period a deferrable one that was idle is charged two budgets ahead of it.
func TestTheLastTickAheadOfADeadline(t *testing.T) {
	for _, policy := range []int{api.PolicyDeadline, api.PolicyOrder} {
		w := newWatch(t, &seen{})
		w.submit(creates(0, deferrable(5, 10)), binds(1, policy, aTask(10, 200, 200, 0)))
		for range 10 {
			w.tick()
		}
		// Its boundaries are 10, 25 and 40; one tick less to its deadline, and the job isn't admitted.
		w.submit(creates(0, polling(5, 15)), binds(2, policy, aTask(5, 60, 28, 0)), binds(2, policy, aTask(5, 60, 29, 0)))
		if got := w.tick().Results; !slices.Equal(got, []api.Result{ok(2), refused(api.CodeTight), ok(2)}) {
			t.Fatalf("%v", got)
		}
		if err := w.release(2, 0, 5); err != nil {
			t.Fatal(err)
		}
		for w.h.Now() < 25 {
			w.tick()
		}
		if err := w.release(1, 0, 10); err != nil {
			t.Fatal(err)
		}
		var nodes []int
		for w.h.Now() < 40 {
			nodes = append(nodes, w.tick().Node)
		}
		if want := slices.Concat(slices.Repeat([]int{1}, 10), slices.Repeat([]int{2}, 5)); !slices.Equal(nodes, want) {
			t.Errorf("%v ran; want %v", nodes, want)
		}
		if w.seen.edge != 1 || len(w.h.Jobs(2)) != 0 || w.seen.bare[api.KindPolling] == 0 {
			t.Errorf("%+v, %v", w.seen, w.h.Jobs(2))
		}
	}
}
