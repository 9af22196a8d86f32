package host

import (
	"math"
	"slices"
	"testing"

	"almoner/api"
)

// P16.1: the examples, the edges that the chapter names, and wrong inputs. Every call is held against the book, too.

func TestTheExample(t *testing.T) {
	p := newPair(t)
	p.submit(creates(0, deferrable(5, 10)), binds(1, api.PolicyDeadline, aTask(1, 20, 20, 0)))
	p.does(ok(1), ok(1))
	p.is(nil, 1, 0, 1)
	want := Report{
		Time: 1, Marks: []Mark{{Id: 1, Work: true, Ran: true}}, Node: 1,
		Job: api.Job{Task: 0, Release: 1, Deadline: 21, Left: 0, Done: 1}, Ended: true,
	}
	if got := p.tick(); !sameReport(got, want) {
		t.Errorf("Tick: %+v; want %+v", got, want)
	}
}

// The document's fifth and seventh examples.
func TestExamplesOfTheWhole(t *testing.T) {
	p := newPair(t)
	p.submit(creates(0, deferrable(5, 10)), binds(1, api.PolicyDeadline, aTask(2, 60, 60, 0)))
	p.tick()
	p.is(nil, 1, 0, 9)
	p.runs(1, 1, 0, 0, 0)
	p.is(api.ErrBusy, 1, 0, 9)

	q := newPair(t)
	q.submit(creates(0, sporadic(5, 10)), creates(1, polling(1, 40)), deletes(1))
	q.does(ok(1), ok(2), refused(api.CodeKids))
	q.submit(deletes(2), deletes(1))
	q.does(ok(2))
	if got := q.h.Tree(); len(got.Ghosts) != 1 || got.Ghosts[0].Parent != 1 || q.h.Waiting() != 1 {
		t.Errorf("%+v, and %d wait", got, q.h.Waiting())
	}
	q.ticks(100)
	if got := q.h.Tree(); len(got.Nodes) != 0 || q.h.Waiting() != 0 {
		t.Errorf("%+v, and %d wait", got, q.h.Waiting())
	}
}

func TestAnEmptyHost(t *testing.T) {
	h := New()
	for now := range 5 {
		if h.Now() != now || h.Waiting() != 0 || h.Late() != 0 || !sameTree(h.Tree(), api.Tree{}) {
			t.Fatal(h.Now(), h.Waiting(), h.Late(), h.Tree())
		}
		for _, id := range wrongIds() {
			if got := h.Jobs(id); len(got) != 0 {
				t.Fatalf("Jobs of %d: %v", id, got)
			}
			if err := h.Release(id, 0, 1); err != api.ErrGone {
				t.Fatalf("Release of %d: %v", id, err)
			}
		}
		if got := h.Tick(); !sameReport(got, Report{Time: now}) {
			t.Fatalf("Tick: %+v", got)
		}
	}
}

// wrongIds are those of no node, whatever the tree is, but one that has given out many.
func wrongIds() []int {
	return []int{math.MinInt, math.MinInt + 1, -2, -1, 0, 1000, math.MaxInt - 1, math.MaxInt}
}

// Orders of one tick follow one another: each finds what those ahead of it made.
func TestSeveralOrdersInOneTick(t *testing.T) {
	p := newPair(t)
	p.submit(
		creates(0, sporadic(3, 10)), creates(1, polling(1, 40)), creates(2, polling(1, 40)), binds(2, api.PolicyOrder, aTask(1, 200, 200, 0)),
		creates(2, polling(1, 200)), creates(0, deferrable(1, 20)), resizes(3, polling(2, 20)), deletes(9), deletes(3),
	)
	if p.h.Waiting() != 9 {
		t.Errorf("%d wait", p.h.Waiting())
	}
	r := p.does(
		ok(1), ok(2), refused(api.CodeTight), ok(2),
		refused(api.CodeBound), ok(3), ok(3), refused(api.CodeGone), ok(3),
	)
	if want := []Mark{{Id: 1}, {Id: 2}}; !slices.Equal(r.Marks, want) || p.h.Waiting() != 0 {
		t.Errorf("marks %v, %d wait", r.Marks, p.h.Waiting())
	}
	if got := p.tick(); len(got.Results) != 0 {
		t.Errorf("results again: %v", got.Results)
	}
}

// An order's At is the time, whatever it says itself: nothing is refused for it, and no ghost is gone for it.
func TestAtIsTheTime(t *testing.T) {
	p := newPair(t)
	p.ticks(7)
	for i, at := range []int{math.MinInt, -1, 0, 3, 100000, api.MaxTime, api.MaxTime + 1, math.MaxInt} {
		o := creates(0, polling(1, 200))
		o.At = at
		p.submit(o)
		p.does(ok(i + 1))
		if got := p.h.Tree().Now; got != 7+i {
			t.Errorf("the tree's time is %d; want %d", got, 7+i)
		}
	}
	gone := deletes(1)
	gone.At = 5000
	p.submit(gone)
	p.does(ok(1))
	again := creates(0, polling(1, 200))
	again.At = 5000
	p.submit(again)
	p.does()
	if got := p.h.Tree(); len(got.Ghosts) != 1 || p.h.Waiting() != 1 {
		t.Errorf("%+v, and %d wait", got, p.h.Waiting())
	}
}

// The example of trees: a ghost of 2/10 from 5 till 7 leaves no room for 9/10.
func TestAnOrderWaitsForAGhost(t *testing.T) {
	p := newPair(t)
	p.submit(creates(0, polling(2, 10)))
	p.ticks(5)
	p.submit(deletes(1), creates(0, polling(9, 10)))
	p.does(ok(1))
	if got, want := p.h.Tree().Ghosts, []api.Ghost{{Server: polling(2, 10), Until: 7}}; !slices.Equal(got, want) {
		t.Fatalf("ghosts %v", got)
	}
	// Those behind it would be done, or refused, at once.
	p.submit(creates(0, polling(1, 200)), deletes(7), creates(0, api.Server{}))
	p.does()
	if p.h.Waiting() != 4 || p.h.Tree().Now != 6 || len(p.h.Tree().Nodes) != 0 {
		t.Fatal(p.h.Waiting(), p.h.Tree())
	}
	p.does(ok(2), ok(3), refused(api.CodeGone), refused(api.CodeServer))
}

// Without a ghost no order waits.
func TestNoOrderWaitsWithoutAGhost(t *testing.T) {
	p := newPair(t)
	p.submit(creates(0, polling(6, 10)), creates(0, sporadic(4, 10)), binds(1, 1, aTask(6, 10, 10, 0)), creates(1, polling(1, 60)), deletes(1), binds(1, 2, aTask(1, 200, 200, 0)), resizes(1, polling(1, 10)))
	p.does(ok(1), refused(api.CodeTight), refused(api.CodeTight), ok(2), refused(api.CodeKids), refused(api.CodeKids), refused(api.CodeKids))
	for range 7 {
		p.submit(creates(0, polling(1, 200)))
	}
	p.tick()
	p.submit(creates(0, polling(1, 200)), resizes(3, polling(2, 200)))
	p.does(refused(api.CodeFull), refused(api.CodeFull))
	if p.h.Waiting() != 0 {
		t.Errorf("%d wait", p.h.Waiting())
	}
}

// ghostly is a host at 5 with the nodes 1, of 5/10, and 3 below it, and a ghost below the root till 12.
func ghostly(t *testing.T) *pair {
	t.Helper()
	p := newPair(t)
	p.submit(creates(0, sporadic(5, 10)), creates(0, polling(2, 10)), creates(1, polling(1, 80)))
	p.ticks(5)
	p.submit(deletes(2))
	p.does(ok(2))
	if got, want := p.h.Tree().Ghosts, []api.Ghost{{Server: polling(2, 10), Until: 12}}; !slices.Equal(got, want) {
		t.Fatalf("ghosts %v", got)
	}
	return p
}

// An order that comes to nothing without ghosts either waits as long as there is one anywhere, and is refused in just the tick in which it is gone.
func TestOrdersThatWaitAndAreRefused(t *testing.T) {
	for _, one := range []struct {
		order api.Order
		code  int
	}{
		{creates(0, sporadic(5, 10)), api.CodeTight},
		{creates(3, polling(1, 80)), api.CodeTight},
		{resizes(3, polling(9, 10)), api.CodeTight},
		{binds(3, 1, aTask(1, 1, 1, 0)), api.CodeTight},
		{resizes(1, sporadic(5, 10)), api.CodeKids},
		{deletes(1), api.CodeKids},
		{binds(1, 2, aTask(1, 200, 200, 0)), api.CodeKids},
	} {
		p := ghostly(t)
		p.submit(one.order, deletes(8))
		for range 6 {
			p.does()
		}
		if got := p.h.Tree(); p.h.Now() != 12 || p.h.Waiting() != 2 || got.Now != 11 || len(got.Ghosts) != 1 {
			t.Fatalf("%+v at %d: %+v, %d wait", one.order, p.h.Now(), got, p.h.Waiting())
		}
		p.does(refused(one.code), refused(api.CodeGone))
	}
}

// CodeFull is the code of one more that may wait: eight servers counted below the root, one of them a ghost.
func TestAFullRootWaits(t *testing.T) {
	p := newPair(t)
	for range 8 {
		p.submit(creates(0, polling(1, 200)))
	}
	p.tick()
	p.submit(deletes(5), creates(0, polling(1, 200)), resizes(1, polling(1, 100)))
	p.does(ok(5))
	until := p.h.Tree().Ghosts[0].Until
	for p.h.Now() < until {
		p.does()
	}
	p.does(ok(9), refused(api.CodeFull))
}

// The other codes are told at once, ghosts or not.
func TestOrdersThatNeverWait(t *testing.T) {
	task := aTask(1, 200, 200, 0)
	p := ghostly(t)
	p.submit(
		creates(0, polling(0, 10)), creates(0, api.Server{}), creates(0, api.Server{Kind: 4, Q: 1, T: 2}), creates(2, polling(1, 100)), creates(-1, polling(1, 100)),
		resizes(1, polling(11, 10)), resizes(0, polling(1, 100)), resizes(2, polling(1, 100)), resizes(math.MaxInt, polling(1, 100)),
		deletes(0), deletes(2), deletes(-1), deletes(4), deletes(math.MinInt),
		binds(3, 0, task), binds(3, 3, task), binds(3, 1), binds(3, 2, aTask(2, 1, 1, 0)), binds(3, 1, slices.Repeat([]api.Task{task}, 9)...), binds(0, 1, task), binds(2, 1, task),
		api.Order{}, api.Order{Kind: 5, Id: 1}, api.Order{Kind: -1, Id: 1, Server: polling(1, 2)}, api.Order{Kind: math.MaxInt}, api.Order{Kind: math.MinInt},
	)
	var want []api.Result
	for _, code := range []int{7, 7, 7, 1, 1, 7, 1, 1, 1, 1, 1, 1, 1, 1, 8, 8, 8, 8, 8, 1, 1, 7, 7, 7, 7, 7} {
		want = append(want, refused(code))
	}
	p.does(want...)
	if len(p.h.Tree().Ghosts) != 1 {
		t.Error("the ghost is gone")
	}
	p.submit(binds(3, 2, aTask(1, 256, 256, 0)), creates(3, polling(1, 250)), binds(3, 1, aTask(1, 256, 256, 0)), resizes(3, polling(1, 200)))
	p.does(ok(3), refused(api.CodeBound), refused(api.CodeBound), refused(api.CodeBound))
}

// Depth and count of nodes: CodeDeep below the fourth level, CodeFull behind 64 nodes.
func TestGreatTrees(t *testing.T) {
	p := newPair(t)
	p.submit(creates(0, sporadic(3, 4)), creates(1, sporadic(5, 10)), creates(2, sporadic(7, 30)), creates(3, polling(5, 100)), creates(4, polling(1, 250)))
	p.does(ok(1), ok(2), ok(3), ok(4), refused(api.CodeDeep))
	// No ghost makes a tree less deep: the order doesn't wait.
	p.submit(creates(0, polling(1, 100)), deletes(5), creates(4, polling(1, 250)))
	p.does(ok(5), ok(5), refused(api.CodeDeep))

	q := crowd(t)
	q.submit(creates(1, polling(1, 256)), creates(9, polling(1, 256)))
	q.does(refused(api.CodeFull), refused(api.CodeFull))
}

// crowd is a host with 64 nodes, 8 below the root and 7 below each of these.
func crowd(t *testing.T) *pair {
	t.Helper()
	p := newPair(t)
	for range 8 {
		p.submit(creates(0, sporadic(1, 10)))
	}
	p.tick()
	for kid := range 56 {
		p.submit(creates(1+kid%8, []api.Server{polling(1, 120), sporadic(1, 121)}[kid%2]))
	}
	p.tick()
	if got := len(p.h.Tree().Nodes); got != 64 {
		t.Fatalf("%d nodes", got)
	}
	return p
}

// What Apply did to Now and the ghosts stays while an order waits; else the tree stands still.
func TestTheTreeWhileAnOrderWaits(t *testing.T) {
	p := newPair(t)
	p.submit(creates(0, polling(2, 10)), creates(0, polling(3, 10)), creates(0, polling(1, 10)))
	p.ticks(5)
	if got := p.h.Tree().Now; got != 0 {
		t.Errorf("no order came, and the tree's time is %d", got)
	}
	p.submit(deletes(1))
	p.ticks(2)
	p.submit(deletes(2))
	p.tick()
	first, second := p.h.Tree().Ghosts[0].Until, p.h.Tree().Ghosts[1].Until
	if first >= second {
		t.Fatalf("ghosts till %d and %d", first, second)
	}
	// Nothing waits: both ghosts are told on, though the time of one is over.
	for p.h.Now() <= first {
		p.tick()
	}
	if got := p.h.Tree(); len(got.Ghosts) != 2 || got.Now != 7 {
		t.Errorf("%+v", got)
	}
	p.submit(creates(0, polling(10, 10)))
	for p.h.Now() < second {
		p.does()
		if got := p.h.Tree(); len(got.Ghosts) != 1 || got.Ghosts[0].Until != second || got.Now != p.h.Now()-1 {
			t.Fatalf("at %d: %+v", p.h.Now(), got)
		}
	}
	p.does(refused(api.CodeTight))
	if got := p.h.Tree(); len(got.Ghosts) != 0 || got.Now != second {
		t.Errorf("%+v", got)
	}
}

// runner is a host whose node 1 has a job of 40 ticks, and runs from 1 on, eight ticks of ten.
func runner(t *testing.T) *pair {
	t.Helper()
	p := newPair(t)
	p.submit(creates(0, sporadic(8, 10)), binds(1, 1, aTask(40, 250, 250, 0)))
	p.tick()
	p.is(nil, 1, 0, 40)
	p.runs(1)
	return p
}

// Orders are done while another node runs, which goes on.
func TestOrdersWhileAnotherRuns(t *testing.T) {
	p := runner(t)
	for _, one := range []struct {
		order api.Order
		marks []Mark
	}{
		{creates(0, deferrable(1, 40)), []Mark{{Id: 1, Work: true, Ran: true}, {Id: 2}}},
		{resizes(2, polling(1, 40)), []Mark{{Id: 1, Work: true, Ran: true}, {Id: 2}}},
		{resizes(2, sporadic(1, 50)), []Mark{{Id: 1, Work: true, Ran: true}, {Id: 2}}},
		{binds(2, 2, aTask(1, 200, 200, 0)), []Mark{{Id: 1, Work: true, Ran: true}, {Id: 2}}},
		{deletes(2), []Mark{{Id: 1, Work: true, Ran: true}}},
	} {
		p.submit(one.order)
		r := p.tick()
		if len(r.Results) != 1 || r.Results[0].Code != api.CodeOK || r.Node != 1 || !slices.Equal(r.Marks, one.marks) {
			t.Errorf("%+v: %+v", one.order, r)
		}
	}
}

// The running node itself is deleted: its job is gone with it.
func TestTheRunningNodeIsDeleted(t *testing.T) {
	p := runner(t)
	p.submit(deletes(1))
	p.is(api.ErrBusy, 1, 0, 1)
	if r := p.tick(); r.Node != 0 || len(r.Marks) != 0 || len(p.h.Jobs(1)) != 0 || p.h.Late() != 0 {
		t.Errorf("%+v", r)
	}
	p.is(api.ErrGone, 1, 0, 1)
	p.ticks(300)
}

// A node had a kid, whose ghost is gone, and is bound: it keeps its server, with its budget and its boundaries.
func TestABoundNodeKeepsItsServer(t *testing.T) {
	p := newPair(t)
	p.submit(creates(0, deferrable(3, 20)), creates(1, sporadic(1, 60)), binds(2, 1, aTask(1, 250, 250, 0)))
	p.tick()
	p.is(nil, 2, 0, 1)
	p.runs(2)
	p.submit(deletes(2), binds(1, 1, aTask(5, 200, 200, 0)))
	p.does(ok(2))
	if got := p.h.Tree().Ghosts; len(got) != 1 || got[0].Until != 37 {
		t.Fatalf("ghosts %v", got)
	}
	for p.h.Now() < 37 {
		p.does()
	}
	p.does(ok(1))
	p.is(nil, 1, 0, 5)
	if got, want := ranAt(p, 1, 40), []int{38, 39, 40, 41, 42}; !slices.Equal(got, want) {
		t.Errorf("it ran at %v; want %v", got, want)
	}
}

// ranAt is the ticks, of the next ones, in which a node's guest runs.
func ranAt(p *pair, id, ticks int) []int {
	p.t.Helper()
	var list []int
	for range ticks {
		if r := p.tick(); r.Node == id {
			list = append(list, r.Time)
		}
	}
	return list
}

// A resized node has nothing of its old server: neither its budget nor its boundaries.
func TestAResizedNodeIsMadeAnew(t *testing.T) {
	task := aTask(3, 200, 200, 0)
	for _, one := range []struct {
		old, server api.Server
		runs        []int // the ticks, from 4 on, in which it runs
	}{
		{deferrable(5, 10), polling(3, 20), []int{23, 24, 25}},
		{deferrable(5, 10), sporadic(2, 20), []int{4, 5, 24}},
		{polling(2, 10), polling(2, 10), []int{13, 14, 23}},
		{polling(2, 10), deferrable(1, 10), []int{4, 13, 23}},
		{sporadic(2, 10), polling(2, 4), []int{7, 8, 11}},
		{sporadic(2, 10), sporadic(2, 10), []int{4, 5, 14}},
		{sporadic(2, 10), deferrable(2, 20), []int{4, 5, 23}},
	} {
		p := newPair(t)
		p.submit(creates(0, one.old))
		p.ticks(3)
		p.submit(resizes(1, one.server), binds(1, 1, task))
		p.does(ok(1), ok(1))
		p.is(nil, 1, 0, 3)
		if got := ranAt(p, 1, 40); !slices.Equal(got, one.runs) {
			t.Errorf("%v to %v: it ran at %v; want %v", one.old, one.server, got, one.runs)
		}
	}
}

// Of nodes with the same deadline the least Id is taken: whichever began earlier, and whichever ran.
func TestTheSameDeadline(t *testing.T) {
	p := newPair(t)
	p.submit(creates(0, sporadic(2, 10)), creates(0, sporadic(2, 10)), creates(0, sporadic(2, 10)))
	for id := 1; id <= 3; id++ {
		p.submit(binds(id, 1, aTask(2, 60, 60, 0)))
	}
	p.tick()
	for id := 3; id >= 1; id-- {
		p.is(nil, id, 0, 2)
	}
	p.runs(1, 1, 2, 2, 3, 3, 0)

	q := newPair(t)
	q.submit(creates(0, sporadic(3, 8)), creates(0, sporadic(4, 10)), binds(1, 1, aTask(2, 60, 60, 0)), binds(2, 1, aTask(4, 60, 60, 4)))
	q.tick()
	q.is(nil, 2, 0, 4)
	q.runs(2, 2)
	// The deadline of both is 11.
	q.is(nil, 1, 0, 2)
	q.runs(1, 1, 2, 2, 0)
}

// The least deadline is taken, not the least Id, period or budget; and it is that of the chunk, not of the job.
func TestTheLeastDeadline(t *testing.T) {
	p := newPair(t)
	p.submit(creates(0, sporadic(2, 20)), creates(0, sporadic(2, 9)), creates(0, sporadic(1, 12)))
	p.submit(binds(1, 1, aTask(2, 45, 45, 0)), binds(2, 1, aTask(2, 200, 200, 0)), binds(3, 1, aTask(1, 100, 90, 0)))
	p.tick()
	for id := 1; id <= 3; id++ {
		p.is(nil, id, 0, 2)
	}
	p.runs(2, 2, 3, 1, 1, 0)
}

// Below each node its own kids' deadlines count: the way down goes by them level by level.
func TestNodesSomeLevelsDeep(t *testing.T) {
	p := newPair(t)
	p.submit(creates(0, sporadic(3, 4)), creates(1, sporadic(5, 10)), creates(2, sporadic(7, 30)), creates(3, polling(5, 100)))
	p.submit(creates(0, polling(1, 12)), creates(1, sporadic(1, 12)))
	p.does(ok(1), ok(2), ok(3), ok(4), ok(5), ok(6))
	p.submit(binds(4, 1, aTask(2, 250, 250, 0)), binds(5, 1, aTask(1, 60, 60, 0)), binds(6, 2, aTask(1, 60, 60, 0)))
	p.does(ok(4), ok(5), ok(6))
	for _, id := range []int{4, 5, 6} {
		p.is(nil, id, 0, 2)
	}
	// 4 is polled at 100 alone, 5 at 12.
	if r := p.tick(); r.Node != 6 || !slices.Equal(r.Marks, []Mark{{1, true, true}, {2, false, false}, {3, false, false}, {4, true, false}, {5, true, false}, {6, true, true}}) {
		t.Errorf("%+v", r)
	}
	for p.h.Now() < 100 {
		p.tick()
	}
	p.is(nil, 6, 0, 1)
	// The kids 2 and 6 of 1 are both ready: 2 ends its period at 110, 6 at 112.
	if r := p.tick(); r.Node != 4 || !slices.Equal(r.Marks, []Mark{{1, true, true}, {2, true, true}, {3, true, true}, {4, true, true}, {5, false, false}, {6, true, false}}) {
		t.Errorf("%+v", r)
	}
	p.runs(4, 6, 0)
}

// A bound node whose guest has no work isn't run, and its parent isn't, whatever budget they have.
func TestABoundNodeWithoutWork(t *testing.T) {
	task := aTask(1, 200, 200, 0)
	p, q := newPair(t), newPair(t)
	p.submit(creates(0, deferrable(5, 10)), creates(1, sporadic(1, 40)), binds(2, 1, task))
	q.submit(creates(0, polling(2, 10)), creates(0, deferrable(5, 10)), binds(1, 1, task), binds(2, 1, task))
	for range 50 {
		for _, one := range []*pair{p, q} {
			if r := one.tick(); r.Node != 0 || !slices.Equal(r.Marks, []Mark{{Id: 1}, {Id: 2}}) {
				t.Fatalf("%+v", r)
			}
		}
	}
}

// A node with budget, whose kids have work and no budget: nothing runs, and there is no work for it.
func TestKidsWithoutBudget(t *testing.T) {
	p := newPair(t)
	p.submit(creates(0, deferrable(5, 10)), creates(1, sporadic(1, 40)), binds(2, 1, aTask(2, 200, 200, 0)))
	p.tick()
	p.is(nil, 2, 0, 2)
	p.runs(2)
	for p.h.Now() < 41 {
		if r := p.tick(); r.Node != 0 || !slices.Equal(r.Marks, []Mark{{Id: 1}, {Id: 2, Work: true}}) {
			t.Fatalf("%+v", r)
		}
	}
	p.runs(2, 0)
}

// A release is at the time of just now: ahead of the tick in which the node is bound there is no guest, behind it there is, and none behind the one in which it is gone.
func TestReleaseAboutTheOrders(t *testing.T) {
	p := newPair(t)
	p.is(api.ErrGone, 1, 0, 1)
	p.submit(creates(0, deferrable(5, 10)))
	p.is(api.ErrGone, 1, 0, 1)
	p.tick()
	p.is(api.ErrGone, 1, 0, 1)
	p.submit(binds(1, 1, aTask(2, 20, 20, 0)))
	p.is(api.ErrGone, 1, 0, 1)
	p.tick()
	p.is(nil, 1, 0, 1)
	if got, want := p.h.Jobs(1), []api.Job{{Task: 0, Release: 2, Deadline: 22, Left: 1}}; !slices.Equal(got, want) {
		t.Errorf("Jobs: %v; want %v", got, want)
	}
	for p.h.Now() < 22 {
		p.is(api.ErrBusy, 1, 0, 1)
		p.tick()
	}
	p.submit(deletes(1))
	p.is(nil, 1, 0, 1)
	p.tick()
	p.is(api.ErrGone, 1, 0, 1)
	if len(p.h.Jobs(1)) != 0 {
		t.Errorf("Jobs: %v", p.h.Jobs(1))
	}
}

// Ids that aren't there, aren't bound, are the root's or below it, or were deleted; ErrGone comes ahead of what the guest refuses.
func TestReleaseOfWrongIds(t *testing.T) {
	p := ghostly(t)
	p.submit(binds(3, 2, aTask(1, 256, 256, 0)))
	p.tick()
	for _, id := range append(wrongIds(), 1, 2, 4) {
		for _, task := range []int{math.MinInt, -1, 0, 1, math.MaxInt} {
			p.is(api.ErrGone, id, task, 1)
		}
		if got := p.h.Jobs(id); len(got) != 0 {
			t.Errorf("Jobs of %d: %v", id, got)
		}
	}
	p.is(nil, 3, 0, 1)
}

// What the guest refuses is refused, and its ticks are cut.
func TestReleaseOfWrongTasks(t *testing.T) {
	p := newPair(t)
	p.submit(creates(0, sporadic(9, 10)), binds(1, 2, aTask(3, 100, 100, 0), aTask(2, 100, 100, 1)))
	p.tick()
	for _, task := range []int{math.MinInt, -2, -1, 2, 3, 8, math.MaxInt} {
		p.is(api.ErrNumber, 1, task, 1)
	}
	for _, ticks := range []int{math.MinInt, -1, 0, 1, 2, 3, 4, 100, math.MaxInt} {
		p.is(nil, 1, 0, ticks)
		p.is(api.ErrBusy, 1, 0, ticks)
		p.is(nil, 1, 1, ticks)
		jobs := p.h.Jobs(1)
		if len(jobs) != 2 || jobs[0].Left != min(3, max(1, ticks)) || jobs[1].Left != min(2, max(1, ticks)) {
			t.Errorf("%d ticks: %v", ticks, jobs)
		}
		p.ticks(100)
	}
}

// Late counts jobs with a deadline of just the time. The host's promise is that there are none: the time is set here.
func TestLateAtItsEdge(t *testing.T) {
	h := New()
	h.Submit(creates(0, deferrable(5, 10)))
	h.Submit(creates(0, sporadic(1, 10)))
	h.Submit(creates(0, polling(1, 20)))
	h.Submit(binds(1, 1, aTask(1, 60, 30, 0), aTask(1, 60, 40, 0)))
	h.Submit(binds(2, 2, aTask(1, 60, 30, 0)))
	h.Tick()
	if h.Release(1, 0, 1) != nil || h.Release(1, 1, 1) != nil || h.Release(2, 0, 1) != nil {
		t.Fatal("not released")
	}
	for _, one := range [][2]int{{1, 0}, {30, 0}, {31, 2}, {32, 2}, {40, 2}, {41, 3}, {1000, 3}} {
		h.now = one[0]
		if got := h.Late(); got != one[1] {
			t.Errorf("Late at %d: %d; want %d", one[0], got, one[1])
		}
	}
}
