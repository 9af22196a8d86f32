package host

import (
	"math"
	"math/rand"
	"slices"
	"testing"

	"almoner/api"
)

// P16.1: rows of calls against the book, every short one and many long ones with fixed seeds.

// shortCalls are what a short row is made of: node 1 is there and bound, 2 may be made, changed and bound.
func shortCalls(p *pair) []func() {
	return []func(){
		func() { p.tick() },
		func() { p.ticks(3) },
		func() { p.release(1, 0, 9) },
		func() { p.release(2, 0, 2) },
		func() { p.submit(creates(0, sporadic(1, 3))) },
		func() { p.submit(resizes(2, polling(1, 4))) },
		func() { p.submit(binds(2, 2, aTask(1, 9, 9, 0))) },
		func() { p.submit(deletes(2)) },
	}
}

func TestEveryShortRow(t *testing.T) {
	const length, choices = 5, 8
	for row := range int(math.Pow(choices, length)) {
		p := newPair(t)
		calls := shortCalls(p)
		p.submit(creates(0, deferrable(1, 3)), binds(1, 1, aTask(2, 12, 12, 1)))
		p.tick()
		for range length {
			calls[row%choices]()
			row /= choices
		}
		p.ticks(4)
	}
}

// P16.1, many long rows on two hosts at once, that share nothing.
func TestManyRows(t *testing.T) {
	random := rand.New(rand.NewSource(161))
	var all tally
	for range 300 {
		var two []*script
		for range 2 {
			p := newPair(t)
			s := newScript(p, p.h, random)
			s.wrong, s.bold = pick(random, 0, 0.05, 0.3), pick(random, 0.02, 0.1, 1)
			s.build()
			two = append(two, s)
		}
		for range 300 {
			i := random.Intn(2)
			r := two[i].step()
			two[1-i].driver.(*pair).same("a call of another")
			all.notes(r, two[i].h.Waiting())
		}
	}
	// CodeFull and CodeDeep are asked elsewhere.
	for _, code := range []int{0, 1, 2, 3, 4, 7, 8} {
		if all.codes[code] < 100 {
			t.Errorf("orders came to the code %d only %d times", code, all.codes[code])
		}
	}
	if all.waited < 1000 || all.ended < 1000 || all.idle < 1000 {
		t.Errorf("the rows are of little use: %+v", all)
	}
}

// tally counts what rows came to.
type tally struct {
	codes  [9]int // orders that were done or refused, by code
	waited int    // ticks in which orders waited on
	ended  int    // jobs
	idle   int    // nodes that had work and didn't run
}

func (a *tally) notes(r Report, waiting int) {
	for _, result := range r.Results {
		a.codes[result.Code]++
	}
	a.waited += count(waiting > 0)
	a.ended += count(r.Ended)
	for _, m := range r.Marks {
		a.idle += count(m.Work && !m.Ran)
	}
}

// Rows from a tree with as many nodes as there may be.
func TestRowsFromACrowd(t *testing.T) {
	random := rand.New(rand.NewSource(162))
	var all tally
	for range 3 {
		p := crowd(t)
		for id := 9; id <= 64; id++ {
			if random.Intn(3) > 0 {
				p.submit(binds(id, 1+random.Intn(2), aTask(1, 256, 256, 0)))
			}
		}
		s := newScript(p, p.h, random)
		s.tight, s.bold, s.eager = false, 0.1, 1
		for range 300 {
			all.notes(s.step(), p.h.Waiting())
		}
	}
	if all.ended < 20 || all.codes[api.CodeFull] == 0 {
		t.Errorf("the rows are of little use: %+v", all)
	}
}

// P16.1: two hosts under the same calls tell the same, whatever a third one does.
func TestTwoHostsTellTheSame(t *testing.T) {
	for seed := range 10 {
		both := &twins{t: t, one: New(), other: New()}
		s := newScript(both, both.one, rand.New(rand.NewSource(int64(1630+seed))))
		s.wrong = 0.05
		third := newWatch(t, &seen{})
		noise := newScript(third, third.h, rand.New(rand.NewSource(int64(seed))))
		s.build()
		noise.build()
		for range 150 {
			s.step()
			noise.step()
		}
	}
}

// twins are two hosts under the same calls.
type twins struct {
	t          *testing.T
	one, other *Host
}

func (w *twins) submit(list ...api.Order) {
	for _, o := range list {
		w.one.Submit(o)
		w.other.Submit(o)
	}
}

func (w *twins) release(id, task, ticks int) error {
	w.t.Helper()
	a, b := w.one.Release(id, task, ticks), w.other.Release(id, task, ticks)
	if a != b {
		w.t.Fatalf("Release of %d, %d, %d: %v and %v", id, task, ticks, a, b)
	}
	return a
}

func (w *twins) tick() Report {
	w.t.Helper()
	a, b := w.one.Tick(), w.other.Tick()
	if !sameReport(a, b) || !sameTree(w.one.Tree(), w.other.Tree()) {
		w.t.Fatalf("Tick: %+v and %+v", a, b)
	}
	if w.one.Now() != w.other.Now() || w.one.Waiting() != w.other.Waiting() || w.one.Late() != w.other.Late() {
		w.t.Fatal("Now, Waiting or Late")
	}
	for _, n := range w.one.Tree().Nodes {
		if !slices.Equal(w.one.Jobs(n.Id), w.other.Jobs(n.Id)) {
			w.t.Fatalf("Jobs of %d", n.Id)
		}
	}
	return a
}

// What is asked twice is told twice: questions change nothing.
func TestQuestionsChangeNothing(t *testing.T) {
	asked, left := newPair(t), newPair(t)
	for _, p := range []*pair{asked, left} {
		p.submit(creates(0, sporadic(3, 5)), binds(1, 1, aTask(3, 20, 20, 0)), creates(0, polling(1, 10)), deletes(2), creates(0, sporadic(2, 5)))
	}
	for now := range 60 {
		for range 5 {
			asked.h.Now()
			asked.h.Late()
			asked.h.Waiting()
			asked.h.Tree()
			asked.h.Jobs(1)
			asked.h.Jobs(now)
		}
		asked.h.Release(1, 0, 2)
		left.h.Release(1, 0, 2)
		if a, b := asked.h.Tick(), left.h.Tick(); !sameReport(a, b) {
			t.Fatalf("%+v; not asked: %+v", a, b)
		}
	}
}
