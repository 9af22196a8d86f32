package host

import (
	"math/rand"
	"slices"
	"testing"

	"almoner/api"
)

// What is handed in is neither changed nor kept, and answers are new memory: whatever is written over.

// smear is a pair that writes over all that goes in and comes out of its host, behind each call.
type smear struct {
	*pair
}

func (s smear) submit(list ...api.Order) {
	s.t.Helper()
	for _, o := range list {
		s.book.submit(o)
		// The spare room is told apart from what is handed in.
		room := append(slices.Clone(o.Tasks), aTask(-7, -7, -7, -7), aTask(-8, -8, -8, -8))
		handed := o
		handed.Tasks = room[:len(o.Tasks)]
		s.h.Submit(handed)
		if !slices.Equal(handed.Tasks, o.Tasks) || room[len(o.Tasks)].C != -7 || room[len(o.Tasks)+1].C != -8 {
			s.fails("Submit", "what was handed in", room, o.Tasks)
		}
		for i := range room {
			room[i] = aTask(99, 1, 1, 99)
		}
		s.same("Submit")
	}
}

func (s smear) tick() Report {
	s.t.Helper()
	got, want := s.h.Tick(), s.book.tick()
	if !sameReport(got, want) {
		s.fails("a tick", "Tick", got, want)
	}
	for i := range got.Results {
		got.Results[i] = api.Result{Code: 99, Id: 99}
	}
	for i := range got.Marks {
		got.Marks[i] = Mark{Id: -1, Work: true, Ran: true}
	}
	_ = append(got.Results, api.Result{Code: 98})
	_ = append(got.Marks, Mark{Id: -2})
	s.smearTree()
	for id := range s.book.tree.Last + 1 {
		s.smearJobs(id)
	}
	s.same("Tick")
	return want
}

func (s smear) smearTree() {
	got := s.h.Tree()
	for i := range got.Nodes {
		for k := range got.Nodes[i].Tasks {
			got.Nodes[i].Tasks[k] = aTask(99, 1, 1, 99)
		}
		got.Nodes[i].Tasks = append(got.Nodes[i].Tasks, aTask(98, 1, 1, 98))
		got.Nodes[i] = api.Node{Id: -1, Parent: -1, Policy: 1 - got.Nodes[i].Policy}
	}
	for i := range got.Ghosts {
		got.Ghosts[i] = api.Ghost{Parent: -1, Until: -1}
	}
	_ = append(got.Nodes, api.Node{Id: 1000})
	_ = append(got.Ghosts, api.Ghost{Parent: 1000})
}

func (s smear) smearJobs(id int) {
	got := s.h.Jobs(id)
	for i := range got {
		got[i] = api.Job{Task: -1, Deadline: -1, Left: -1, Done: 99}
	}
	_ = append(got, api.Job{Task: -2})
}

func TestNothingIsShared(t *testing.T) {
	random := rand.New(rand.NewSource(164))
	for range 30 {
		p := smear{newPair(t)}
		s := newScript(p, p.h, random)
		s.wrong, s.bold = 0.05, 0.3
		s.build()
		for range 100 {
			s.step()
		}
	}
}

// No two lists of one answer, or of two, share memory.
func TestListsOfAnAnswerShareNothing(t *testing.T) {
	p := newPair(t)
	p.submit(creates(0, sporadic(3, 10)), creates(0, sporadic(3, 10)), creates(0, polling(1, 20)), deletes(3))
	task := aTask(1, 100, 100, 0)
	p.submit(binds(1, 1, task, task), binds(2, 1, task, task))
	p.tick()
	first, second := p.h.Tree(), p.h.Tree()
	first.Nodes[0].Tasks[0].C = 50
	first.Nodes[0].Tasks = append(first.Nodes[0].Tasks, aTask(51, 1, 1, 1))
	first.Ghosts[0].Until = 52
	if first.Nodes[1].Tasks[0] != task || !sameTree(second, p.book.tree) || !sameTree(p.h.Tree(), p.book.tree) {
		t.Errorf("%+v, %+v", first, second)
	}
	p.is(nil, 1, 0, 1)
	p.is(nil, 1, 1, 1)
	jobs, again := p.h.Jobs(1), p.h.Jobs(1)
	jobs[0].Left = 50
	if again[0].Left != 1 || p.h.Jobs(1)[0].Left != 1 {
		t.Errorf("%v, %v", jobs, again)
	}
	one := p.tick()
	p.submit(deletes(9))
	kept := Report{Time: one.Time, Results: slices.Clone(one.Results), Marks: slices.Clone(one.Marks), Node: one.Node, Job: one.Job, Ended: one.Ended}
	p.ticks(5)
	if !sameReport(one, kept) {
		t.Errorf("an older report became %+v; it was %+v", one, kept)
	}
}
