package voter

import (
	"slices"
	"testing"

	"almoner/api"
)

// P18.1: what is handed in is neither changed nor kept, and what is handed out is new memory.

func full() []api.Entry {
	return []api.Entry{binds(1, 3), creates(2), binds(3, 8), binds(3, 8), deletes(4, 4)}
}

// smear writes over a ledger, its tasks, and the room behind both.
func smear(ledger []api.Entry) {
	for i := range ledger {
		tasks := ledger[i].Order.Tasks
		for j := range tasks {
			tasks[j] = api.Task{C: -1, P: -2, D: -3, S: -4}
		}
		_ = append(tasks, api.Task{C: -5})
		ledger[i].Client, ledger[i].Order.Id = -6, -7
	}
	_ = append(ledger, api.Entry{Client: -8})
}

func TestAcceptKeepsNothing(t *testing.T) {
	p := newPair(t, 60, 0)
	for i := range 4 {
		// With spare room behind the ledger and behind the tasks.
		handed := slices.Grow(full(), 3)
		handed[0].Order.Tasks = append(handed[0].Order.Tasks, api.Task{C: 77})[:3]
		p.accepts(nil, ballot(i+1, 0), handed...)
		room := append(handed, deletes(9, 9))
		if !sameLedger(handed, full()) || !sameEntry(room[5], deletes(9, 9)) || handed[0].Order.Tasks[:4][3].C != 77 {
			t.Fatalf("Accept changed %+v", room)
		}
		smear(room)
		p.tells(ballot(i+1, 0), ballot(i+1, 0), full()...)
		// Of a longer one, all but the last stays.
		longer := append(full(), creates(50))
		p.accepts(nil, ballot(i+1, 1), longer...)
		smear(longer)
		p.tells(ballot(i+1, 1), ballot(i+1, 1), append(full(), creates(50))...)
		p.open()
		p.tells(ballot(i+1, 1), ballot(i+1, 1), append(full(), creates(50))...)
	}
}

// Nor does a call that is refused.
func TestRefusedAcceptsKeepNothing(t *testing.T) {
	p := newPair(t, 60, 0)
	p.accepts(nil, ballot(5, 0), full()...)
	for _, b := range []api.Ballot{ballot(5, 0), ballot(4, 0), ballot(0, 0)} {
		handed := append(full(), deletes(-1, 1))
		if p.v.Accept(b, handed) == nil || !sameLedger(handed[:5], full()) || handed[5].Client != -1 {
			t.Fatalf("%+v", handed)
		}
		smear(handed)
		p.tells(ballot(5, 0), ballot(5, 0), full()...)
	}
}

// answers are all ways to be told the ledger.
func answers(p *pair) []func() []api.Entry {
	return []func() []api.Entry{
		func() []api.Entry { _, l := p.v.Accepted(); return l },
		func() []api.Entry { _, l, _ := p.v.Prepare(p.v.Promised()); return l },
		func() []api.Entry {
			b := ballot(p.k.promised.Round+1, 0)
			_, l, _ := p.v.Prepare(b)
			_, _, _ = p.k.prepare(b)
			return l
		},
	}
}

func TestAnswersAreNewMemory(t *testing.T) {
	p := newPair(t, 60, 0)
	p.accepts(nil, ballot(1, 0), full()...)
	for range 3 {
		var older [][]api.Entry
		for _, ask := range answers(p) {
			older = append(older, ask())
		}
		for _, ask := range answers(p) {
			got := ask()
			if !sameLedger(got, full()) {
				t.Fatalf("%+v", got)
			}
			smear(got)
		}
		for _, list := range older {
			if !sameLedger(list, full()) {
				t.Fatalf("%+v", list)
			}
		}
		// Behind an opening too, where the ledger was read.
		p.open()
	}
	// What was smeared isn't written down.
	p.accepts(nil, ballot(99, 0), append(full(), deletes(5, 5))...)
	p.open()
	p.tells(ballot(99, 0), ballot(99, 0), append(full(), deletes(5, 5))...)
}

// No two lists of one answer share memory.
func TestListsOfAnAnswerShareNothing(t *testing.T) {
	shared := binds(3, 8)
	p := newPair(t, 60, 0)
	p.accepts(nil, ballot(1, 0), shared, shared, shared)
	for i := range 2 {
		for _, ask := range answers(p) {
			for at := range 3 {
				got := ask()
				smear(got[at : at+1 : at+1])
				for j, e := range got {
					if j != at && !sameEntry(e, shared) {
						t.Fatalf("opened %d times: %+v", i, e)
					}
				}
			}
		}
		p.open()
	}
}

// What was answered stays as it is, whatever the voter does then.
func TestAnswersStay(t *testing.T) {
	p := newPair(t, 60, 0)
	p.accepts(nil, ballot(1, 0), full()...)
	var older [][]api.Entry
	for _, ask := range answers(p) {
		older = append(older, ask())
	}
	for i := range 10 {
		p.accepts(nil, ballot(9+i, 0), full()[:i%5]...)
		p.accepts(nil, ballot(9+i, 0), row(i)...)
	}
	for _, list := range older {
		if !sameLedger(list, full()) {
			t.Fatalf("%+v", list)
		}
	}
}
