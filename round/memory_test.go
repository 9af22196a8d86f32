package round

import (
	"slices"
	"testing"

	"almoner/api"
)

// P19.1: what is handed in is neither changed nor kept, and what is handed out is new memory.

// handed is a ledger with spare room behind it, and behind its first entry's tasks.
func handed() []api.Entry {
	list := slices.Grow([]api.Entry{binds(1, 1, 3), creates(2, 2), binds(3, 3, 8), binds(3, 4, 8), deletes(4, 5)}, 3)
	list[0].Order.Tasks = append(list[0].Order.Tasks, api.Task{C: 77})[:3]
	return list
}

// smear writes over a ledger, its tasks, and the room behind both.
func smear(ledger []api.Entry) {
	for i := range ledger {
		smearTasks(ledger[i].Order.Tasks)
		ledger[i].Client, ledger[i].Number, ledger[i].Order.Id = -6, -7, -8
	}
	_ = append(ledger, api.Entry{Client: -9})
}

func smearTasks(tasks []api.Task) {
	for i := range tasks {
		tasks[i] = api.Task{C: -1, P: -2, D: -3, S: -4}
	}
	_ = append(tasks, api.Task{C: -5})
}

func TestNewKeepsNothing(t *testing.T) {
	e := binds(9, 99, 3)
	e.Order.Tasks = append(e.Order.Tasks, api.Task{C: 77})[:3]
	p := newPair(t, 1, e, false)
	if !sameEntry(e, binds(9, 99, 3)) || e.Order.Tasks[:4][3].C != 77 {
		t.Fatalf("New changed %+v", e)
	}
	smearTasks(e.Order.Tasks)
	p.begins(nil, ballot(4, 0))
	p.promises(true, 0, ballot(4, 0), ballot(3, 0), row(2)...)
	smearTasks(e.Order.Tasks)
	p.tells(append(row(2), binds(9, 99, 3))...)
	// Nor does the round hand out its own entry to be written over.
	smear(p.r.Ledger())
	p.begins(nil, ballot(5, 0))
	p.promises(true, 0, ballot(5, 0), none)
	smear(p.r.Ledger())
	p.accepts(true, 0, ballot(5, 0))
	p.tells(binds(9, 99, 3))
}

// One entry for several rounds is each one's own.
func TestRoundsShareNoEntry(t *testing.T) {
	e := binds(9, 99, 3)
	a, b := tellsOf(t, 3, e, false, ballot(4, 0)), tellsOf(t, 3, e, false, ballot(4, 0))
	smear(a.r.Ledger())
	b.tells(binds(9, 99, 3))
	a.tells(binds(9, 99, 3))
}

func TestPromiseKeepsNothing(t *testing.T) {
	for _, reads := range []bool{false, true} {
		p := asks(t, 3, deletes(9, 99), reads, ballot(4, 0))
		l, other := handed(), handed()
		if !p.r.Promise(0, ballot(4, 0), ballot(3, 0), l) || !p.r.Promise(1, ballot(4, 0), ballot(2, 0), other) {
			t.Fatal("promises")
		}
		for _, list := range [][]api.Entry{l, other} {
			if !sameLedger(list, handed()) || list[:6][5].Number != 0 || list[0].Order.Tasks[:4][3].C != 77 {
				t.Fatalf("Promise changed %+v", list[:6])
			}
			smear(list)
		}
		want := handed()
		if !reads {
			want = append(want, deletes(9, 99))
		}
		p.tells(want...)
		p.r.Accepted(0, ballot(4, 0))
		smear(l)
		p.r.Accepted(1, ballot(4, 0))
		p.tells(want...)
		p.stands(StageDone, len(want))
	}
}

// Ahead of the promise that is the last one of more than half too.
func TestPromiseKeepsNothingAsLongAsItAsks(t *testing.T) {
	for _, reads := range []bool{false, true} {
		p := asks(t, 5, deletes(9, 99), reads, ballot(4, 0))
		for from := range 3 {
			l := handed()
			p.r.Promise(from, ballot(4, 0), ballot(3, from%2), l)
			smear(l)
		}
		want := handed()
		if !reads {
			want = append(want, deletes(9, 99))
		}
		p.tells(want...)
	}
}

// Nor is the room behind a ledger used for the entry: of one list two rounds are told.
func TestRoomBehindALedger(t *testing.T) {
	l := slices.Grow(row(3), 4)
	whole := l[:5]
	whole[3], whole[4] = deletes(8, 8), deletes(8, 9)
	a := asks(t, 1, deletes(9, 98), false, ballot(4, 0))
	b := asks(t, 1, deletes(9, 99), false, ballot(4, 0))
	a.promises(true, 0, ballot(4, 0), ballot(3, 0), l...)
	b.promises(true, 0, ballot(4, 0), ballot(3, 0), l...)
	a.tells(append(row(3), deletes(9, 98))...)
	b.tells(append(row(3), deletes(9, 99))...)
	if !sameLedger(whole, append(row(3), deletes(8, 8), deletes(8, 9))) {
		t.Errorf("%+v", whole)
	}
}

// What lies behind a ledger's length isn't read.
func TestWhatLiesBehindALedger(t *testing.T) {
	l := append(row(2), deletes(9, 99))[:2]
	p := tellsOf(t, 3, deletes(9, 99), false, ballot(4, 0), l...)
	p.stands(StageTell, 3)
	p.tells(append(row(2), deletes(9, 99))...)
}

func TestLedgerIsNewMemory(t *testing.T) {
	for _, reads := range []bool{false, true} {
		p := tellsOf(t, 3, binds(9, 99, 2), reads, ballot(4, 0), handed()...)
		want := handed()
		if !reads {
			want = append(want, binds(9, 99, 2))
		}
		older := p.r.Ledger()
		for range 3 {
			smear(p.r.Ledger())
			p.tells(want...)
			p.accepts(true, p.k.missing()[0], ballot(4, 0))
			if p.r.Stage() == StageDone {
				break
			}
		}
		smear(p.r.Ledger())
		p.tells(want...)
		p.stands(StageDone, len(want))
		if !sameLedger(older, want) {
			t.Errorf("%+v", older)
		}
	}
}

// No two lists of one answer share memory, also if those that were handed in did.
func TestListsOfAnAnswerShareNothing(t *testing.T) {
	shared := binds(3, 3, 8)
	for _, reads := range []bool{false, true} {
		p := tellsOf(t, 3, binds(9, 99, 8), reads, ballot(4, 0), shared, shared, shared)
		size := len(p.r.Ledger())
		for at := range size {
			got := p.r.Ledger()
			want := p.r.Ledger()
			smear(got[at : at+1 : at+1])
			for i := range got {
				if i != at && !sameEntry(got[i], want[i]) {
					t.Fatalf("place %d: %+v", i+1, got[i])
				}
			}
		}
	}
}

// What was answered stays as it is, whatever the round does then.
func TestAnswersStay(t *testing.T) {
	p := tellsOf(t, 3, binds(9, 99, 2), false, ballot(4, 0), handed()...)
	older := p.r.Ledger()
	for i := range 5 {
		b := ballot(5+i, 0)
		p.begins(nil, b)
		p.promises(true, 0, b, ballot(4, i), row(10*i)...)
		p.promises(true, 1, b, none)
		if !sameLedger(older, append(handed(), binds(9, 99, 2))) {
			t.Fatalf("%+v", older)
		}
	}
}
