package voter

import (
	"math/rand"
	"testing"

	"almoner/api"
)

// P18.1: rows of calls against the book, every short one, and many on several voters at once.

func shortCalls(p *pair) []func() {
	return []func(){
		func() { _ = p.prepare(ballot(1, 3)) },
		func() { _ = p.prepare(ballot(2, 0)) },
		func() { _ = p.prepare(ballot(1, 4)) },
		func() { _ = p.accept(ballot(1, 4), row(1)) },
		func() { _ = p.accept(ballot(2, 0), row(2)) },
		func() { _ = p.accept(ballot(1, 3), nil) },
		func() { _, _ = p.claim(ballot(0, 0)) },
		func() { p.open() },
	}
}

func TestEveryShortRow(t *testing.T) {
	const length, choices = 5, 8
	rows := 1
	for range length {
		rows *= choices
	}
	for row := range rows {
		// Areas of three sectors, so that the log is full at the third record.
		p := newPair(t, 8, 1)
		calls := shortCalls(p)
		for range length {
			calls[row%choices]()
			row /= choices
		}
		p.crash(0, -1)
		p.open()
	}
}

// Voters on disks of their own share nothing.
func TestRowsOnSeveralVoters(t *testing.T) {
	random := rand.New(rand.NewSource(184))
	came := map[string]int{}
	for range 60 {
		var list []*story
		for range 4 {
			list = append(list, newStory(t, random, came))
		}
		for range 150 {
			list[random.Intn(4)].step(0.1)
			for _, s := range list {
				s.same("a call of one of them")
			}
		}
	}
	asked(t, came, 200, "prepare", "accept", "claim")
}

// Two voters of one disk, of which one was opened ahead of the other, each go on by their own logs.
func TestTwoVotersOfOneDisk(t *testing.T) {
	random := rand.New(rand.NewSource(185))
	for range 200 {
		first := newPair(t, 10+random.Intn(30), 1)
		for range random.Intn(4) {
			_ = first.accept(someBallot(random, first.k.promised), someLedger(random, first.k.ledger))
		}
		second := &pair{t: t, d: first.d, v: first.v, k: first.k}
		second.open()
		for range 40 {
			p := first
			if random.Intn(2) == 0 {
				p = second
			}
			switch random.Intn(3) {
			case 0:
				_ = p.prepare(someBallot(random, p.k.promised))
			case 1:
				_ = p.accept(someBallot(random, p.k.promised), someLedger(random, p.k.ledger))
			case 2:
				_, _ = p.claim(someBallot(random, p.k.promised))
			}
			first.same("a call of one of them")
			second.same("a call of one of them")
		}
		// Whose records stand there then may not fit one another: it is told all the same.
		v, err := Open(first.d, 1)
		k, want := openBook(first.k.d, 1)
		if err != want || (v == nil) != (err != nil) {
			t.Fatalf("Open: %v; want %v", err, want)
		}
		if err == nil {
			first.v, first.k = v, k
			first.same("Open")
		}
	}
}

// Two voters under the same calls answer the same, and write the same bytes, whatever a third one does.
func TestTwoVotersTellTheSame(t *testing.T) {
	for seed := range int64(20) {
		came := map[string]int{}
		var two []*story
		for range 2 {
			two = append(two, newStory(t, rand.New(rand.NewSource(seed)), came))
		}
		other := newStory(t, rand.New(rand.NewSource(seed+100)), came)
		for range 60 {
			two[0].step(0.2)
			other.step(0.2)
			two[1].step(0.2)
		}
		if !two[0].k.is(two[1].k.facts) || !sameImage(image(two[0].d), image(two[1].d)) {
			t.Errorf("seed %d: %+v and %+v", seed, two[0].k.facts, two[1].k.facts)
		}
	}
}

// What an error was answered to has left everything as it was.
func TestRefusedCallsChangeNothing(t *testing.T) {
	random := rand.New(rand.NewSource(186))
	refused := 0
	for range 150 {
		s := newStory(t, random, map[string]int{})
		for range 40 {
			before := s.k.facts
			s.step(0)
			if !s.k.is(before) {
				continue
			}
			ledger := wrongLedger(random, s.k.ledger)
			errors := []error{s.prepare(illegal()[random.Intn(9)]), s.accept(someBallot(random, s.k.promised), ledger)}
			if s.k.promised != ballot(0, 0) {
				errors = append(errors, s.prepare(ballot(s.k.promised.Round, s.k.promised.Node-1)))
			}
			for _, err := range errors {
				if err == nil || !s.k.is(before) {
					t.Fatalf("%v: %+v; want %+v", err, s.k.facts, before)
				}
				refused++
			}
			s.open()
			s.tells(before.promised, before.accepted, before.ledger...)
			own, err := s.claim(api.Ballot{})
			if want := max(before.promised.Round, before.claimed) + 1; err == nil && own != ballot(want, s.k.number) {
				t.Fatalf("%v is claimed; want round %d", own, want)
			}
		}
	}
	if refused < 1000 {
		t.Errorf("only %d calls were refused", refused)
	}
}
