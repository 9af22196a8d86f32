package round

import (
	"slices"
	"testing"

	"almoner/api"
)

// P19.1: the examples, the edges that the chapter names, and wrong inputs.

var first = ballot(1, 0)

// half is how many are more than half of so many nodes.
func half(nodes int) int {
	count := 0
	for 2*count <= nodes {
		count++
	}
	return count
}

// asks is a round that has begun with a ballot.
func asks(t *testing.T, nodes int, e api.Entry, reads bool, b api.Ballot) *pair {
	t.Helper()
	p := newPair(t, nodes, e, reads)
	p.begins(nil, b)
	return p
}

// tellsOf is a round that gathers acceptings, and was told a ledger with ballot {3, 3}.
func tellsOf(t *testing.T, nodes int, e api.Entry, reads bool, b api.Ballot, l ...api.Entry) *pair {
	t.Helper()
	p := asks(t, nodes, e, reads, b)
	for from := range half(nodes) {
		p.promises(true, from, b, ballot(3, 3), l...)
	}
	return p
}

// done is a round that is done.
func done(t *testing.T, nodes int, e api.Entry, reads bool, b api.Ballot, l ...api.Entry) *pair {
	t.Helper()
	p := tellsOf(t, nodes, e, reads, b, l...)
	for from := range half(nodes) {
		p.accepts(true, from, b)
	}
	p.stands(StageDone, p.k.place())
	return p
}

// inEachStage are rounds of so many nodes with a ballot, by their stages; that of stage 0 has none.
func inEachStage(t *testing.T, nodes int, b api.Ballot) []*pair {
	t.Helper()
	list := []*pair{
		newPair(t, nodes, deletes(1, 99), false),
		asks(t, nodes, deletes(1, 99), false, b),
		tellsOf(t, nodes, deletes(1, 99), false, b, row(3)...),
		done(t, nodes, deletes(1, 99), false, b, row(3)...),
		tellsOf(t, nodes, deletes(1, 99), false, b, row(64)...),
	}
	for stage, p := range list {
		if p.r.Stage() != stage {
			t.Fatalf("stage %d; want %d", p.r.Stage(), stage)
		}
	}
	return list
}

func TestStages(t *testing.T) {
	if StageAsk != 1 || StageTell != 2 || StageDone != 3 || StageFull != 4 {
		t.Error("stages")
	}
}

func TestExamples(t *testing.T) {
	e := binds(2, 1, 3)
	p := newPair(t, 3, e, false)
	p.stands(0, 0)
	p.begins(nil, first)
	p.promises(true, 0, first, none)
	p.stands(StageAsk, 0)
	p.promises(false, 0, first, none)
	p.tells()
	p.promises(true, 2, first, none)
	p.stands(StageTell, 1)
	p.tells(e)
	p.accepts(true, 1, first)
	p.stands(StageTell, 1)
	p.accepts(true, 2, first)
	p.stands(StageDone, 1)
	p.tells(e)
}

func TestNewOfNodes(t *testing.T) {
	for nodes := 1; nodes <= 7; nodes++ {
		newPair(t, nodes, deletes(0, 1), false)
		newPair(t, nodes, api.Entry{}, true)
	}
	for _, nodes := range []int{-1 << 63, -7, -1, 0, 8, 9, 64, farthest, 1 << 32, 1<<32 + 1, 1<<63 - 1} {
		isRefused(t, api.ErrNumber, nodes, deletes(0, 1), false)
		isRefused(t, api.ErrNumber, nodes, deletes(0, 1), true)
		// Ahead of the entry.
		isRefused(t, api.ErrNumber, nodes, api.Entry{}, false)
	}
}

// isRefused asks for a New that is.
func isRefused(t *testing.T, want error, nodes int, e api.Entry, reads bool) {
	t.Helper()
	if r, err := New(nodes, e, reads); r != nil || err != want {
		t.Errorf("New of %d nodes, %+v, %v: %v, %v; want %v", nodes, e, reads, r, err, want)
	}
}

func TestNewOfEntries(t *testing.T) {
	for _, e := range outOfForm() {
		if fits(e) {
			t.Fatalf("%+v", e)
		}
		for _, nodes := range []int{1, 3, 7} {
			isRefused(t, api.ErrState, nodes, e, false)
			// A round that reads doesn't look at it.
			p := done(t, nodes, e, true, first, row(2)...)
			p.tells(row(2)...)
			p.stands(StageDone, 2)
		}
	}
	right := []api.Entry{
		deletes(0, 1), deletes(15, farthest), creates(3, 3), binds(15, 1, 0), binds(0, 2, 8),
		{Number: 1, Order: api.Order{Kind: api.OrdResize, Server: api.Server{Kind: farthest, Q: farthest, T: farthest}}},
		{Number: 1, Order: api.Order{Kind: api.OrdDelete, Id: farthest, At: farthest}},
	}
	for _, e := range right {
		p := done(t, 3, e, false, first, row(2)[1])
		p.tells(row(2)[1], e)
		p.stands(StageDone, 2)
	}
}

// Ahead of the first Begin there is nothing to answer to, and no ballot is not one either.
func TestAheadOfTheFirstBegin(t *testing.T) {
	for nodes := 1; nodes <= 7; nodes++ {
		for _, reads := range []bool{false, true} {
			p := newPair(t, nodes, deletes(1, 1), reads)
			for _, b := range []api.Ballot{none, first, ballot(-1, 0)} {
				p.promises(false, 0, b, none)
				p.promises(false, 0, b, b, row(2)...)
				p.accepts(false, 0, b)
			}
			p.misses()
			p.stands(0, 0)
			p.tells()
			p.begins(nil, first)
			p.promises(true, 0, first, none)
		}
	}
}

func TestOneNodeAlone(t *testing.T) {
	p := asks(t, 1, deletes(1, 1), false, ballot(4, 6))
	p.misses(0)
	p.promises(false, 1, ballot(4, 6), none)
	p.promises(true, 0, ballot(4, 6), none)
	p.stands(StageTell, 1)
	p.misses(0)
	p.promises(false, 0, ballot(4, 6), none)
	p.accepts(false, 1, ballot(4, 6))
	p.accepts(true, 0, ballot(4, 6))
	p.stands(StageDone, 1)
	p.misses()
	p.accepts(false, 0, ballot(4, 6))
}

// Just half of the nodes aren't enough, one more are: whoever they are, of each number of nodes.
func TestHalfAndOneMore(t *testing.T) {
	need := []int{0, 1, 2, 2, 3, 3, 4, 4}
	for nodes := 1; nodes <= 7; nodes++ {
		for shift := range nodes {
			p := asks(t, nodes, deletes(1, 1), false, first)
			for i := range need[nodes] {
				p.stands(StageAsk, 0)
				p.promises(true, (i+shift)%nodes, first, none)
			}
			for i := range need[nodes] {
				p.stands(StageTell, 1)
				p.accepts(true, (i*(nodes-1)+shift)%nodes, first)
			}
			p.stands(StageDone, 1)
		}
	}
}

func TestNodesAndOthers(t *testing.T) {
	for nodes := 1; nodes <= 7; nodes++ {
		p := asks(t, nodes, deletes(1, 1), false, first)
		for _, from := range noNodes(nodes) {
			p.promises(false, from, first, ballot(1, 0), row(2)...)
		}
		for i := range half(nodes) {
			p.promises(true, nodes-1-i, first, none)
		}
		p.stands(StageTell, 1)
		for _, from := range noNodes(nodes) {
			p.accepts(false, from, first)
		}
		for i := range half(nodes) {
			p.accepts(true, i, first)
		}
		p.stands(StageDone, 1)
	}
}

// Who has answered doesn't answer again in that stage, whatever it tells; in the next one it does.
func TestAnswersTwice(t *testing.T) {
	for nodes := 3; nodes <= 7; nodes++ {
		p := asks(t, nodes, deletes(1, 1), false, first)
		for i := range half(nodes) {
			p.stands(StageAsk, 0)
			for j := range i {
				p.promises(false, j, first, none)
				p.promises(false, j, first, ballot(9, 0), row(2)...)
			}
			p.promises(true, i, first, none)
		}
		for i := range half(nodes) {
			p.stands(StageTell, 1)
			for j := range i {
				p.accepts(false, j, first)
			}
			p.accepts(true, i, first)
		}
		p.stands(StageDone, 1)
		p.tells(deletes(1, 1))
	}
}

// Answers to other ballots, older and later ones, don't count.
func TestAnswersToOtherBallots(t *testing.T) {
	own := ballot(5, 3)
	others := append(illegal(), ballot(5, 2), ballot(5, 4), ballot(4, 3), ballot(6, 3), ballot(4, 6), ballot(6, 0), ballot(3, 5), ballot(farthest, 6), first)
	for _, stage := range []int{StageAsk, StageTell, StageDone, StageFull} {
		p := inEachStage(t, 3, own)[stage]
		for _, b := range others {
			for from := range 3 {
				p.promises(false, from, b, ballot(4, 0), row(1)...)
				p.accepts(false, from, b)
			}
		}
	}
}

// What was answered to an older ballot of the round itself doesn't count either.
func TestAnswersThatComeLate(t *testing.T) {
	p := asks(t, 3, deletes(1, 1), false, first)
	p.promises(true, 0, first, none)
	p.begins(nil, ballot(2, 0))
	p.promises(false, 1, first, none)
	p.promises(true, 1, ballot(2, 0), none)
	p.promises(true, 0, ballot(2, 0), none)
	p.accepts(false, 0, first)
	p.accepts(true, 0, ballot(2, 0))
	p.begins(nil, ballot(2, 1))
	p.accepts(false, 1, ballot(2, 0))
	p.promises(false, 1, ballot(2, 0), none)
	p.promises(true, 1, ballot(2, 1), none)
	p.promises(true, 2, ballot(2, 1), none)
	p.accepts(false, 1, ballot(2, 0))
	p.accepts(true, 1, ballot(2, 1))
	p.stands(StageTell, 1)
	p.accepts(true, 0, ballot(2, 1))
	p.stands(StageDone, 1)
}

func TestAnswersInTheWrongStage(t *testing.T) {
	for nodes := 1; nodes <= 7; nodes++ {
		for stage, p := range inEachStage(t, nodes, ballot(4, 1)) {
			for from := range nodes {
				if stage != StageAsk {
					p.promises(false, from, ballot(4, 1), ballot(3, 6), row(5)...)
				}
				if stage != StageTell {
					p.accepts(false, from, ballot(4, 1))
				}
			}
			if p.r.Stage() != stage {
				t.Fatalf("stage %d; want %d", p.r.Stage(), stage)
			}
		}
	}
}

// Ballots around one that was told, and whether they are newer.
func TestTheNewest(t *testing.T) {
	own, was := ballot(9, 0), ballot(5, 3)
	cases := []struct {
		accepted api.Ballot
		newer    bool
	}{
		{none, false}, {was, false},
		{ballot(5, 4), true}, {ballot(5, 2), false}, {ballot(6, 3), true}, {ballot(4, 3), false},
		{ballot(6, 0), true}, {ballot(4, 6), false}, {ballot(5, 6), true}, {ballot(5, 0), false},
		{ballot(8, 6), true}, {ballot(1, 0), false}, {ballot(farthest, 6), true}, {ballot(-1, 9), false},
	}
	for _, c := range cases {
		for _, reads := range []bool{false, true} {
			for _, other := range [][]api.Entry{nil, row(1), row(4), row(63)} {
				isNewest(t, asks(t, 3, deletes(9, 99), reads, own), was, row(2), c.accepted, other, c.newer)
				isNewest(t, asks(t, 3, deletes(9, 99), reads, own), c.accepted, other, was, row(2), !c.newer && c.accepted != was)
			}
		}
	}
}

// isNewest asks which of two ledgers a round goes on with.
func isNewest(t *testing.T, p *pair, a api.Ballot, ledger []api.Entry, b api.Ballot, other []api.Entry, newer bool) {
	t.Helper()
	want := copied(ledger)
	if newer {
		want = copied(other)
	}
	p.promises(true, 1, p.k.ballot, a, ledger...)
	p.promises(true, 0, p.k.ballot, b, other...)
	if !p.k.reads {
		want = append(want, p.k.entry)
	}
	p.tells(want...)
	p.stands(StageTell, len(want))
}

// What isn't above none is not newer than nothing: its ledger isn't taken.
func TestNothingAccepted(t *testing.T) {
	for _, accepted := range []api.Ballot{none, ballot(0, -1), ballot(-1, 6), ballot(-1<<63, 1<<63-1)} {
		for _, reads := range []bool{false, true} {
			p := asks(t, 1, deletes(9, 99), reads, first)
			p.promises(true, 0, first, accepted, row(3)...)
			if reads {
				p.tells()
				p.stands(StageTell, 0)
			} else {
				p.tells(deletes(9, 99))
				p.stands(StageTell, 1)
			}
		}
	}
	// What is above none is, legal or not: that isn't asked.
	for _, accepted := range []api.Ballot{ballot(0, 1), ballot(1, -1), ballot(1, 0), ballot(1, 7), ballot(1<<63-1, 0)} {
		p := asks(t, 1, deletes(9, 99), true, first)
		p.promises(true, 0, first, accepted, row(3)...)
		p.tells(row(3)...)
	}
}

// The newest of all that were told wins, in each order in which they come.
func TestTheNewestInEachOrder(t *testing.T) {
	told := []api.Ballot{ballot(2, 6), ballot(3, 0), none, ballot(3, 1)}
	wins := func(list []int) int { return slices.Max(list) }
	for code := range 24 {
		left, list := []int{0, 1, 3, 2}, []int{}
		for size := 4; size > 0; size-- {
			list = append(list, left[code%size])
			left = slices.Delete(left, code%size, code%size+1)
			code /= size
		}
		// Node 2 has none.
		p := asks(t, 5, deletes(9, 99), true, ballot(7, 0))
		heard := []int{}
		for _, from := range list[:3] {
			p.promises(true, from, ballot(7, 0), told[from], row(from+1)...)
			if from != 2 {
				heard = append(heard, from)
			}
		}
		p.tells(row(wins(heard) + 1)...)
	}
}

// A promise that doesn't count tells nothing, be it ever so new.
func TestWhatDoesNotCountIsNotTold(t *testing.T) {
	p := asks(t, 3, deletes(9, 99), false, ballot(7, 0))
	p.promises(true, 1, ballot(7, 0), ballot(2, 0), row(2)...)
	p.promises(false, 1, ballot(7, 0), ballot(6, 0), row(3)...)
	p.promises(false, 0, ballot(6, 0), ballot(5, 0), row(3)...)
	p.promises(false, 3, ballot(7, 0), ballot(5, 0), row(3)...)
	p.promises(false, -1, ballot(7, 0), ballot(5, 0), row(3)...)
	p.promises(true, 2, ballot(7, 0), ballot(1, 0), row(4)...)
	p.promises(false, 0, ballot(7, 0), ballot(6, 6), row(5)...)
	p.tells(append(row(2), deletes(9, 99))...)
}

// What was told to an older ballot is forgotten.
func TestBeginForgetsTheNewest(t *testing.T) {
	p := asks(t, 3, deletes(9, 99), false, first)
	p.promises(true, 0, first, ballot(5, 5), row(3)...)
	p.begins(nil, ballot(6, 0))
	p.promises(true, 1, ballot(6, 0), ballot(5, 4), row(2)...)
	p.promises(true, 2, ballot(6, 0), none)
	p.tells(append(row(2), deletes(9, 99))...)
	p.begins(nil, ballot(6, 1))
	p.tells()
	p.promises(true, 1, ballot(6, 1), none)
	p.promises(true, 2, ballot(6, 1), none)
	p.tells(deletes(9, 99))
	p.stands(StageTell, 1)
}

// An entry stands once: of its client and number there is no second one, even if its order is another one.
func TestEntriesThatStandThere(t *testing.T) {
	own := deletes(15, 7)
	near := []api.Entry{own, binds(15, 7, 2), creates(15, 7)}
	for size := 1; size <= 64; size += 9 {
		for place := 1; place <= size; place += 1 + size/5 {
			for _, e := range near {
				l := with(row(size), place, e)
				p := tellsOf(t, 3, own, false, ballot(4, 0), l...)
				p.tells(l...)
				p.stands(StageTell, place)
			}
		}
	}
	// Of several the first one is meant.
	l := []api.Entry{deletes(1, 1), binds(15, 7, 1), own, own}
	p := tellsOf(t, 3, own, false, ballot(4, 0), l...)
	p.tells(l...)
	p.stands(StageTell, 2)
	// Another client's, or another number, is another one.
	for _, e := range []api.Entry{deletes(14, 7), deletes(15, 6), deletes(15, 8), deletes(7, 15)} {
		p := done(t, 3, own, false, ballot(4, 0), e)
		p.tells(e, own)
		p.stands(StageDone, 2)
	}
}

func TestFullLedgers(t *testing.T) {
	own := deletes(9, 99)
	for nodes := 1; nodes <= 7; nodes++ {
		p := done(t, nodes, own, false, ballot(4, 0), row(63)...)
		p.tells(append(row(63), own)...)
		p.stands(StageDone, 64)
		for _, size := range []int{64, 65, 100} {
			p = tellsOf(t, nodes, own, false, ballot(4, 0), row(size)...)
			p.stands(StageFull, 0)
			p.tells()
			p.misses()
			p.begins(api.ErrState, ballot(5, 0))
			for from := range nodes {
				p.promises(false, from, ballot(4, 0), none)
				p.accepts(false, from, ballot(4, 0))
			}
			p.stands(StageFull, 0)
			// What stands there needs no room.
			for _, place := range []int{1, 17, size} {
				l := with(row(size), place, own)
				p = done(t, nodes, own, false, ballot(4, 0), l...)
				p.tells(l...)
				p.stands(StageDone, place)
			}
			// Nor does what only reads.
			p = done(t, nodes, own, true, ballot(4, 0), row(size)...)
			p.tells(row(size)...)
			p.stands(StageDone, size)
		}
	}
}

// A full ledger that isn't the newest one doesn't matter.
func TestAFullLedgerThatIsOlder(t *testing.T) {
	p := asks(t, 3, deletes(9, 99), false, ballot(4, 0))
	p.promises(true, 0, ballot(4, 0), ballot(2, 2), row(64)...)
	p.promises(true, 1, ballot(4, 0), ballot(2, 3), row(63)...)
	p.stands(StageTell, 64)
	p = asks(t, 3, deletes(9, 99), false, ballot(4, 0))
	p.promises(true, 0, ballot(4, 0), ballot(2, 2), row(63)...)
	p.promises(true, 1, ballot(4, 0), ballot(2, 3), row(64)...)
	p.stands(StageFull, 0)
}

func TestRoundsThatRead(t *testing.T) {
	for _, e := range []api.Entry{{}, deletes(0, 1), deletes(9, 99), row(5)[4]} {
		for _, size := range []int{0, 1, 2, 5, 63, 64, 65} {
			p := tellsOf(t, 3, e, true, ballot(4, 0), row(size)...)
			p.stands(StageTell, size)
			p.tells(row(size)...)
			p.accepts(true, 0, ballot(4, 0))
			p.accepts(true, 2, ballot(4, 0))
			p.stands(StageDone, size)
			p.tells(row(size)...)
		}
	}
	// As long as it asks, there is no ledger, whatever it was told.
	p := asks(t, 3, api.Entry{}, true, first)
	p.promises(true, 0, first, ballot(5, 5), row(3)...)
	p.stands(StageAsk, 0)
	p.tells()
}

func TestBeginInEachStage(t *testing.T) {
	own := ballot(5, 3)
	above := []api.Ballot{ballot(5, 4), ballot(5, 6), ballot(6, 3), ballot(6, 0), ballot(farthest, 0), ballot(farthest, 6)}
	below := []api.Ballot{own, ballot(5, 2), ballot(5, 0), ballot(4, 3), ballot(4, 6), first}
	for stage := StageAsk; stage <= StageFull; stage++ {
		ends := stage == StageDone || stage == StageFull
		for _, b := range append(append(below, illegal()...), ballot(6, 7), ballot(6, -1), ballot(farthest+1, 3)) {
			want := api.ErrBallot
			if ends {
				want = api.ErrState
			}
			p := inEachStage(t, 3, own)[stage]
			p.begins(want, b)
			if p.r.Stage() != stage || p.r.Ballot() != own || p.r.Begun() != 1 {
				p.fails("Begin", b, own)
			}
		}
		for _, b := range above {
			p := inEachStage(t, 3, own)[stage]
			if ends {
				p.begins(api.ErrState, b)
				continue
			}
			p.begins(nil, b)
			p.misses(0, 1, 2)
			if p.r.Stage() != StageAsk || p.r.Ballot() != b || p.r.Begun() != 2 {
				p.fails("Begin", b, own)
			}
		}
	}
	// Ahead of the first one every legal ballot is above.
	for _, b := range []api.Ballot{first, ballot(1, 6), ballot(farthest, 0), ballot(farthest, 6)} {
		p := newPair(t, 2, deletes(1, 1), false)
		for _, wrong := range illegal() {
			p.begins(api.ErrBallot, wrong)
		}
		p.begins(nil, b)
		p.begins(api.ErrBallot, b)
	}
}

// A Begin that is refused takes nothing back of what was answered.
func TestARefusedBeginChangesNothing(t *testing.T) {
	p := asks(t, 5, deletes(9, 99), false, ballot(5, 3))
	for i := range 3 {
		p.begins(api.ErrBallot, ballot(5, 3))
		p.begins(api.ErrBallot, ballot(6, 7))
		p.promises(true, i, ballot(5, 3), ballot(4, i), row(i)...)
	}
	for i := range 3 {
		p.begins(api.ErrBallot, ballot(5, 3))
		p.begins(api.ErrBallot, ballot(5, 2))
		p.accepts(true, i, ballot(5, 3))
	}
	p.stands(StageDone, 3)
	p.begins(api.ErrState, ballot(6, 0))
	p.tells(append(row(2), deletes(9, 99))...)
}

func TestBegun(t *testing.T) {
	p := newPair(t, 3, deletes(1, 1), false)
	for i := range 300 {
		if p.r.Begun() != i {
			p.fails("Begun", p.r.Begun(), i)
		}
		p.begins(nil, ballot(1+i/7, i%7))
		p.begins(api.ErrBallot, ballot(1+i/7, i%7))
		p.promises(true, i%3, p.k.ballot, none)
		if i%2 == 0 {
			p.promises(true, (i+1)%3, p.k.ballot, none)
		}
	}
}
