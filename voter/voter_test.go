package voter

import (
	"bytes"
	"encoding/hex"
	"math"
	"slices"
	"testing"

	"almoner/api"
)

// P18.1: what single calls answer, at the edges that the chapter names and at wrong inputs.

func TestExamples(t *testing.T) {
	p := newPair(t, 40, 2)
	p.prepares(nil, ballot(1, 0))
	p.accepts(nil, ballot(1, 0), deletes(1, 1))
	p.crash(0, -1)
	p.open()
	p.tells(ballot(1, 0), ballot(1, 0), deletes(1, 1))
	p.claims(ballot(2, 2), ballot(0, 0))
	p.claims(ballot(3, 2), ballot(0, 0))
	if Half(4) != 3 {
		t.Error(Half(4))
	}
}

func TestHalf(t *testing.T) {
	for n, want := range []int{0, 1, 2, 2, 3, 3, 4, 4, 5, 5} {
		if got := Half(n); got != want {
			t.Errorf("Half(%d) = %d; want %d", n, got, want)
		}
	}
	for _, n := range []int{-1, -2, -3, -7, -1 << 40, math.MinInt + 1, math.MinInt} {
		if got := Half(n); got != 0 {
			t.Errorf("Half(%d) = %d", n, got)
		}
	}
	if Half(1000) != 501 || Half(1001) != 501 || Half(math.MaxInt) != 1<<62 {
		t.Error(Half(1000), Half(1001), Half(math.MaxInt))
	}
	// Two halves always meet, and no fewer do.
	for n := 1; n < 200; n++ {
		if 2*Half(n) <= n || 2*(Half(n)-1) > n {
			t.Errorf("Half(%d) = %d", n, Half(n))
		}
	}
}

// rising are ballots that rise, legal or not.
func rising() []api.Ballot {
	var list []api.Ballot
	for _, round := range []int{math.MinInt, -1, 0, 1, 2, 3, farthest - 1, farthest, farthest + 1, math.MaxInt} {
		for _, node := range []int{math.MinInt, -1, 0, 1, 2, 5, 6, 7, math.MaxInt} {
			list = append(list, ballot(round, node))
		}
	}
	return list
}

func TestAbove(t *testing.T) {
	list := rising()
	for i, a := range list {
		for j, b := range list {
			if got := Above(a, b); got != (i > j) {
				t.Errorf("Above(%v, %v) = %v", a, b, got)
			}
		}
	}
}

func TestAtFirst(t *testing.T) {
	for number := range 7 {
		p := newPair(t, 20, number)
		p.tells(ballot(0, 0), ballot(0, 0))
		p.open()
		p.tells(ballot(0, 0), ballot(0, 0))
		p.claims(ballot(1, number), ballot(0, 0))
		p.claims(ballot(2, number), ballot(0, 0))
		p.tells(ballot(0, 0), ballot(0, 0))
	}
}

// What stands in the log, its bytes written out.
func TestBytesOfTheLog(t *testing.T) {
	p := newPair(t, 60, 3)
	p.prepares(nil, ballot(1, 0))
	p.prepares(nil, ballot(300, 6))
	p.accepts(nil, ballot(300, 6), deletes(1, 2))
	p.accepts(nil, ballot(301, 0), deletes(1, 2), deletes(2, 1))
	p.claims(ballot(302, 3), ballot(0, 0))
	p.accepts(nil, ballot(farthest, 1))
	want := []string{
		"00000000000100",
		"010100",
		"01ac0206",
		"02ac0206000c010a01020300050000000000",
		"02ad0200010c010a02010300050000000000",
		"03ae02",
		"0280808080802001000100",
	}
	for i, data := range logged(t, p.d) {
		if got := hex.EncodeToString([]byte(data)); i >= len(want) || got != want[i] {
			t.Fatalf("record %d: %s; want %q", i, got, want)
		}
	}
}

func TestPrepareNearWhatWasPromised(t *testing.T) {
	for _, at := range []api.Ballot{ballot(5, 3), ballot(farthest, 3), ballot(farthest-1, 6), ballot(1, 0), ballot(2, 0)} {
		for round := -2; round <= 2; round++ {
			for node := range 7 {
				p := newPair(t, 40, 1)
				p.prepares(nil, at)
				b := ballot(at.Round+round, node)
				want := error(nil)
				switch {
				case b.Round < 1 || b.Round > farthest:
					want = api.ErrNumber
				case b.Round < at.Round || b.Round == at.Round && b.Node < at.Node:
					want = api.ErrBallot
				}
				p.prepares(want, b)
				if want == nil {
					p.tells(b, ballot(0, 0))
				} else {
					p.tells(at, ballot(0, 0))
				}
				p.open()
			}
		}
	}
}

// What is promised already isn't written again.
func TestPrepareOfWhatWasPromised(t *testing.T) {
	p := newPair(t, 40, 1)
	p.prepares(nil, ballot(4, 4))
	writes := p.d.Writes()
	for range 5 {
		p.prepares(nil, ballot(4, 4))
	}
	if p.d.Writes() != writes {
		t.Errorf("%d writes; want %d", p.d.Writes(), writes)
	}
	p.accepts(nil, ballot(5, 0), row(2)...)
	writes = p.d.Writes()
	p.prepares(nil, ballot(5, 0))
	if p.d.Writes() != writes {
		t.Errorf("%d writes; want %d", p.d.Writes(), writes)
	}
	p.logs(facts{}.snapshot(), nums(1, 4, 4), acceptingBytes(ballot(5, 0), 0, row(2)))
}

// Prepare answers what was accepted, not what was promised since.
func TestPrepareTellsWhatWasAccepted(t *testing.T) {
	p := newPair(t, 60, 0)
	p.accepts(nil, ballot(3, 1), row(3)...)
	for _, b := range []api.Ballot{ballot(3, 1), ballot(3, 2), ballot(4, 0), ballot(99, 6)} {
		accepted, ledger, err := p.v.Prepare(b)
		_, _, _ = p.k.prepare(b)
		if accepted != ballot(3, 1) || !sameLedger(ledger, row(3)) || err != nil {
			t.Errorf("Prepare(%v) = %v, %v, %v", b, accepted, ledger, err)
		}
		p.tells(b, ballot(3, 1), row(3)...)
	}
	p.open()
}

func TestAcceptNearWhatWasPromised(t *testing.T) {
	for _, at := range []api.Ballot{ballot(5, 3), ballot(farthest, 6), ballot(1, 0), ballot(7, 0)} {
		for round := -2; round <= 2; round++ {
			for node := range 7 {
				p := newPair(t, 60, 1)
				p.accepts(nil, ballot(1, 0), row(1)...)
				p.prepares(nil, at)
				b := ballot(at.Round+round, node)
				switch {
				case b.Round < 1 || b.Round > farthest:
					p.accepts(api.ErrNumber, b, row(2)...)
					p.tells(at, ballot(1, 0), row(1)...)
				case b.Round < at.Round || b.Round == at.Round && b.Node < at.Node:
					p.accepts(api.ErrBallot, b, row(2)...)
					p.tells(at, ballot(1, 0), row(1)...)
				default:
					p.accepts(nil, b, row(2)...)
					p.tells(b, b, row(2)...)
				}
				p.open()
			}
		}
	}
}

// What was accepted is accepted again, and written down again, with the same ledger and with another one.
func TestAcceptOfWhatWasAccepted(t *testing.T) {
	p := newPair(t, 100, 1)
	b := ballot(2, 2)
	p.accepts(nil, b, row(3)...)
	p.accepts(nil, b, row(3)...)
	p.tells(b, b, row(3)...)
	p.accepts(nil, b, row(2)...)
	p.tells(b, b, row(2)...)
	p.accepts(nil, b, creates(1), deletes(1, 2))
	p.tells(b, b, creates(1), deletes(1, 2))
	p.accepts(nil, b)
	p.tells(b, b)
	p.accepts(nil, b)
	p.logs(facts{}.snapshot(),
		acceptingBytes(b, 0, row(3)),
		acceptingBytes(b, 3, nil),
		acceptingBytes(b, 2, nil),
		acceptingBytes(b, 0, []api.Entry{creates(1), deletes(1, 2)}),
		acceptingBytes(b, 0, nil),
		acceptingBytes(b, 0, nil))
	p.open()
	p.tells(b, b)
}

// An accepting of no entry isn't none.
func TestAcceptOfNoEntry(t *testing.T) {
	for _, ledger := range [][]api.Entry{nil, {}, row(3)[:0]} {
		p := newPair(t, 30, 6)
		p.accepts(nil, ballot(1, 1), ledger...)
		p.tells(ballot(1, 1), ballot(1, 1))
		p.open()
		p.tells(ballot(1, 1), ballot(1, 1))
	}
}

// How many entries stay: as many as are the same from the beginning on.
func TestWhatStays(t *testing.T) {
	old := []api.Entry{deletes(1, 1), creates(7), binds(7, 2), deletes(2, 2)}
	change := func(at int, e api.Entry) []api.Entry {
		list := slices.Clone(old)
		list[at] = e
		return list
	}
	more := slices.Concat(old, row(2))
	stays := []struct {
		ledger []api.Entry
		stay   int
	}{
		{nil, 0}, {old[:1], 1}, {old[:3], 3}, {old, 4}, {more[:5], 4}, {more, 4},
		{old[1:], 0}, {slices.Concat(old, old), 4}, {slices.Concat(old[:2], old[:2]), 2},
		{change(0, deletes(1, 2)), 0}, {change(3, deletes(2, 3)), 3}, {change(2, deletes(2, 2)), 2},
		{slices.Concat(old[:1], old), 1}, {slices.Concat(row(1), old), 0},
	}
	for _, e := range nearCreates() {
		stays = append(stays, struct {
			ledger []api.Entry
			stay   int
		}{change(1, e), 1})
	}
	for _, e := range nearBinds() {
		stays = append(stays, struct {
			ledger []api.Entry
			stay   int
		}{change(2, e), 2})
	}
	for _, s := range stays {
		p := newPair(t, 60, 1)
		p.accepts(nil, ballot(1, 1), old...)
		p.prepares(nil, ballot(2, 0))
		p.accepts(nil, ballot(2, 1), s.ledger...)
		p.logs(facts{}.snapshot(), acceptingBytes(ballot(1, 1), 0, old), promiseBytes(ballot(2, 0)), acceptingBytes(ballot(2, 1), s.stay, s.ledger[s.stay:]))
		p.open()
		p.tells(ballot(2, 1), ballot(2, 1), s.ledger...)
	}
}

// Ledgers of every size up to MaxLedger, and one more.
func TestSizesOfLedgers(t *testing.T) {
	grows, falls := newPair(t, 300, 0), newPair(t, 300, 0)
	for size := range 65 {
		grows.accepts(nil, ballot(size+1, 0), row(size)...)
		falls.accepts(nil, ballot(size+1, 0), row(64-size)...)
		if size%16 == 0 {
			grows.open()
			falls.open()
		}
	}
	grows.tells(ballot(65, 0), ballot(65, 0), row(64)...)
	falls.tells(ballot(65, 0), ballot(65, 0))
	for _, size := range []int{65, 66, 1000} {
		for _, p := range []*pair{grows, falls} {
			p.accepts(api.ErrLarge, ballot(66, 0), row(size)...)
		}
	}
	grows.open()
	grows.tells(ballot(65, 0), ballot(65, 0), row(64)...)
}

// The longest ledger that there is fits on the greatest disk.
func TestTheLongestLedger(t *testing.T) {
	p := newPair(t, 1024, 6)
	ledger := rowOf(64, longest)
	p.accepts(nil, ballot(farthest, 6), ledger...)
	p.open()
	p.tells(ballot(farthest, 6), ballot(farthest, 6), ledger...)
	for range 3 {
		slices.Reverse(ledger)
		p.accepts(nil, ballot(farthest, 6), ledger...)
		p.open()
		p.tells(ballot(farthest, 6), ballot(farthest, 6), ledger...)
	}
}

// Entries of one Client and Number twice are in form as any.
func TestEntriesThatStandTwice(t *testing.T) {
	p := newPair(t, 60, 6)
	p.accepts(nil, ballot(1, 0), creates(1), creates(1), deletes(1, 1))
	p.open()
	p.tells(ballot(1, 0), ballot(1, 0), creates(1), creates(1), deletes(1, 1))
}

func TestClaimAbove(t *testing.T) {
	tests := []struct{ promised, claimed, above, want int }{
		{0, 0, 0, 1}, {0, 0, 1, 2}, {0, 0, 7, 8}, {5, 0, 0, 6}, {5, 0, 4, 6}, {5, 0, 5, 6}, {5, 0, 6, 7},
		{0, 5, 0, 6}, {0, 5, 4, 6}, {0, 5, 5, 6}, {0, 5, 6, 7}, {3, 5, 4, 6}, {5, 3, 4, 6}, {3, 5, 9, 10}, {5, 5, 5, 6},
		{3, 5, -1, 6}, {3, 5, math.MinInt, 6}, {3, 5, farthest + 1, 6}, {3, 5, math.MaxInt, 6}, {0, 0, farthest + 1, 1},
		{0, 0, farthest - 1, farthest}, {3, 5, farthest - 2, farthest - 1},
		{farthest - 1, 0, 0, farthest}, {0, farthest - 1, 0, farthest}, {farthest - 1, 5, math.MaxInt, farthest},
	}
	for _, c := range tests {
		// The Node of the ballot above doesn't matter.
		for _, node := range []int{0, 4, 6, 7, -1, math.MinInt, math.MaxInt} {
			p := claimed(t, c.claimed)
			if c.promised > 0 {
				p.prepares(nil, ballot(c.promised, 6))
			}
			p.claims(ballot(c.want, 4), ballot(c.above, node))
			p.open()
			if c.want < farthest {
				p.claims(ballot(c.want+1, 4), ballot(c.above, node))
			}
		}
	}
}

// claimed is voter 4, which claimed a round and promised nothing.
func claimed(t *testing.T, round int) *pair {
	t.Helper()
	p := newPair(t, 40, 4)
	if round > 0 {
		p.claims(ballot(round, 4), ballot(round-1, 0))
	}
	return p
}

// A claim promises nothing, and what is accepted counts as promised.
func TestClaimBesideTheOthers(t *testing.T) {
	p := newPair(t, 60, 3)
	p.claims(ballot(10, 3), ballot(9, 0))
	p.tells(ballot(0, 0), ballot(0, 0))
	p.prepares(nil, ballot(1, 0))
	p.accepts(nil, ballot(20, 1), row(1)...)
	p.claims(ballot(21, 3), ballot(0, 0))
	p.tells(ballot(20, 1), ballot(20, 1), row(1)...)
	p.accepts(nil, ballot(20, 1))
	p.claims(ballot(22, 3), ballot(20, 0))
	p.claims(ballot(31, 3), ballot(30, 0))
	p.claims(ballot(32, 3), ballot(30, 0))
}

func TestClaimOfMaxTimeAndOneMore(t *testing.T) {
	full := []func(p *pair){
		func(p *pair) { p.claims(ballot(farthest, 2), ballot(farthest-1, 3)) },
		func(p *pair) { p.prepares(nil, ballot(farthest, 0)) },
		func(p *pair) { p.accepts(nil, ballot(farthest, 6), row(2)...) },
	}
	for _, fill := range full {
		p := newPair(t, 40, 2)
		p.claimFails(api.ErrFull, ballot(farthest, 0))
		p.claims(ballot(1, 2), ballot(0, 0))
		fill(p)
		for range 2 {
			for _, above := range []int{math.MinInt, -1, 0, 5, farthest - 1, farthest, farthest + 1, math.MaxInt} {
				p.claimFails(api.ErrFull, ballot(above, 0))
			}
			p.open()
		}
		// There's room for promises and acceptings still.
		p.accepts(nil, ballot(farthest, 6), row(1)...)
		p.tells(ballot(farthest, 6), ballot(farthest, 6), row(1)...)
	}
}

func TestIllegalBallots(t *testing.T) {
	fresh, used := newPair(t, 40, 0), newPair(t, 40, 0)
	used.accepts(nil, ballot(5, 5), row(2)...)
	used.prepares(nil, ballot(6, 1))
	for _, p := range []*pair{fresh, used} {
		before := p.k.facts
		for _, b := range illegal() {
			p.prepares(api.ErrNumber, b)
			p.accepts(api.ErrNumber, b)
			p.accepts(api.ErrNumber, b, row(2)...)
			p.accepts(api.ErrNumber, b, row(65)...)
			p.accepts(api.ErrNumber, b, outOfForm()[:1]...)
		}
		p.open()
		if !p.k.is(before) {
			t.Fatalf("%+v; want %+v", p.k.facts, before)
		}
	}
	used.tells(ballot(6, 1), ballot(5, 5), row(2)...)
}

func TestEntriesOutOfForm(t *testing.T) {
	p := newPair(t, 80, 0)
	p.accepts(nil, ballot(5, 5), row(3)...)
	for _, wrong := range outOfForm() {
		for at := range 5 {
			list := row(4)
			list = slices.Insert(list, at, wrong)
			p.accepts(api.ErrState, ballot(5, 5), list...)
			p.accepts(api.ErrState, ballot(6, 0), list...)
		}
		p.accepts(api.ErrState, ballot(6, 0), wrong)
		p.accepts(api.ErrState, ballot(6, 0), append(row(63), wrong)...)
		p.accepts(api.ErrLarge, ballot(6, 0), append(row(64), wrong)...)
	}
	p.tells(ballot(5, 5), ballot(5, 5), row(3)...)
	p.claims(ballot(6, 0), ballot(0, 0))
	p.open()
	p.tells(ballot(5, 5), ballot(5, 5), row(3)...)
}

// Where several errors could be told, the chapter's first one is.
func TestOrderOfErrors(t *testing.T) {
	p := newPair(t, 40, 0)
	p.accepts(nil, ballot(5, 5), row(1)...)
	p.claims(ballot(farthest, 0), ballot(farthest-1, 0))
	large := append(row(64), outOfForm()[0])
	wrong := outOfForm()[:1]
	errors := func() {
		t.Helper()
		p.prepares(api.ErrNumber, ballot(0, 5))
		p.prepares(api.ErrNumber, ballot(4, 7))
		p.prepares(api.ErrBallot, ballot(5, 4))
		p.accepts(api.ErrNumber, ballot(4, 7), large...)
		p.accepts(api.ErrNumber, ballot(-1, 0), wrong...)
		p.accepts(api.ErrBallot, ballot(4, 6), large...)
		p.accepts(api.ErrBallot, ballot(4, 6), wrong...)
		p.accepts(api.ErrBallot, ballot(4, 6), row(1)...)
		p.accepts(api.ErrLarge, ballot(6, 0), large...)
		p.accepts(api.ErrState, ballot(6, 0), wrong...)
		p.claimFails(api.ErrFull, ballot(0, 0))
	}
	errors()
	p.d.Lose()
	p.k.d.Lose()
	errors()
}

// A lost disk: nothing is written down any more; what is kept is told still.
func TestALostDisk(t *testing.T) {
	p := newPair(t, 40, 0)
	p.accepts(nil, ballot(5, 5), row(1)...)
	p.prepares(nil, ballot(7, 1))
	p.d.Lose()
	p.k.d.Lose()
	for range 2 {
		p.prepares(nil, ballot(7, 1))
		p.prepares(api.ErrLost, ballot(7, 2))
		p.accepts(api.ErrLost, ballot(7, 1), row(1)...)
		p.accepts(api.ErrLost, ballot(8, 0))
		p.claimFails(api.ErrLost, ballot(0, 0))
		p.claimFails(api.ErrFull, ballot(farthest, 0))
		p.tells(ballot(7, 1), ballot(5, 5), row(1)...)
		p.crash(math.MaxUint64, 0)
	}
	for number := range 7 {
		refusedOpen(t, p.d, number, api.ErrLost)
		refusedFormat(t, p.d, number, api.ErrLost)
	}
}

// A log that is full: the checkpoint of the state as it is comes first, and then the record.
func TestAFullLog(t *testing.T) {
	// Areas of three sectors hold a snapshot and two records.
	p := newPair(t, 8, 5)
	p.prepares(nil, ballot(1, 1))
	p.accepts(nil, ballot(2, 2), deletes(1, 1))
	p.logs(facts{}.snapshot(), promiseBytes(ballot(1, 1)), acceptingBytes(ballot(2, 2), 0, []api.Entry{deletes(1, 1)}))
	first := facts{promised: ballot(2, 2), accepted: ballot(2, 2), ledger: []api.Entry{deletes(1, 1)}}
	p.claims(ballot(3, 5), ballot(0, 0))
	p.logs(first.snapshot(), claimBytes(3))
	p.prepares(nil, ballot(4, 4))
	p.logs(first.snapshot(), claimBytes(3), promiseBytes(ballot(4, 4)))
	p.accepts(nil, ballot(5, 5), deletes(1, 1), deletes(1, 2))
	second := facts{promised: ballot(4, 4), accepted: ballot(2, 2), claimed: 3, ledger: []api.Entry{deletes(1, 1)}}
	p.logs(second.snapshot(), acceptingBytes(ballot(5, 5), 1, []api.Entry{deletes(1, 2)}))
	p.crash(0, -1)
	p.open()
	p.tells(ballot(5, 5), ballot(5, 5), deletes(1, 1), deletes(1, 2))
	p.claims(ballot(6, 5), ballot(0, 0))
}

// An area of one sector has no room behind a snapshot: all is refused, and nothing changes.
func TestADiskWithoutRoomForARecord(t *testing.T) {
	for _, sectors := range []int{4, 5} {
		p := newPair(t, sectors, 5)
		for range 3 {
			p.prepares(api.ErrFull, ballot(1, 1))
			p.accepts(api.ErrFull, ballot(2, 2))
			p.accepts(api.ErrFull, ballot(2, 2), row(40)...)
			p.accepts(api.ErrLarge, ballot(2, 2), row(65)...)
			p.claimFails(api.ErrFull, ballot(0, 0))
			p.tells(ballot(0, 0), ballot(0, 0))
			p.logs(facts{}.snapshot())
			p.crash(math.MaxUint64, 0)
			p.open()
		}
	}
}

// A ledger that doesn't fit behind a checkpoint either is refused; smaller ones go on.
func TestALedgerWithoutRoom(t *testing.T) {
	for _, sectors := range []int{6, 8, 12, 20, 40} {
		p := newPair(t, sectors, 5)
		p.accepts(nil, ballot(1, 1), deletes(1, 1))
		p.claims(ballot(2, 5), ballot(0, 0))
		for range 3 {
			p.accepts(api.ErrFull, ballot(3, 0), append(row(1), rowOf(63, longest)...)...)
			p.tells(ballot(1, 1), ballot(1, 1), deletes(1, 1))
			p.open()
		}
		p.prepares(nil, ballot(2, 2))
		p.accepts(nil, ballot(3, 1), deletes(1, 1))
		p.claims(ballot(4, 5), ballot(0, 0))
		p.open()
		p.tells(ballot(3, 1), ballot(3, 1), deletes(1, 1))
	}
}

// Where entries stay, their bytes aren't written again: a ledger goes on that would have no room in a record of its own.
func TestALongLedgerGrows(t *testing.T) {
	p := newPair(t, 22, 5)
	var ledger []api.Entry
	for i := range 10 {
		ledger = append(ledger, binds(i+1, 8))
		if p.accept(ballot(i+1, 0), ledger) != nil {
			t.Fatalf("no room for %d entries", len(ledger))
		}
	}
	changed := slices.Clone(ledger)
	changed[0] = deletes(3, 3)
	p.accepts(api.ErrFull, ballot(20, 0), changed...)
	p.accepts(nil, ballot(21, 0), ledger[:9]...)
	p.open()
	p.tells(ballot(21, 0), ballot(21, 0), ledger[:9]...)
}

// Neither record nor checkpoint fits: as the Epoch grows by a byte, a snapshot that filled its area no longer does.
func TestNoRoomForACheckpoint(t *testing.T) {
	ledger := []api.Entry{deletes(1, 1), deletes(2, 2), deletes(3, 3)}
	ledger[0].Order.Id, ledger[1].Order.Id = farthest, 200
	f := facts{promised: ballot(1, 1), accepted: ballot(1, 1), claimed: farthest - 2, ledger: ledger}
	p := crafted(t, 4, 1, f.snapshot())
	refused := func(flushes int) {
		t.Helper()
		p.prepares(api.ErrFull, ballot(2, 2))
		if len(p.k.images) != 1+flushes {
			t.Fatalf("%d flushes; want %d", len(p.k.images)-1, flushes)
		}
		p.accepts(api.ErrFull, ballot(1, 1), deletes(1, 1))
		p.claimFails(api.ErrFull, ballot(0, 0))
		p.tells(ballot(1, 1), ballot(1, 1), ledger...)
	}
	refused(1)
	for p.k.log.Epoch() < 128 {
		p.open()
	}
	refused(0)
	p.crash(math.MaxUint64, -1)
	p.open()
	refused(0)
	p.prepares(nil, ballot(1, 1))
}

// Writes are safe ahead of every answer: nothing waits.
func TestNothingWaits(t *testing.T) {
	p := newPair(t, 14, 0)
	for i := range 30 {
		p.prepares(nil, ballot(2*i+1, 3))
		p.accepts(nil, ballot(2*i+1, 4), row(i%4)...)
		_, _ = p.claim(ballot(0, 0))
		if p.d.Waiting() != 0 {
			t.Fatalf("%d writes wait", p.d.Waiting())
		}
	}
}

// Format begins anew on a disk that had a voter.
func TestFormatAnew(t *testing.T) {
	p := newPair(t, 20, 0)
	for number := range 7 {
		p.accepts(nil, ballot(5, 5), row(2)...)
		p.claims(ballot(9, p.k.number), ballot(8, 0))
		v, err := Format(p.d, number)
		k, wantErr := formatBook(p.k.d, number)
		if err != nil || wantErr != nil {
			t.Fatal(err, wantErr)
		}
		p.v, p.k = v, k
		p.same("Format")
		p.tells(ballot(0, 0), ballot(0, 0))
		p.crash(0, -1)
		p.open()
		p.tells(ballot(0, 0), ballot(0, 0))
		p.claims(ballot(1, number), ballot(0, 0))
	}
}

// Opened again and again, a voter is as it was.
func TestOpenedAgainAndAgain(t *testing.T) {
	p := newPair(t, 40, 2)
	p.accepts(nil, ballot(3, 1), creates(1), binds(1, 3))
	p.prepares(nil, ballot(4, 0))
	p.claims(ballot(7, 2), ballot(6, 0))
	before := image(p.d)
	for i := range 40 {
		p.crash(math.MaxUint64, 0)
		p.open()
		p.tells(ballot(4, 0), ballot(3, 1), creates(1), binds(1, 3))
		// The cells alone tell of it.
		if now := image(p.d); !slices.EqualFunc(now[:38], before[:38], bytes.Equal) {
			t.Fatalf("opening %d wrote", i)
		}
	}
	p.claims(ballot(8, 2), ballot(0, 0))
}

// A voter may be opened under another number: it is that of its ballots from then on.
func TestOpenUnderAnotherNumber(t *testing.T) {
	p := newPair(t, 40, 0)
	p.accepts(nil, ballot(3, 1), row(1)...)
	for number := range 7 {
		p.openAs(number)
		p.claims(ballot(4+number, number), ballot(0, 0))
	}
	p.tells(ballot(3, 1), ballot(3, 1), row(1)...)
}
