package round

import (
	"math/rand"
	"slices"
	"testing"

	"almoner/api"
)

// P19.2: a round is done only behind promises and acceptings of more than half; its ledger goes on with the newest that it was told, and has its entry once.

// Whoever promises and whoever accepts: more than half of them are needed, and enough.
func TestEverySetOfAnswers(t *testing.T) {
	for nodes := 1; nodes <= 7; nodes++ {
		for promising := range 1 << nodes {
			for accepting := range 1 << nodes {
				everySet(t, nodes, promising, accepting)
			}
		}
	}
}

func ones(set int) int {
	count := 0
	for ; set > 0; set /= 2 {
		count += set % 2
	}
	return count
}

// everySet lets the nodes of a set promise, and then those of another one accept.
func everySet(t *testing.T, nodes, promising, accepting int) {
	t.Helper()
	r, err := New(nodes, deletes(9, 99), false)
	if err != nil || r.Begin(first) != nil {
		t.Fatal(err)
	}
	// From the last one on, and each of them twice.
	for i := range 2 * nodes {
		if from := nodes - 1 - i/2; promising>>from&1 == 1 {
			r.Promise(from, first, none, nil)
		}
	}
	want := StageAsk
	if 2*ones(promising) > nodes {
		want = StageTell
	}
	if r.Stage() != want {
		t.Fatalf("of %d nodes %b promised: stage %d", nodes, promising, r.Stage())
	}
	for i := range 2 * nodes {
		if from := i / 2; accepting>>from&1 == 1 {
			r.Accepted(from, first)
		}
	}
	if want == StageTell && 2*ones(accepting) > nodes {
		want = StageDone
	}
	if r.Stage() != want {
		t.Fatalf("of %d nodes %b promised, %b accepted: stage %d", nodes, promising, accepting, r.Stage())
	}
}

// watch keeps only what answers of a round counted, and asks the promise by that.
type watch struct {
	*story
	promised map[api.Ballot][]told
	accepted map[api.Ballot][]int
}

func (w *watch) step() {
	w.t.Helper()
	b := w.answersTo()
	from := w.from()
	switch kind := w.random.Intn(20); {
	case kind == 0 || w.r.Begun() == 0:
		_ = w.begin(someBallot(w.random, w.k.ballot))
	case kind < 11:
		accepted, l := w.story.accepted(), someLedger(w.random, w.k.entry)
		if w.promise(from, b, accepted, l) {
			w.promised[b] = append(w.promised[b], told{from, accepted, l})
		}
	default:
		if w.pair.accepted(from, b) {
			w.accepted[b] = append(w.accepted[b], from)
		}
	}
}

// asks holds a round that is done against what counted.
func (w *watch) asks() {
	w.t.Helper()
	b := w.r.Ballot()
	var promising []int
	var newest told
	for _, p := range w.promised[b] {
		promising = append(promising, p.from)
		if higher(p.accepted, newest.accepted) {
			newest = p
		}
	}
	for _, list := range [][]int{promising, w.accepted[b]} {
		slices.Sort(list)
		if len(slices.Compact(list)) < half(w.k.nodes) {
			w.fails("done behind", list, half(w.k.nodes))
		}
	}
	ledger := w.r.Ledger()
	if !isBeginning(newest.ledger, ledger) {
		w.fails("the ledger", ledger, newest.ledger)
	}
	if w.k.reads {
		if len(ledger) != len(newest.ledger) {
			w.fails("what was read", ledger, newest.ledger)
		}
		return
	}
	count := 0
	for _, e := range ledger[min(len(ledger), len(newest.ledger)):] {
		if !sameEntry(e, w.k.entry) || standsAt(newest.ledger, e) > 0 {
			w.fails("what is new", ledger, newest.ledger)
		}
		count++
	}
	if count > 1 || standsAt(ledger, w.k.entry) == 0 || w.r.Place() != standsAt(ledger, w.k.entry) {
		w.fails("the entry's place", w.r.Place(), standsAt(ledger, w.k.entry))
	}
}

func TestDoneOnlyBehindMoreThanHalf(t *testing.T) {
	random := rand.New(rand.NewSource(193))
	count := 0
	for range 6000 {
		w := &watch{newStory(t, random, map[string]int{}), map[api.Ballot][]told{}, map[api.Ballot][]int{}}
		for range 60 {
			w.step()
		}
		if w.r.Stage() == StageDone {
			w.asks()
			count++
		}
	}
	if count < 2000 {
		t.Errorf("only %d rounds were done", count)
	}
}

// The entry that comes again, at whatever place, is put there once, also by rounds that follow one another.
func TestRoundsThatFollow(t *testing.T) {
	var ledger []api.Entry
	for i := range 300 {
		e := deletes(i%5, 1+i%23)
		want := standsAt(ledger, e)
		p := asks(t, 3, e, false, ballot(i+2, 0))
		p.promises(true, 1, p.k.ballot, ballot(i+1, 0), ledger...)
		p.promises(true, 2, p.k.ballot, none)
		if want == 0 && len(ledger) == 64 {
			p.stands(StageFull, 0)
			continue
		}
		if want == 0 {
			ledger = append(ledger, e)
			want = len(ledger)
		}
		p.accepts(true, 1, p.k.ballot)
		p.accepts(true, 2, p.k.ballot)
		p.stands(StageDone, want)
		p.tells(ledger...)
	}
	if len(ledger) != 64 {
		t.Errorf("%d entries", len(ledger))
	}
}
