package round

import (
	"math/rand"
	"strconv"
	"testing"

	"almoner/api"
)

// P19.1: rows of calls against the book, every short one, and many long ones on several rounds at once.

// shortCalls is how many calls short rows choose among.
const shortCalls = 9

// shortLedgers are those that promises tell in short rows, made once.
var shortLedgers = [][]api.Entry{row(2), row(1), row(64)}

// shortCall does one of them.
func (p *pair) shortCall(which int) {
	one, two := ballot(1, 1), ballot(1, 2)
	begin := func(b api.Ballot) { p.agree(p.r.Begin(b) == nil, p.k.begin(b) == nil) }
	promise := func(from int, b, accepted api.Ballot, l []api.Entry) {
		p.agree(p.r.Promise(from, b, accepted, l), p.k.promise(from, b, accepted, l))
	}
	accept := func(from int, b api.Ballot) { p.agree(p.r.Accepted(from, b), p.k.accept(from, b)) }
	switch which {
	case 0:
		begin(one)
	case 1:
		begin(two)
	case 2:
		promise(0, one, none, nil)
	case 3:
		promise(1, one, ballot(1, 0), shortLedgers[0])
	case 4:
		promise(1, two, ballot(1, 1), shortLedgers[1])
	case 5:
		promise(0, two, ballot(1, 0), shortLedgers[2])
	case 6:
		accept(0, one)
	case 7:
		accept(0, two)
	case 8:
		accept(1, one)
	}
}

// agree asks that the round and the book answer the same.
func (p *pair) agree(got, want bool) {
	if got != want {
		p.t.Helper()
		p.fails("a call", got, want)
	}
}

// Each beginning of a row is a row too, so that it is enough to hold each against the book at its end.
func TestEveryShortRow(t *testing.T) {
	for nodes := 1; nodes <= 3; nodes++ {
		for _, reads := range []bool{false, true} {
			rows := 1
			for length := range 6 {
				for row := range rows {
					shortRow(t, nodes, reads, length, row)
				}
				rows *= shortCalls
			}
		}
	}
}

func shortRow(t *testing.T, nodes int, reads bool, length, row int) {
	t.Helper()
	r, err := New(nodes, deletes(9, 99), reads)
	k, wantErr := newBook(nodes, deletes(9, 99), reads)
	if err != nil || wantErr != nil {
		t.Fatal(err, wantErr)
	}
	p := &pair{t, r, k}
	for range length {
		p.shortCall(row % shortCalls)
		row /= shortCalls
	}
	p.same("a row")
}

// story is a pair under calls by chance.
type story struct {
	*pair
	random *rand.Rand
	came   map[string]int // how often something was answered
}

func newStory(t *testing.T, random *rand.Rand, came map[string]int) *story {
	t.Helper()
	e := someEntry(random)
	reads := random.Intn(3) == 0
	if reads && random.Intn(2) == 0 {
		e = outOfForm()[random.Intn(40)]
	}
	return &story{newPair(t, 1+random.Intn(7), e, reads), random, came}
}

// note counts an answer: a bool, or an error or none.
func (s *story) note(call string, answer any) {
	switch a := answer.(type) {
	case bool:
		s.came[call+" "+strconv.FormatBool(a)]++
	case error:
		s.came[call+" "+a.Error()]++
	default:
		s.came[call]++
	}
}

// from is mostly a node that hasn't answered.
func (s *story) from() int {
	missing := s.k.missing()
	switch {
	case s.random.Intn(8) == 0:
		list := noNodes(s.k.nodes)
		return list[s.random.Intn(len(list))]
	case len(missing) > 0 && s.random.Intn(3) > 0:
		return missing[s.random.Intn(len(missing))]
	}
	return s.random.Intn(s.k.nodes)
}

// answersTo is mostly the round's own ballot.
func (s *story) answersTo() api.Ballot {
	if s.random.Intn(6) == 0 {
		return someBallot(s.random, s.k.ballot)
	}
	return s.k.ballot
}

// accepted is mostly a ballot near the newest one that was told.
func (s *story) accepted() api.Ballot {
	near := ballot(1+s.random.Intn(5), s.random.Intn(7))
	for _, p := range s.k.promises {
		if s.random.Intn(2) == 0 {
			near = p.accepted
		}
	}
	return someBallot(s.random, near)
}

func (s *story) step() {
	s.t.Helper()
	switch kind := s.random.Intn(20); {
	case kind == 0 || s.k.begun == 0 && kind < 10:
		s.note("begin", s.begin(someBallot(s.random, s.k.ballot)))
	case kind < 12:
		s.note("promise", s.promise(s.from(), s.answersTo(), s.accepted(), someLedger(s.random, s.k.entry)))
	default:
		s.note("accepted", s.pair.accepted(s.from(), s.answersTo()))
	}
	s.came["in stage "+strconv.Itoa(s.k.stage)]++
}

// asked fails, if what the test is to see didn't come often enough.
func asked(t *testing.T, came map[string]int, least int, names ...string) {
	t.Helper()
	for _, name := range names {
		if came[name] < least {
			t.Errorf("%q came %d times; %v", name, came[name], came)
		}
	}
}

func TestRowsOnSeveralRounds(t *testing.T) {
	random := rand.New(rand.NewSource(191))
	came := map[string]int{}
	for range 3000 {
		var list []*story
		for range 3 {
			list = append(list, newStory(t, random, came))
		}
		for range 60 {
			list[random.Intn(3)].step()
		}
		for _, s := range list {
			s.same("calls of the others")
		}
	}
	asked(t, came, 1000, "begin", "begin almoner: ballot", "begin almoner: state", "promise true", "promise false", "accepted true", "accepted false",
		"in stage 0", "in stage 1", "in stage 2", "in stage 3", "in stage 4")
}

// Two rounds under the same calls tell the same, whatever a third one does.
func TestTwoRoundsTellTheSame(t *testing.T) {
	for seed := range int64(200) {
		var two []*story
		for range 2 {
			two = append(two, newStory(t, rand.New(rand.NewSource(seed)), map[string]int{}))
		}
		other := newStory(t, rand.New(rand.NewSource(seed+1000)), map[string]int{})
		for range 30 {
			two[0].step()
			other.step()
			two[1].step()
			own := two[1].k
			two[1].k = two[0].k
			two[1].same("the same calls")
			two[1].k = own
		}
	}
}

// A call that answered an error or false has left the round as it was, at once and later.
func TestRefusedCallsChangeNothing(t *testing.T) {
	random := rand.New(rand.NewSource(192))
	refused := 0
	for range 1500 {
		s := newStory(t, random, map[string]int{})
		// The round is asked to do what is refused; the book isn't told.
		for range 40 {
			s.step()
			refused += s.refusals()
			s.same("what was refused")
		}
	}
	if refused < 100000 {
		t.Errorf("only %d calls were refused", refused)
	}
}

// refusals asks the round for what it has to refuse, and tells how often.
func (s *story) refusals() int {
	s.t.Helper()
	k, count := s.k, 0
	refused := func(yes bool) {
		s.t.Helper()
		if yes {
			s.fails("a call that is to be refused", true, false)
		}
		count++
	}
	wrong := illegal()
	b := wrong[s.random.Intn(len(wrong))]
	refused(s.r.Begin(b) == nil)
	refused(s.r.Begin(k.ballot) == nil)
	refused(s.r.Begin(ballot(k.ballot.Round, k.ballot.Node-1)) == nil)
	ledger := someLedger(s.random, k.entry)
	newer := ballot(farthest, 6)
	from := noNodes(k.nodes)[s.random.Intn(8)]
	refused(s.r.Promise(from, k.ballot, newer, ledger))
	refused(s.r.Accepted(from, k.ballot))
	missing := map[int]bool{}
	for _, node := range k.missing() {
		missing[node] = true
	}
	for from := range k.nodes {
		refused(s.r.Promise(from, ballot(k.ballot.Round, k.ballot.Node+1), newer, ledger))
		refused(s.r.Accepted(from, ballot(k.ballot.Round-1, k.ballot.Node)))
		if k.stage != StageAsk || !missing[from] {
			refused(s.r.Promise(from, k.ballot, newer, ledger))
		}
		if k.stage != StageTell || !missing[from] {
			refused(s.r.Accepted(from, k.ballot))
		}
	}
	if k.stage >= StageDone {
		refused(s.r.Begin(ballot(farthest, 6)) == nil)
	}
	return count
}
