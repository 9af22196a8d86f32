package round

import (
	"math/rand"
	"testing"

	"almoner/api"
)

// P19.3, and with it P18.4: of the ledgers of two rounds that are done one is the beginning of the other, whatever is lost, doubled, late, crashes and is opened anew.

// letter is a message between a round and a voter.
type letter struct {
	kind     int // of the four below
	to       int // of a question: the voter
	from     int // of an answer: the voter
	try      *try
	ballot   api.Ballot
	accepted api.Ballot
	ledger   []api.Entry
}

const (
	asking = iota
	promising
	telling
	accepting
)

// try is a round, at the node that makes it; gone, if that node crashed since.
type try struct {
	*pair
	at   int
	gone bool
}

// system is voters, rounds, and the letters between them.
type system struct {
	t       *testing.T
	random  *rand.Rand
	members []*member
	tries   []*try
	letters []letter
	longest []api.Entry // of the ledgers of rounds that are done
	places  map[[2]int]int
	claimed map[api.Ballot]bool
	came    map[string]int
	number  int
	loss    float64
	far     int // whose letters are lost for now, as a set of bits
}

func newSystem(t *testing.T, random *rand.Rand, came map[string]int) *system {
	t.Helper()
	s := &system{t: t, random: random, came: came, places: map[[2]int]int{}, claimed: map[api.Ballot]bool{}}
	s.loss = []float64{0, 0.1, 0.3}[random.Intn(3)]
	cuts := []float64{0, 0.02, 0.1}[random.Intn(3)]
	sectors := 30 + random.Intn(100)
	for number := range 1 + random.Intn(7) {
		m := newMember(t, random, sectors, number, came)
		m.cuts = cuts
		s.members = append(s.members, m)
	}
	return s
}

// works makes a call of a voter; if it is cut, the rounds at that node are gone.
func (s *system) works(at int, call func() error) bool {
	s.t.Helper()
	m := s.members[at]
	disk := m.d
	yes := m.does(call)
	if m.d != disk {
		s.forget(at)
	}
	return yes
}

func (s *system) forget(at int) {
	for _, x := range s.tries {
		if x.at == at {
			x.gone = true
		}
	}
}

// claims is a ballot that a node claims; false, if it has none.
func (s *system) claims(at int, above api.Ballot) (api.Ballot, bool) {
	s.t.Helper()
	var own api.Ballot
	yes := s.works(at, func() error {
		b, err := s.members[at].v.Claim(above)
		own = b
		return err
	})
	if yes && (s.claimed[own] || own.Node != at) {
		s.t.Fatalf("node %d claims %v", at, own)
	}
	if yes {
		s.claimed[own] = true
	}
	return own, yes
}

// start starts a round: for a new entry, for one that another node may have too, or to read.
func (s *system) start() {
	s.t.Helper()
	if s.number == 0 || s.random.Intn(2) == 0 {
		s.number++
	}
	back := s.random.Intn(min(3, s.number))
	e := binds(s.number%4, s.number-back, (s.number-back)%3)
	x := &try{newPair(s.t, len(s.members), e, s.random.Intn(5) == 0), s.random.Intn(len(s.members)), false}
	s.tries = append(s.tries, x)
	s.begin(x)
}

// begin begins a round with a ballot of its node.
func (s *system) begin(x *try) {
	s.t.Helper()
	above := none
	if s.random.Intn(4) > 0 {
		above = s.greatest()
	}
	own, yes := s.claims(x.at, above)
	if !yes || x.gone {
		return
	}
	if err := x.begin(own); err != nil && x.k.stage < StageDone {
		x.fails("Begin", []any{own, err}, nil)
	}
	if x.k.begun > 1 {
		s.came["begun anew"]++
	}
	s.send(x)
}

// greatest is the greatest ballot that a round has.
func (s *system) greatest() api.Ballot {
	b := none
	for _, x := range s.tries {
		if higher(x.k.ballot, b) {
			b = x.k.ballot
		}
	}
	return b
}

// send sends a round's question to all that are missing.
func (s *system) send(x *try) {
	kind := asking
	if x.r.Stage() == StageTell {
		kind = telling
	}
	for to := range x.r.Missing() {
		s.post(letter{kind: kind, to: to, try: x, ballot: x.r.Ballot(), ledger: x.r.Ledger()})
	}
}

// post lets a letter wait, or loses it.
func (s *system) post(l letter) {
	voter := l.to
	if l.kind == promising || l.kind == accepting {
		voter = l.from
	}
	if s.far>>voter&1 == 0 && s.random.Float64() >= s.loss {
		s.letters = append(s.letters, l)
	}
}

// deliver takes a letter that waits, mostly one of the last; now and then it waits for a second time.
func (s *system) deliver() {
	s.t.Helper()
	if len(s.letters) == 0 {
		return
	}
	i := s.random.Intn(len(s.letters))
	if s.random.Intn(3) > 0 {
		i = len(s.letters) - 1 - s.random.Intn(min(len(s.letters), 12))
	}
	l := s.letters[i]
	if s.random.Intn(10) > 0 {
		s.letters[i] = s.letters[len(s.letters)-1]
		s.letters = s.letters[:len(s.letters)-1]
	}
	switch l.kind {
	case asking:
		s.asked(l)
	case telling:
		s.told(l)
	default:
		s.answered(l)
	}
}

// asked lets a voter promise.
func (s *system) asked(l letter) {
	s.t.Helper()
	answer := letter{kind: promising, from: l.to, try: l.try, ballot: l.ballot}
	yes := s.works(l.to, func() (err error) {
		answer.accepted, answer.ledger, err = s.members[l.to].v.Prepare(l.ballot)
		return err
	})
	if yes {
		s.post(answer)
	}
}

// told lets a voter accept.
func (s *system) told(l letter) {
	s.t.Helper()
	if s.works(l.to, func() error { return s.members[l.to].v.Accept(l.ballot, l.ledger) }) {
		s.post(letter{kind: accepting, from: l.to, try: l.try, ballot: l.ballot})
	}
}

// answered tells a round what a voter answered.
func (s *system) answered(l letter) {
	s.t.Helper()
	x := l.try
	if x.gone {
		return
	}
	before := x.k.stage
	counts := false
	if l.kind == promising {
		counts = x.promise(l.from, l.ballot, l.accepted, l.ledger)
	} else {
		counts = x.accepted(l.from, l.ballot)
	}
	if !counts {
		s.came["came in vain"]++
	}
	if x.k.stage == before {
		return
	}
	switch x.k.stage {
	case StageTell:
		s.send(x)
	case StageDone:
		s.done(x)
	case StageFull:
		s.came["full"]++
	}
}

// done holds the ledger of a round that is done against those of all others: the longest one has them as its beginnings.
func (s *system) done(x *try) {
	s.t.Helper()
	ledger := x.r.Ledger()
	switch {
	case isBeginning(s.longest, ledger):
		s.longest = ledger
	case !isBeginning(ledger, s.longest):
		s.t.Fatalf("of %d nodes: %v and %v are both done", len(s.members), s.longest, ledger)
	}
	s.came["done"]++
	if x.k.begun > 1 {
		s.came["done with a later ballot"]++
	}
	if x.k.reads {
		s.came["read"]++
		return
	}
	// So an entry has one place.
	name := [2]int{x.k.entry.Client, x.k.entry.Number}
	if old := s.places[name]; old != 0 {
		s.came["done again"]++
		if old != x.r.Place() {
			s.t.Fatalf("%v stands at %d and at %d", name, old, x.r.Place())
		}
	}
	s.places[name] = x.r.Place()
}

func (s *system) step() {
	s.t.Helper()
	kind := s.random.Intn(60)
	if kind == 0 || len(s.tries) == 0 {
		s.start()
		return
	}
	x := s.tries[len(s.tries)-1-s.random.Intn(min(len(s.tries), 4))]
	switch {
	case kind == 1:
		at := s.random.Intn(len(s.members))
		s.members[at].crash()
		s.forget(at)
	case kind == 2:
		s.far = s.random.Intn(128) & s.random.Intn(128)
	case kind < 6 && !x.gone:
		s.begin(x)
	case kind < 10 && !x.gone:
		s.send(x)
	default:
		s.deliver()
	}
}

func TestAgreement(t *testing.T) {
	random := rand.New(rand.NewSource(195))
	came := map[string]int{}
	longest, several := 0, 0
	for range 500 {
		s := newSystem(t, random, came)
		for range 1500 {
			s.step()
		}
		longest = max(longest, len(s.longest))
		if len(s.longest) > 3 && len(s.members) > 2 {
			several++
		}
	}
	asked(t, came, 300, "done", "done with a later ballot", "done again", "read", "begun anew", "came in vain",
		"cut", "cut behind it all", "cut ahead of it all", "refused "+api.ErrBallot.Error())
	asked(t, came, 50, "cut in a checkpoint", "cut in the middle")
	if longest < 15 || several < 200 {
		t.Errorf("the longest ledger has %d entries; %d systems came far", longest, several)
	}
}

// Rounds one behind the other, each at another node and behind crashes of all: each is done by as few as may be, and the ledger grows until it is full.
func TestRoundsOneByOne(t *testing.T) {
	random := rand.New(rand.NewSource(196))
	for nodes := 1; nodes <= 7; nodes++ {
		s := &system{t: t, random: random, came: map[string]int{}, places: map[[2]int]int{}, claimed: map[api.Ballot]bool{}}
		for number := range nodes {
			s.members = append(s.members, newMember(t, random, 200, number, s.came))
		}
		for i := range 64 {
			x := s.alone(deletes(i%16, i+1), false, i)
			x.stands(StageDone, i+1)
			if i%7 == 0 {
				s.alone(deletes(i%16, i+1), false, i+1).stands(StageDone, i+1)
				s.alone(api.Entry{}, true, i+2).stands(StageDone, i+1)
			}
		}
		s.alone(deletes(1, 65), false, 3).stands(StageFull, 0)
		s.alone(deletes(2, 19), false, 4).stands(StageDone, 19)
		s.alone(api.Entry{}, true, 5).stands(StageDone, 64)
	}
}

// alone is a round at a node, without loss, and with answers of just more than half.
func (s *system) alone(e api.Entry, reads bool, at int) *try {
	s.t.Helper()
	nodes := len(s.members)
	at %= nodes
	x := &try{pair: newPair(s.t, nodes, e, reads), at: at}
	own, yes := s.claims(at, s.greatest())
	if !yes {
		s.t.Fatal("no ballot")
	}
	s.tries = append(s.tries, x)
	x.begins(nil, own)
	for _, kind := range []int{asking, telling} {
		shift := s.random.Intn(nodes)
		for i := range half(nodes) {
			to := (i + shift) % nodes
			s.members[to].crash()
			l := letter{kind: kind, to: to, try: x, ballot: own, ledger: x.r.Ledger()}
			if kind == asking {
				s.asked(l)
			} else if x.r.Stage() == StageTell {
				s.told(l)
			}
			for _, answer := range s.letters {
				s.answered(answer)
			}
			s.letters = nil
		}
	}
	return x
}

// Any two sets of more than half meet: what one round let be accepted the next one is told, whoever of the others crashes.
func TestTheNextRoundIsTold(t *testing.T) {
	random := rand.New(rand.NewSource(197))
	for nodes := 1; nodes <= 7; nodes++ {
		for one := range 1 << nodes {
			for other := range 1 << nodes {
				if ones(one) != half(nodes) || ones(other) != half(nodes) || nodes > 4 && (one+other)%17 != 0 {
					continue
				}
				toldNext(t, random, nodes, one, other)
			}
		}
	}
}

// toldNext lets a round be done by a set of nodes alone, and asks another set.
func toldNext(t *testing.T, random *rand.Rand, nodes, one, other int) {
	t.Helper()
	a, b := asks(t, nodes, deletes(1, 1), false, ballot(1, 0)), asks(t, nodes, deletes(2, 2), false, ballot(2, 0))
	for from := range nodes {
		m := newMember(t, random, 20, from, map[string]int{})
		if one>>from&1 == 1 {
			accepted, ledger, err := m.v.Prepare(ballot(1, 0))
			if err != nil {
				t.Fatal(err)
			}
			a.promises(true, from, ballot(1, 0), accepted, ledger...)
			// Each in its turn is told the ledger, which is the same whoever promised.
			if err := m.v.Accept(ballot(1, 0), []api.Entry{deletes(1, 1)}); err != nil {
				t.Fatal(err)
			}
		}
		m.crash()
		if other>>from&1 == 0 {
			continue
		}
		accepted, ledger, err := m.v.Prepare(ballot(2, 0))
		if err != nil {
			t.Fatal(err)
		}
		b.promises(true, from, ballot(2, 0), accepted, ledger...)
	}
	a.stands(StageTell, 1)
	b.stands(StageTell, 2)
	b.tells(deletes(1, 1), deletes(2, 2))
}
