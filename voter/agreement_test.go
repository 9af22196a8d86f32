package voter

import (
	"math/rand"
	"testing"

	"almoner/api"
)

// P18.4: several voters, with crashes and openings. A proposer is told here by the words alone: it asks for promises, goes on with the newest ledger that it is told, puts its entry behind it, and lets it be accepted.

// proposal is a proposer's try with a ballot.
type proposal struct {
	ballot   api.Ballot
	entry    api.Entry
	promised map[int]bool
	newest   api.Ballot
	ledger   []api.Entry // of the newest; with the entry behind it, once it is told
	told     bool
	accepted map[int]bool // by whom, whether the proposer heard of it or not
}

// cluster is voters, and the tries with their ballots.
type cluster struct {
	t         *testing.T
	random    *rand.Rand
	voters    []*story
	proposals []*proposal
	chosen    [][]api.Entry // ledgers that more than half accepted
	came      map[string]int
	cuts      float64
}

func newCluster(t *testing.T, random *rand.Rand, came map[string]int) *cluster {
	t.Helper()
	c := &cluster{t: t, random: random, came: came, cuts: []float64{0, 0.05, 0.3}[random.Intn(3)]}
	for number := range 1 + random.Intn(7) {
		p := newPair(t, 30+random.Intn(60), number)
		c.voters = append(c.voters, &story{pair: p, random: random, claims: map[api.Ballot]bool{}, came: came})
	}
	return c
}

// half is how many voters are more than half.
func (c *cluster) half() int {
	count := 0
	for 2*count <= len(c.voters) {
		count++
	}
	return count
}

// cutNow cuts the last call of a voter, sometimes; the answer is lost then.
func (c *cluster) cutNow(s *story, before facts) bool {
	c.t.Helper()
	if len(s.k.images) < 2 || c.random.Float64() >= c.cuts {
		return false
	}
	s.cut(before)
	s.rises()
	return true
}

func (c *cluster) start() {
	c.t.Helper()
	s := c.voters[c.random.Intn(len(c.voters))]
	above := api.Ballot{}
	if len(c.proposals) > 0 && c.random.Intn(2) == 0 {
		above = c.proposals[c.random.Intn(len(c.proposals))].ballot
	}
	before := s.k.facts
	own, err := s.claim(above)
	if err != nil || c.cutNow(s, before) {
		return
	}
	for _, p := range c.proposals {
		if p.ballot == own {
			c.t.Fatalf("%v is claimed twice", own)
		}
	}
	c.proposals = append(c.proposals, &proposal{
		ballot: own, entry: deletes(s.k.number, 1+len(c.proposals)),
		promised: map[int]bool{}, accepted: map[int]bool{},
	})
}

// someProposal is mostly one of the last ones.
func (c *cluster) someProposal() *proposal {
	if len(c.proposals) == 0 {
		return nil
	}
	back := c.random.Intn(1 + c.random.Intn(len(c.proposals)))
	return c.proposals[len(c.proposals)-1-back]
}

// ask asks a voter for its promise; the answer may be lost.
func (c *cluster) ask(p *proposal, at int) {
	c.t.Helper()
	s := c.voters[at]
	before := s.k.facts
	accepted, ledger, err := s.v.Prepare(p.ballot)
	if _, _, wantErr := s.k.prepare(p.ballot); err != wantErr {
		s.fails("Prepare", err, wantErr)
	}
	s.note("asked", err)
	if err != nil || c.cutNow(s, before) || c.random.Intn(5) == 0 || p.told || p.promised[at] {
		return
	}
	p.promised[at] = true
	if higher(accepted, p.newest) {
		p.newest, p.ledger = accepted, ledger
	}
	if len(p.promised) == c.half() {
		p.told = true
		p.ledger = append(p.ledger, p.entry)
	}
}

// tell lets a voter accept.
func (c *cluster) tell(p *proposal, at int) {
	c.t.Helper()
	s := c.voters[at]
	before := s.k.facts
	err := s.v.Accept(p.ballot, p.ledger)
	if want := s.k.accept(p.ballot, p.ledger); err != want {
		s.fails("Accept", err, want)
	}
	s.note("told", err)
	if err != nil {
		return
	}
	c.cutNow(s, before)
	// Also an accepting that was cut counts, if the disk kept it.
	accepted, ledger := s.v.Accepted()
	if accepted != p.ballot {
		return
	}
	if !sameLedger(ledger, p.ledger) {
		s.fails("what was accepted", ledger, p.ledger)
	}
	p.accepted[at] = true
	if len(p.accepted) == c.half() {
		c.chose(p.ledger)
	}
}

// chose asks that of any two ledgers that more than half accepted one is the beginning of the other.
func (c *cluster) chose(ledger []api.Entry) {
	c.t.Helper()
	for _, other := range c.chosen {
		short, long := other, ledger
		if len(short) > len(long) {
			short, long = long, short
		}
		if !sameLedger(short, long[:len(short)]) {
			c.t.Fatalf("%v and %v are both accepted by more than half of %d", other, ledger, len(c.voters))
		}
	}
	c.chosen = append(c.chosen, copied(ledger))
	c.came["chosen"]++
}

func (c *cluster) step() {
	c.t.Helper()
	at := c.random.Intn(len(c.voters))
	kind := c.random.Intn(30)
	p := c.someProposal()
	switch {
	case kind == 0 || p == nil:
		c.start()
	case kind == 1:
		c.voters[at].crash(c.random.Uint64(), 0)
		c.voters[at].open()
		c.voters[at].rises()
	case p.told:
		c.tell(p, at)
	default:
		c.ask(p, at)
	}
}

func TestAgreement(t *testing.T) {
	random := rand.New(rand.NewSource(187))
	came := map[string]int{}
	longest, several := 0, 0
	for range 250 {
		c := newCluster(t, random, came)
		for range 400 {
			c.step()
		}
		for _, ledger := range c.chosen {
			longest = max(longest, len(ledger))
		}
		if len(c.chosen) > 2 {
			several++
		}
	}
	asked(t, came, 200, "chosen", "asked", "told", "asked "+api.ErrBallot.Error(), "told "+api.ErrBallot.Error(), "cut that came to the call", "cut that left nothing")
	if longest < 5 || several < 50 {
		t.Errorf("the longest ledger has %d entries; in %d clusters three were chosen", longest, several)
	}
}

// More than half are needed, and any two such meet: what one round let be accepted the next one is told, whoever of the others crashes.
func TestTheNextRoundIsTold(t *testing.T) {
	for count := 1; count <= 7; count++ {
		half := Half(count)
		for first := range 1 << count {
			for second := range 1 << count {
				if ones(first) != half || ones(second) != half || count > 5 && (first+second)%11 != 0 {
					continue
				}
				toldNext(t, count, first, second)
			}
		}
	}
}

func ones(set int) int {
	count := 0
	for ; set > 0; set /= 2 {
		count += set % 2
	}
	return count
}

// toldNext lets the voters of the first set accept, and asks those of the second one.
func toldNext(t *testing.T, count, first, second int) {
	t.Helper()
	told := 0
	for number := range count {
		d := newDisk(t, 20)
		v, err := Format(d, number)
		if err != nil {
			t.Fatal(err)
		}
		if first>>number&1 == 1 {
			if err := v.Accept(ballot(1, 0), row(1)); err != nil {
				t.Fatal(err)
			}
		}
		d.Crash(0, -1)
		if v, err = Open(d, number); err != nil {
			t.Fatal(err)
		}
		if second>>number&1 == 0 {
			continue
		}
		accepted, ledger, err := v.Prepare(ballot(2, 0))
		if err != nil {
			t.Fatal(err)
		}
		if accepted == ballot(1, 0) && sameLedger(ledger, row(1)) {
			told++
		}
		if err := v.Accept(ballot(1, 0), row(1)); err != api.ErrBallot {
			t.Fatalf("voter %d takes what is below its promise: %v", number, err)
		}
	}
	if told == 0 {
		t.Fatalf("of %d voters %b accepted, and %b don't tell", count, first, second)
	}
}
