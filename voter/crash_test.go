package voter

import (
	"bytes"
	"math"
	"math/rand"
	"testing"

	"almoner/api"
	"almoner/disk"
)

// P18.2 and P18.3: calls that are cut by crashes, at each of their writes, whatever is kept and torn.

// changed is where images differ, rising: the sectors that were written between them.
func changed(from, to [][]byte) []int {
	var places []int
	for i := range from {
		if !bytes.Equal(from[i], to[i]) {
			places = append(places, i)
		}
	}
	return places
}

// crashed is a disk on which some sectors were written ahead of a crash.
func crashed(t *testing.T, from, to [][]byte, places []int, keep uint64, torn int) *disk.Disk {
	t.Helper()
	d := diskOf(t, from)
	for _, i := range places {
		if err := d.Write(i, to[i]); err != nil {
			t.Fatal(err)
		}
	}
	d.Crash(keep, torn)
	return d
}

// cutAt is a place to cut a call at: behind so many writes ahead of its flush number group, which keeps and tears of these.
type cutAt struct {
	group, writes int
	keep          uint64
	torn          int
}

// reopen opens the voter anew behind a cut of the last call, and asks that it tells what was ahead of the call, or what it came to.
func (p *pair) reopen(before facts, c cutAt) {
	p.t.Helper()
	after, images := p.k.facts, p.k.images
	number := p.k.number
	from, to := images[c.group], images[c.group+1]
	places := changed(from, to)[:c.writes]
	p.d = crashed(p.t, from, to, places, c.keep, c.torn)
	p.k = &book{d: crashed(p.t, from, to, places, c.keep, c.torn)}
	left := image(p.d)
	p.openAs(number)
	if !p.k.is(before) && !p.k.is(after) {
		p.fails("a cut call", p.k.facts, []facts{before, after})
	}
	if sameImage(left, images[len(images)-1]) && !p.k.is(after) {
		p.fails("a call that was cut behind its writes", p.k.facts, after)
	}
	// Of the last record nothing is there yet.
	if (c.group < len(images)-2 || sameImage(left, from)) && !p.k.is(before) {
		p.fails("a call that was cut ahead of its writes", p.k.facts, before)
	}
}

// scene is a voter, made the same each time, and a call.
type scene struct {
	name    string
	sectors int
	begin   func(p *pair)
	call    func(p *pair)
	flushes int // of the call
}

func (s scene) played(t *testing.T) *pair {
	t.Helper()
	p := newPair(t, s.sectors, 3)
	s.begin(p)
	return p
}

// used is a voter whose areas hold older records below, of several sectors.
func used(p *pair) {
	p.t.Helper()
	for i := range 12 {
		p.accepts(nil, ballot(i+1, 1), binds(i+1, 4), binds(i+2, 7), creates(i+1))
		p.prepares(nil, ballot(i+1, 4))
		_, _ = p.claim(ballot(0, 0))
	}
}

func scenes() []scene {
	nothing := func(p *pair) {}
	prepare := func(p *pair) { p.prepares(nil, ballot(50, 2)) }
	accept := func(p *pair) { p.accepts(nil, ballot(50, 2), deletes(1, 1)) }
	long := func(p *pair) { p.accepts(nil, ballot(50, 2), binds(1, 8), binds(2, 8), binds(3, 8), creates(9)) }
	claim := func(p *pair) { p.claims(ballot(51, 3), ballot(50, 2)) }
	fill := func(room int) func(p *pair) {
		return func(p *pair) {
			p.accepts(nil, ballot(1, 1), binds(1, 7), binds(2, 7), creates(4))
			for i := 1; p.k.log.Left() > room; i++ {
				p.claims(ballot(i+1, 3), ballot(i, 0))
			}
		}
	}
	left := func(p *pair) {
		used(p)
		ahead := p.k.facts
		p.accepts(nil, ballot(40, 1), binds(1, 8), binds(2, 8), creates(9))
		group := len(p.k.images) - 2
		p.reopen(ahead, cutAt{group, len(changed(p.k.images[group], p.k.images[group+1])), 6, -1})
	}
	return []scene{
		{"a promise on a new disk", 20, nothing, prepare, 1},
		{"an accepting on a new disk", 20, nothing, accept, 1},
		{"a long accepting on a new disk", 20, nothing, long, 1},
		{"a claim on a new disk", 20, nothing, claim, 1},
		{"a promise above older records", 60, used, prepare, 1},
		{"a long accepting above older records", 60, used, long, 1},
		{"a claim above older records", 60, used, claim, 1},
		{"a promise behind what was left out", 60, left, prepare, 1},
		{"a long accepting behind what was left out", 60, left, long, 1},
		{"a promise, the log being full", 20, fill(0), prepare, 2},
		{"an accepting, the log being full", 20, fill(0), accept, 2},
		{"a long accepting, the log being nearly full", 20, fill(70), long, 2},
		{"a claim, the log being full", 19, fill(0), claim, 2},
		{"the smallest areas that hold a record", 6, func(p *pair) { p.prepares(nil, ballot(1, 1)) }, accept, 2},
	}
}

func TestACallThatIsCut(t *testing.T) {
	for _, s := range scenes() {
		after := s.played(t)
		before := after.k.facts
		s.call(after)
		if after.k.is(before) || len(after.k.images)-1 != s.flushes {
			t.Fatalf("%s: %d flushes", s.name, len(after.k.images)-1)
		}
		for group := range s.flushes {
			places := changed(after.k.images[group], after.k.images[group+1])
			if len(places) == 0 || len(places) > 7 {
				t.Fatalf("%s: %d writes", s.name, len(places))
			}
			for writes := range len(places) + 1 {
				for keep := range uint64(1 << writes) {
					for torn := -1; torn < writes; torn++ {
						behindACut(t, after, before, cutAt{group, writes, keep, torn})
					}
				}
			}
		}
	}
}

// behindACut asks that what is opened behind a cut stays as it is, and goes on.
func behindACut(t *testing.T, full *pair, before facts, c cutAt) {
	t.Helper()
	p := &pair{t: t, k: full.k}
	p.reopen(before, c)
	p.crash(math.MaxUint64, 0)
	p.open()
	most := max(p.k.promised.Round, p.k.claimed)
	p.claims(ballot(most+1, 3), ballot(0, 0))
	p.accepts(nil, ballot(most+1, 3), creates(99))
	p.open()
	p.tells(ballot(most+1, 3), ballot(most+1, 3), creates(99))
}

// A promise that isn't safe is none: what is torn is told by no later opening.
func TestWhatWasCutStaysOut(t *testing.T) {
	for _, s := range scenes() {
		full := s.played(t)
		before := full.k.facts
		s.call(full)
		group := s.flushes - 1
		writes := len(changed(full.k.images[group], full.k.images[group+1]))
		for keep := range uint64(1 << writes) {
			p := &pair{t: t, k: full.k}
			p.reopen(before, cutAt{group, writes, keep, -1})
			if !p.k.is(before) {
				continue
			}
			for i := range 4 {
				p.claims(ballot(max(p.k.promised.Round, p.k.claimed)+1, 3), ballot(0, 0))
				p.prepares(nil, ballot(p.k.promised.Round+1, i))
				p.open()
			}
		}
	}
}

// story is a voter's life with crashes, and what it answered, kept by the answers alone.
type story struct {
	*pair
	random             *rand.Rand
	promised, accepted api.Ballot
	claims             map[api.Ballot]bool
	came               map[string]int // how often a call came to an answer
}

func newStory(t *testing.T, random *rand.Rand, came map[string]int) *story {
	t.Helper()
	sectors := []int{4, 6, 7, 8, 10, 14, 20, 33, 60, 120}[random.Intn(10)]
	return &story{pair: newPair(t, sectors, random.Intn(7)), random: random, claims: map[api.Ballot]bool{}, came: came}
}

func (s *story) note(call string, err error) {
	if err != nil {
		call += " " + err.Error()
	}
	s.came[call]++
}

// rises asks that nothing sank, and that what is accepted isn't above what is promised.
func (s *story) rises() {
	s.t.Helper()
	promised := s.v.Promised()
	accepted, _ := s.v.Accepted()
	if higher(s.promised, promised) || higher(s.accepted, accepted) || higher(accepted, promised) {
		s.t.Fatalf("promised %v, accepted %v behind %v, %v", promised, accepted, s.promised, s.accepted)
	}
	s.promised, s.accepted = promised, accepted
}

// step is a call, which may be cut.
func (s *story) step(cuts float64) {
	s.t.Helper()
	before := s.k.facts
	s.k.images = nil
	own := s.call()
	if len(s.k.images) > 1 && s.random.Float64() < cuts {
		s.cut(before)
		// The answer was told to nobody.
		own = api.Ballot{}
	}
	if own != (api.Ballot{}) && s.claims[own] {
		s.t.Fatalf("%v is claimed twice", own)
	}
	if own != (api.Ballot{}) {
		s.claims[own] = true
	}
	s.rises()
}

// call is any call; its answer is a ballot that was claimed.
func (s *story) call() api.Ballot {
	s.t.Helper()
	near := s.v.Promised()
	switch s.random.Intn(20) {
	case 0, 1, 2, 3, 4, 5:
		s.note("prepare", s.prepare(someBallot(s.random, near)))
	case 6, 7, 8, 9, 10, 11, 12:
		ledger := someLedger(s.random, s.k.ledger)
		s.note("accept", s.accept(someBallot(s.random, near), ledger))
	case 13:
		s.note("accept", s.accept(someBallot(s.random, near), wrongLedger(s.random, s.k.ledger)))
	case 14, 15, 16:
		own, err := s.claim(someBallot(s.random, near))
		s.note("claim", err)
		return own
	case 17:
		list := illegal()
		wrong := list[s.random.Intn(len(list))]
		s.note("prepare", s.prepare(wrong))
		s.note("accept", s.accept(wrong, s.k.ledger))
	case 18:
		s.crash(s.random.Uint64(), s.random.Intn(5)-1)
	case 19:
		s.open()
	}
	return api.Ballot{}
}

// cut crashes in the middle of the last call.
func (s *story) cut(before facts) {
	s.t.Helper()
	after := s.k.facts
	group := s.random.Intn(len(s.k.images) - 1)
	all := len(changed(s.k.images[group], s.k.images[group+1]))
	writes := all
	if s.random.Intn(2) == 0 {
		writes = s.random.Intn(all + 1)
	}
	keep := s.random.Uint64() | s.random.Uint64()
	if s.random.Intn(2) == 0 {
		keep |= s.random.Uint64() | s.random.Uint64() | s.random.Uint64()
	}
	s.reopen(before, cutAt{group, writes, keep, s.random.Intn(writes+3) - 2})
	switch {
	case before.is(after):
		s.note("cut of nothing", nil)
	case s.k.is(after):
		s.note("cut that came to the call", nil)
	default:
		s.note("cut that left nothing", nil)
	}
}

func TestManyStories(t *testing.T) {
	random := rand.New(rand.NewSource(181))
	came := map[string]int{}
	for range 600 {
		s := newStory(t, random, came)
		cuts := []float64{0, 0.1, 0.5}[random.Intn(3)]
		for range 80 {
			s.step(cuts)
		}
		s.crash(0, -1)
		s.open()
		s.rises()
	}
	asked(t, came, 500, "prepare", "accept", "claim", "cut that came to the call", "cut that left nothing")
	for _, err := range []error{api.ErrNumber, api.ErrBallot, api.ErrFull} {
		asked(t, came, 500, "prepare "+err.Error(), "accept "+err.Error())
	}
	asked(t, came, 200, "accept "+api.ErrLarge.Error(), "accept "+api.ErrState.Error(), "claim "+api.ErrFull.Error())
}

// asked asks that each of these answers came often enough for the stories to be of use.
func asked(t *testing.T, came map[string]int, least int, calls ...string) {
	t.Helper()
	for _, call := range calls {
		if came[call] < least {
			t.Errorf("%s came only %d times", call, came[call])
		}
	}
}

// Stories near the last rounds that there are.
func TestStoriesOfTheLastRounds(t *testing.T) {
	random := rand.New(rand.NewSource(182))
	came := map[string]int{}
	for range 100 {
		s := newStory(t, random, came)
		near := ballot(farthest-random.Intn(30), random.Intn(7))
		s.note("prepare", s.prepare(near))
		for range 60 {
			s.step(0.2)
		}
	}
	asked(t, came, 100, "claim "+api.ErrFull.Error(), "prepare "+api.ErrNumber.Error(), "claim", "prepare", "accept")
}

// Disks are lost in the middle of stories: what was answered is told still, and nothing more is taken.
func TestStoriesOfLostDisks(t *testing.T) {
	random := rand.New(rand.NewSource(183))
	came := map[string]int{}
	for range 100 {
		s := newStory(t, random, came)
		for range random.Intn(30) {
			s.step(0.1)
		}
		before := s.k.facts
		s.d.Lose()
		s.k.d.Lose()
		for range 30 {
			near := s.v.Promised()
			s.note("prepare", s.prepare(someBallot(random, near)))
			s.note("accept", s.accept(someBallot(random, near), someLedger(random, s.k.ledger)))
			_, err := s.claim(someBallot(random, near))
			s.note("claim", err)
		}
		if !s.k.is(before) {
			s.fails("a lost disk", s.k.facts, before)
		}
		refusedOpen(t, s.d, s.k.number, api.ErrLost)
	}
	lost := " " + api.ErrLost.Error()
	asked(t, came, 100, "prepare"+lost, "accept"+lost, "claim"+lost)
}
