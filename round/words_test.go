package round

import (
	"cmp"
	"slices"
	"testing"

	"almoner/api"
)

// The words of the chapter, kept by the test itself, with their numbers written out.

// farthest is MaxTime, written out.
const farthest = 1099511627776

func within(n, least, most int) bool { return least <= n && n <= most }

func ballot(round, node int) api.Ballot { return api.Ballot{Round: round, Node: node} }

func legalBallot(b api.Ballot) bool { return within(b.Round, 1, farthest) && within(b.Node, 0, 6) }

func higher(a, b api.Ballot) bool {
	return cmp.Or(cmp.Compare(a.Round, b.Round), cmp.Compare(a.Node, b.Node)) > 0
}

func amounts(list ...int) bool {
	return !slices.ContainsFunc(list, func(n int) bool { return !within(n, 0, farthest) })
}

func zero(list ...int) bool {
	return !slices.ContainsFunc(list, func(n int) bool { return n != 0 })
}

// fits tells whether an entry is in form.
func fits(e api.Entry) bool {
	o, s := e.Order, e.Order.Server
	if !within(e.Client, 0, 15) || !within(e.Number, 1, farthest) || !amounts(o.At, o.Id) {
		return false
	}
	switch o.Kind {
	case 1, 2:
		return amounts(s.Kind, s.Q, s.T) && zero(o.Policy, len(o.Tasks))
	case 3:
		return zero(s.Kind, s.Q, s.T, o.Policy, len(o.Tasks))
	case 4:
		all := amounts(o.Policy) && len(o.Tasks) <= 8
		for _, t := range o.Tasks {
			all = all && amounts(t.C, t.P, t.D, t.S)
		}
		return all && zero(s.Kind, s.Q, s.T)
	}
	return false
}

func sameEntry(a, b api.Entry) bool {
	x, y := a.Order, b.Order
	if !slices.Equal(x.Tasks, y.Tasks) || x.Server != y.Server {
		return false
	}
	return a.Client == b.Client && a.Number == b.Number && x.Kind == y.Kind && x.Id == y.Id && x.Policy == y.Policy && x.At == y.At
}

func sameLedger(a, b []api.Entry) bool { return slices.EqualFunc(a, b, sameEntry) }

// isBeginning tells whether the first ledger is the beginning of the second one.
func isBeginning(a, b []api.Entry) bool { return len(a) <= len(b) && sameLedger(a, b[:len(a)]) }

// standsAt is the place of the first entry of e's client and number; 0, if there is none.
func standsAt(ledger []api.Entry, e api.Entry) int {
	for i, other := range ledger {
		if other.Client == e.Client && other.Number == e.Number {
			return i + 1
		}
	}
	return 0
}

// copied shares nothing with the ledger.
func copied(ledger []api.Entry) []api.Entry {
	var list []api.Entry
	for _, e := range ledger {
		e.Order.Tasks = append([]api.Task{}, e.Order.Tasks...)
		list = append(list, e)
	}
	return list
}

// told is a promise that counted.
type told struct {
	from     int
	accepted api.Ballot
	ledger   []api.Entry
}

// book is a round as the chapter's words tell it: it keeps who answered what to its ballot.
type book struct {
	nodes      int
	entry      api.Entry
	reads      bool
	stage      int
	ballot     api.Ballot
	promises   []told
	acceptings []int
	ledger     []api.Entry
	begun      int
}

func newBook(nodes int, e api.Entry, reads bool) (*book, error) {
	switch {
	case !within(nodes, 1, 7):
		return nil, api.ErrNumber
	case !reads && !fits(e):
		return nil, api.ErrState
	}
	return &book{nodes: nodes, entry: copied([]api.Entry{e})[0], reads: reads}, nil
}

func (k *book) begin(b api.Ballot) error {
	switch {
	case k.stage == 3 || k.stage == 4:
		return api.ErrState
	case !legalBallot(b) || !higher(b, k.ballot):
		return api.ErrBallot
	}
	k.ballot, k.stage = b, 1
	k.promises, k.acceptings, k.ledger = nil, nil, nil
	k.begun++
	return nil
}

func (k *book) promise(from int, b, accepted api.Ballot, l []api.Entry) bool {
	if k.stage != 1 || b != k.ballot || !slices.Contains(k.missing(), from) {
		return false
	}
	k.promises = append(k.promises, told{from, accepted, copied(l)})
	if 2*len(k.promises) <= k.nodes {
		return true
	}
	k.stage, k.ledger = 2, k.newest()
	if k.reads || standsAt(k.ledger, k.entry) > 0 {
		return true
	}
	if len(k.ledger) >= 64 {
		k.stage, k.ledger = 4, nil
		return true
	}
	k.ledger = append(copied(k.ledger), k.entry)
	return true
}

// newest is the ledger of the greatest ballot that was told, of one ballot the first one.
func (k *book) newest() []api.Entry {
	list := append([]told{{}}, k.promises...)
	slices.SortStableFunc(list, func(a, b told) int {
		return -cmp.Or(cmp.Compare(a.accepted.Round, b.accepted.Round), cmp.Compare(a.accepted.Node, b.accepted.Node))
	})
	return list[0].ledger
}

func (k *book) accept(from int, b api.Ballot) bool {
	if k.stage != 2 || b != k.ballot || !slices.Contains(k.missing(), from) {
		return false
	}
	k.acceptings = append(k.acceptings, from)
	if 2*len(k.acceptings) > k.nodes {
		k.stage = 3
	}
	return true
}

func (k *book) place() int {
	switch {
	case k.stage != 2 && k.stage != 3:
		return 0
	case k.reads:
		return len(k.ledger)
	}
	return standsAt(k.ledger, k.entry)
}

func (k *book) missing() []int {
	var list []int
	for node := 0; node < k.nodes; node++ {
		promised := slices.ContainsFunc(k.promises, func(p told) bool { return p.from == node })
		if k.stage == 1 && !promised || k.stage == 2 && !slices.Contains(k.acceptings, node) {
			list = append(list, node)
		}
	}
	return list
}

// pair is a round, and the book that is kept beside it.
type pair struct {
	t *testing.T
	r *Round
	k *book
}

func newPair(t *testing.T, nodes int, e api.Entry, reads bool) *pair {
	t.Helper()
	p := &pair{t: t}
	var err, wantErr error
	p.r, err = New(nodes, e, reads)
	p.k, wantErr = newBook(nodes, e, reads)
	if p.r == nil || err != nil || wantErr != nil {
		t.Fatalf("New of %d nodes, %+v, %v: %v; want %v", nodes, e, reads, err, wantErr)
	}
	p.same("New")
	return p
}

func (p *pair) fails(call string, got, want any) {
	p.t.Helper()
	p.t.Fatalf("%s: %+v; want %+v; the round is %+v", call, got, want, *p.k)
}

// same holds all that the round tells against the book.
func (p *pair) same(behind string) {
	p.t.Helper()
	if got := p.r.Stage(); got != p.k.stage {
		p.fails("Stage behind "+behind, got, p.k.stage)
	}
	if got := p.r.Ballot(); got != p.k.ballot {
		p.fails("Ballot behind "+behind, got, p.k.ballot)
	}
	if got := p.r.Ledger(); !sameLedger(got, p.k.ledger) {
		p.fails("Ledger behind "+behind, got, p.k.ledger)
	}
	if got := p.r.Place(); got != p.k.place() {
		p.fails("Place behind "+behind, got, p.k.place())
	}
	if got := slices.Collect(p.r.Missing()); !slices.Equal(got, p.k.missing()) {
		p.fails("Missing behind "+behind, got, p.k.missing())
	}
	if got := p.r.Begun(); got != p.k.begun {
		p.fails("Begun behind "+behind, got, p.k.begun)
	}
}

func (p *pair) begin(b api.Ballot) error {
	p.t.Helper()
	err := p.r.Begin(b)
	if want := p.k.begin(b); err != want {
		p.fails("Begin", []any{b, err}, want)
	}
	p.same("Begin")
	return err
}

func (p *pair) promise(from int, b, accepted api.Ballot, l []api.Entry) bool {
	p.t.Helper()
	counts := p.r.Promise(from, b, accepted, l)
	if want := p.k.promise(from, b, accepted, l); counts != want {
		p.fails("Promise", []any{from, b, accepted, l, counts}, want)
	}
	p.same("Promise")
	return counts
}

func (p *pair) accepted(from int, b api.Ballot) bool {
	p.t.Helper()
	counts := p.r.Accepted(from, b)
	if want := p.k.accept(from, b); counts != want {
		p.fails("Accepted", []any{from, b, counts}, want)
	}
	p.same("Accepted")
	return counts
}

// The calls with their answers written out, beside what the book says.

func (p *pair) begins(want error, b api.Ballot) {
	p.t.Helper()
	if err := p.begin(b); err != want {
		p.fails("Begin", []any{b, err}, want)
	}
}

func (p *pair) promises(want bool, from int, b, accepted api.Ballot, l ...api.Entry) {
	p.t.Helper()
	if counts := p.promise(from, b, accepted, l); counts != want {
		p.fails("Promise", []any{from, b, accepted, l, counts}, want)
	}
}

func (p *pair) accepts(want bool, from int, b api.Ballot) {
	p.t.Helper()
	if counts := p.accepted(from, b); counts != want {
		p.fails("Accepted", []any{from, b, counts}, want)
	}
}

// stands asks the stage and the place.
func (p *pair) stands(stage, place int) {
	p.t.Helper()
	if p.r.Stage() != stage || p.r.Place() != place {
		p.fails("Stage and Place", []int{p.r.Stage(), p.r.Place()}, []int{stage, place})
	}
}

// tells asks the ledger.
func (p *pair) tells(ledger ...api.Entry) {
	p.t.Helper()
	if got := p.r.Ledger(); !sameLedger(got, ledger) {
		p.fails("Ledger", got, ledger)
	}
}

// misses asks who hasn't answered.
func (p *pair) misses(nodes ...int) {
	p.t.Helper()
	if got := slices.Collect(p.r.Missing()); !slices.Equal(got, nodes) {
		p.fails("Missing", got, nodes)
	}
}
