package voter

import (
	"slices"

	"almoner/api"
	"almoner/order"
	"almoner/wire"
)

// headSize is how many numbers of a state stand ahead of its ledger.
const headSize = 5

// state is what a voter promised, accepted and claimed.
type state struct {
	promised, accepted api.Ballot
	claimed            int
	ledger             []api.Entry // of what was accepted
}

// headOf is a state's numbers, as they stand in its bytes.
func headOf(s state) [headSize]int {
	return [headSize]int{s.promised.Round, s.promised.Node, s.accepted.Round, s.accepted.Node, s.claimed}
}

// withHead is the state, as yet without a ledger, that has these numbers.
func withHead(n [headSize]int) state {
	promised := api.Ballot{Round: n[0], Node: n[1]}
	accepted := api.Ballot{Round: n[2], Node: n[3]}
	return state{promised: promised, accepted: accepted, claimed: n[4]}
}

// bytes is a snapshot of the state.
func (s state) bytes() ([]byte, error) {
	ledger, err := order.Write(s.ledger)
	if err != nil {
		return nil, err
	}
	w := wire.NewWriter()
	for _, n := range headOf(s) {
		w.Num(n)
	}
	w.Bytes(ledger)
	return w.Done()
}

// stateOf is the state of a snapshot; ErrBytes, if it is none of a voter's.
func stateOf(snapshot []byte) (state, error) {
	from := wire.NewReader(snapshot)
	s, err := getState(from)
	if err != nil || from.End() != nil || !inForm(s) {
		return state{}, api.ErrBytes
	}
	return s, nil
}

func getState(from *wire.Reader) (state, error) {
	var head [headSize]int
	for i := range head {
		n, err := from.Num(api.MaxTime)
		if err != nil {
			return state{}, err
		}
		head[i] = n
	}
	s := withHead(head)
	var err error
	s.ledger, err = getLedger(from)
	return s, err
}

// inForm asks a state's ballots, and that there is a ledger only where one was accepted.
func inForm(s state) bool {
	if isNone(s.accepted) && len(s.ledger) > 0 {
		return false
	}
	return mayBe(s.promised) && mayBe(s.accepted)
}

// mayBe tells whether a ballot may stand in a state.
func mayBe(b api.Ballot) bool { return isNone(b) || isLegal(b) }

// getLedger reads a ledger's bytes as a list of bytes.
func getLedger(from *wire.Reader) ([]api.Entry, error) {
	b, err := from.Bytes(from.Left())
	if err != nil {
		return nil, err
	}
	return order.Read(b)
}

// behind is the state that a record makes of this one; ErrBytes, if it doesn't fit it.
func (s state) behind(r record) (state, error) {
	switch r.kind {
	case promise:
		s.promised = r.ballot
	case accepting:
		if r.stay > len(s.ledger) || r.stay+len(r.others) > api.MaxLedger {
			return state{}, api.ErrBytes
		}
		s.promised, s.accepted = r.ballot, r.ballot
		s.ledger = clone(slices.Concat(s.ledger[:r.stay], r.others))
	case claim:
		s.claimed = max(s.claimed, r.ballot.Round)
	}
	return s, nil
}

// clone is a copy that shares no list of tasks with the ledger, and none among its entries.
func clone(ledger []api.Entry) []api.Entry {
	list := slices.Clone(ledger)
	for i, e := range list {
		list[i].Order.Tasks = slices.Clone(e.Order.Tasks)
	}
	return list
}

// sameFirst is how many entries ledgers have the same, from the beginning on.
func sameFirst(a, b []api.Entry) int {
	count := 0
	for count < min(len(a), len(b)) && order.Same(a[count], b[count]) {
		count++
	}
	return count
}
