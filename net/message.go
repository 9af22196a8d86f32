package net

import (
	"slices"

	"almoner/api"
	"almoner/order"
	"almoner/wire"
)

// headSize is how many numbers of a message stand ahead of its ledger.
const headSize = 8

// Check is ErrState, or nil of a message in form.
func Check(m api.Message) error {
	if !isNode(m.From) || !isNode(m.To) || m.Job < 0 || m.Job > api.MaxTime {
		return api.ErrState
	}
	if !isLegal(m.Ballot) || !kindAllows(m) {
		return api.ErrState
	}
	return nil
}

// isLegal tells whether a ballot is; that of none isn't.
func isLegal(b api.Ballot) bool {
	return b.Round >= 1 && b.Round <= api.MaxTime && isNode(b.Node)
}

// kindAllows asks what was accepted, and the ledger, by the message's Kind.
func kindAllows(m api.Message) bool {
	noneAccepted := m.Accepted == api.Ballot{}
	noLedger := len(m.Ledger) == 0
	switch m.Kind {
	case api.MsgPrepare, api.MsgAccepted:
		return noneAccepted && noLedger
	case api.MsgPromise:
		if noneAccepted {
			return noLedger
		}
		return isLegal(m.Accepted) && ledgerInForm(m.Ledger)
	case api.MsgAccept:
		return noneAccepted && ledgerInForm(m.Ledger)
	case api.MsgRefused:
		return isLegal(m.Accepted) && noLedger
	}
	return false
}

func ledgerInForm(ledger []api.Entry) bool {
	return len(ledger) <= api.MaxLedger && !slices.ContainsFunc(ledger, outOfForm)
}

func outOfForm(e api.Entry) bool { return order.Check(e) != nil }

// headOf is a message's numbers, as they stand in its bytes.
func headOf(m api.Message) [headSize]int {
	return [headSize]int{m.Kind, m.From, m.To, m.Job, m.Ballot.Round, m.Ballot.Node, m.Accepted.Round, m.Accepted.Node}
}

// messageOf is the message, as yet without a ledger, that has these numbers.
func messageOf(n [headSize]int) api.Message {
	ballot := api.Ballot{Round: n[4], Node: n[5]}
	accepted := api.Ballot{Round: n[6], Node: n[7]}
	return api.Message{Kind: n[0], From: n[1], To: n[2], Job: n[3], Ballot: ballot, Accepted: accepted}
}

// Put is a message's bytes; ErrState, if it isn't in form.
func Put(m api.Message) ([]byte, error) {
	if err := Check(m); err != nil {
		return nil, err
	}
	ledger, err := order.Write(m.Ledger)
	if err != nil {
		return nil, err
	}
	w := wire.NewWriter()
	for _, n := range headOf(m) {
		w.Num(n)
	}
	w.Bytes(ledger)
	plain, err := w.Done()
	if err != nil {
		return nil, err
	}
	return wire.Seal(plain), nil
}

// Get is the message of bytes; the errors of wire's Open; ErrBytes, if they are those of no message in form.
func Get(b []byte) (api.Message, error) {
	plain, err := wire.Open(b)
	if err != nil {
		return api.Message{}, err
	}
	r := wire.NewReader(plain)
	m, err := getMessage(r)
	if err != nil || r.End() != nil || Check(m) != nil {
		return api.Message{}, api.ErrBytes
	}
	return m, nil
}

func getMessage(r *wire.Reader) (api.Message, error) {
	var head [headSize]int
	for i := range head {
		n, err := r.Num(api.MaxTime)
		if err != nil {
			return api.Message{}, err
		}
		head[i] = n
	}
	m := messageOf(head)
	ledger, err := r.Bytes(r.Left())
	if err != nil {
		return api.Message{}, err
	}
	m.Ledger, err = order.Read(ledger)
	return m, err
}
