package voter

import (
	"almoner/api"
	"almoner/order"
	"almoner/wire"
)

// Kinds of records.
const (
	promise = iota + 1
	accepting
	claim
)

// record is what a record of the log tells.
type record struct {
	kind   int
	ballot api.Ballot  // of a claim the Round alone
	stay   int         // of an accepting: how many entries of the ledger ahead stay
	others []api.Entry // of an accepting: those that stand behind them
}

func (r record) bytes() ([]byte, error) {
	w := wire.NewWriter()
	w.Num(r.kind)
	w.Num(r.ballot.Round)
	if r.kind != claim {
		w.Num(r.ballot.Node)
	}
	if r.kind == accepting {
		others, err := order.Write(r.others)
		if err != nil {
			return nil, err
		}
		w.Num(r.stay)
		w.Bytes(others)
	}
	return w.Done()
}

// recordOf is the record of bytes; ErrBytes, if they are those of none of a voter's.
func recordOf(b []byte) (record, error) {
	from := wire.NewReader(b)
	r, err := getRecord(from)
	if err != nil || from.End() != nil || r.kind < promise || !isLegal(r.ballot) {
		return record{}, api.ErrBytes
	}
	return r, nil
}

func getRecord(from *wire.Reader) (record, error) {
	var r record
	var err error
	if r.kind, err = from.Num(claim); err != nil {
		return record{}, err
	}
	if r.ballot.Round, err = from.Num(api.MaxTime); err != nil || r.kind == claim {
		return r, err
	}
	if r.ballot.Node, err = from.Num(api.MaxTime); err != nil || r.kind != accepting {
		return r, err
	}
	if r.stay, err = from.Num(api.MaxLedger); err != nil {
		return record{}, err
	}
	r.others, err = getLedger(from)
	return r, err
}
