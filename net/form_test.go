package net

import (
	"bytes"
	"hash/fnv"
	"math"
	"math/rand"
	"slices"

	"almoner/api"
)

// The words of the chapter about messages, and those of the chapters beneath, kept by the test itself, with their numbers written out.

// most is MaxTime, written out.
const most = 1099511627776

func between(n, least, greatest int) bool { return least <= n && n <= greatest }

func amounts(list ...int) bool {
	return !slices.ContainsFunc(list, func(n int) bool { return !between(n, 0, most) })
}

func zero(list ...int) bool {
	return !slices.ContainsFunc(list, func(n int) bool { return n != 0 })
}

func orderInForm(o api.Order) bool {
	s := o.Server
	if !amounts(o.At, o.Id) {
		return false
	}
	switch o.Kind {
	case 1, 2:
		return amounts(s.Kind, s.Q, s.T) && zero(o.Policy, len(o.Tasks))
	case 3:
		return zero(s.Kind, s.Q, s.T, o.Policy, len(o.Tasks))
	case 4:
		all := amounts(o.Policy) && len(o.Tasks) <= 8
		for _, t := range o.Tasks {
			all = all && amounts(t.C, t.P, t.D, t.S)
		}
		return all && zero(s.Kind, s.Q, s.T)
	}
	return false
}

func suchLedger(ledger []api.Entry) bool {
	all := len(ledger) <= 64
	for _, e := range ledger {
		all = all && between(e.Client, 0, 15) && between(e.Number, 1, most) && orderInForm(e.Order)
	}
	return all
}

func legal(b api.Ballot) bool { return between(b.Round, 1, most) && between(b.Node, 0, 6) }

func none(b api.Ballot) bool { return b.Round == 0 && b.Node == 0 }

func inForm(m api.Message) bool {
	if !between(m.From, 0, 6) || !between(m.To, 0, 6) || !between(m.Job, 0, most) || !legal(m.Ballot) {
		return false
	}
	empty := len(m.Ledger) == 0
	switch m.Kind {
	case 1, 4:
		return none(m.Accepted) && empty
	case 2:
		return legal(m.Accepted) && suchLedger(m.Ledger) || none(m.Accepted) && empty
	case 3:
		return none(m.Accepted) && suchLedger(m.Ledger)
	case 5:
		return legal(m.Accepted) && empty
	}
	return false
}

// num is a number's bytes, by dividing.
func num(n uint64) []byte {
	if n < 128 {
		return []byte{byte(n)}
	}
	return append([]byte{byte(128 + n%128)}, num(n/128)...)
}

func nums(list ...int) []byte {
	var all []byte
	for _, n := range list {
		all = append(all, num(uint64(n))...)
	}
	return all
}

func listBytes(b []byte) []byte { return append(nums(len(b)), b...) }

func entryBytes(e api.Entry) []byte {
	o, s := e.Order, e.Order.Server
	all := nums(e.Client, e.Number, o.Kind, o.At, o.Id, s.Kind, s.Q, s.T, o.Policy, len(o.Tasks))
	for _, t := range o.Tasks {
		all = append(all, nums(t.C, t.P, t.D, t.S)...)
	}
	return all
}

func ledgerBytes(ledger []api.Entry) []byte {
	all := nums(len(ledger))
	for _, e := range ledger {
		all = append(all, listBytes(entryBytes(e))...)
	}
	return all
}

// heads are a message's numbers, in order.
func heads(m api.Message) []int {
	return []int{m.Kind, m.From, m.To, m.Job, m.Ballot.Round, m.Ballot.Node, m.Accepted.Round, m.Accepted.Node}
}

// messageBytes are a message's bytes, in form or not, if no number is below 0; not yet sealed.
func messageBytes(m api.Message) []byte {
	return append(nums(heads(m)...), listBytes(ledgerBytes(m.Ledger))...)
}

// sealed has the sum behind bytes, by the library, which knows the same one.
func sealed(b []byte) []byte {
	h := fnv.New32a()
	_, _ = h.Write(b)
	return h.Sum(bytes.Clone(b))
}

// plain reads numbers by the words: it takes bytes up to one below 128, and asks that the number is written so.
type plain struct {
	rest []byte
	bad  bool
}

func (p *plain) num() int {
	end := slices.IndexFunc(p.rest, func(c byte) bool { return c < 128 }) + 1
	if p.bad || end == 0 || end > 9 {
		p.bad = true
		return 0
	}
	n := uint64(0)
	for i := end - 1; i >= 0; i-- {
		n = n*128 + uint64(p.rest[i]%128)
	}
	p.bad = !bytes.Equal(num(n), p.rest[:end])
	p.rest = p.rest[end:]
	return int(n)
}

func (p *plain) nums(places ...*int) {
	for _, to := range places {
		*to = p.num()
	}
}

func (p *plain) list() []byte {
	size := p.num()
	if p.bad || size > len(p.rest) {
		p.bad = true
		return nil
	}
	b := p.rest[:size]
	p.rest = p.rest[size:]
	return b
}

func (p *plain) ended() bool { return !p.bad && len(p.rest) == 0 }

func plainEntry(b []byte) (api.Entry, bool) {
	p := plain{rest: b}
	var e api.Entry
	o, s := &e.Order, &e.Order.Server
	p.nums(&e.Client, &e.Number, &o.Kind, &o.At, &o.Id, &s.Kind, &s.Q, &s.T, &o.Policy)
	for count := p.num(); count > 0 && !p.bad; count-- {
		var t api.Task
		p.nums(&t.C, &t.P, &t.D, &t.S)
		o.Tasks = append(o.Tasks, t)
	}
	return e, p.ended()
}

func plainLedger(b []byte) ([]api.Entry, bool) {
	p := plain{rest: b}
	var ledger []api.Entry
	for count := p.num(); count > 0 && !p.bad; count-- {
		e, ok := plainEntry(p.list())
		p.bad = p.bad || !ok
		ledger = append(ledger, e)
	}
	return ledger, p.ended()
}

// plainMessage is the message of bytes that aren't sealed, and whether there is one in form.
func plainMessage(b []byte) (api.Message, bool) {
	p := plain{rest: b}
	var m api.Message
	p.nums(&m.Kind, &m.From, &m.To, &m.Job, &m.Ballot.Round, &m.Ballot.Node, &m.Accepted.Round, &m.Accepted.Node)
	ledger, ok := plainLedger(p.list())
	m.Ledger = ledger
	if !ok || !p.ended() || !inForm(m) {
		return api.Message{}, false
	}
	return m, true
}

// plainGet is what Get is to answer.
func plainGet(b []byte) (api.Message, error) {
	if len(b) < 4 {
		return api.Message{}, api.ErrBytes
	}
	if !bytes.Equal(b, sealed(b[:len(b)-4])) {
		return api.Message{}, api.ErrSum
	}
	m, ok := plainMessage(b[:len(b)-4])
	if !ok {
		return api.Message{}, api.ErrBytes
	}
	return m, nil
}

func sameEntry(a, b api.Entry) bool {
	return bytes.Equal(entryBytes(a), entryBytes(b))
}

func sameMessage(a, b api.Message) bool {
	return slices.Equal(heads(a), heads(b)) && slices.EqualFunc(a.Ledger, b.Ledger, sameEntry)
}

// Messages and entries to ask with.

// numbers are those beside every bound of a message, and both ends of int.
func numbers() []int {
	return []int{math.MinInt, math.MinInt + 1, -most, -7, -1, 0, 1, 2, 3, 4, 5, 6, 7, 8, 127, 128, most - 1, most, most + 1, 1<<41 + 1, math.MaxInt - 1, math.MaxInt}
}

func ballot(round, node int) api.Ballot { return api.Ballot{Round: round, Node: node} }

func entry(client, number int, o api.Order) api.Entry {
	return api.Entry{Client: client, Number: number, Order: o}
}

// someEntries are entries in form of every Kind, with bounds among them.
func someEntries() []api.Entry {
	task := api.Task{C: 1, P: 200, D: 100, S: 1}
	large := api.Task{C: most, P: most, D: most, S: most}
	return []api.Entry{
		entry(0, 1, api.Order{Kind: api.OrdDelete}),
		entry(15, most, api.Order{Kind: api.OrdDelete, Id: most, At: most}),
		entry(3, 129, api.Order{Kind: api.OrdCreate, Id: 2, At: 300, Server: api.Server{Kind: 2, Q: 5, T: 10}}),
		entry(4, 2, api.Order{Kind: api.OrdResize, Id: 7, Server: api.Server{Kind: most, Q: most, T: most}}),
		entry(5, 9, api.Order{Kind: api.OrdBind, Id: 1, Policy: 1, Tasks: []api.Task{task, {C: 2, P: 60, D: 60}}}),
		entry(5, 9, api.Order{Kind: api.OrdBind, Policy: most, Tasks: slices.Repeat([]api.Task{large}, 8)}),
		entry(6, 3, api.Order{Kind: api.OrdBind}),
	}
}

func someLedger(size int) []api.Entry {
	list := make([]api.Entry, size)
	for i := range list {
		list[i] = someEntries()[i%len(someEntries())]
	}
	return list
}

// fullMessage has a ledger of entries with as many tasks as there may be, each number as great as it may be.
func fullMessage(kind, size int) api.Message {
	m := api.Message{Kind: kind, From: 6, To: 6, Job: most, Ballot: ballot(most, 6)}
	if kind == api.MsgPromise {
		m.Accepted = ballot(most, 6)
	}
	tasks := slices.Repeat([]api.Task{{C: most, P: most, D: most, S: most}}, 8)
	for range size {
		o := api.Order{Kind: api.OrdBind, Id: most, At: most, Policy: most, Tasks: slices.Clone(tasks)}
		m.Ledger = append(m.Ledger, entry(15, most, o))
	}
	return m
}

// goodMessages are in form: of every Kind, with and without what was accepted and a ledger, at both ends of what is legal.
func goodMessages() []api.Message {
	least, greatest := ballot(1, 0), ballot(most, 6)
	return []api.Message{
		{Kind: api.MsgPrepare, Ballot: least},
		{Kind: api.MsgPrepare, From: 6, To: 6, Job: most, Ballot: greatest},
		{Kind: api.MsgPrepare, From: 0, To: 1, Job: 1, Ballot: ballot(1, 6), Ledger: []api.Entry{}},
		{Kind: api.MsgPromise, From: 1, Ballot: least},
		{Kind: api.MsgPromise, To: 6, Job: 5, Ballot: greatest, Accepted: least},
		{Kind: api.MsgPromise, From: 1, To: 2, Ballot: ballot(3, 0), Accepted: ballot(1, 2), Ledger: someLedger(1)},
		{Kind: api.MsgPromise, From: 2, To: 1, Job: 128, Ballot: ballot(most, 0), Accepted: greatest, Ledger: someLedger(9)},
		{Kind: api.MsgPromise, From: 2, To: 1, Ballot: least, Accepted: greatest, Ledger: someLedger(64)},
		{Kind: api.MsgAccept, From: 3, To: 3, Ballot: least},
		{Kind: api.MsgAccept, From: 3, To: 4, Job: 1 << 20, Ballot: ballot(127, 3), Ledger: someLedger(2)},
		{Kind: api.MsgAccept, From: 6, To: 0, Job: most - 1, Ballot: greatest, Ledger: someLedger(64)},
		fullMessage(api.MsgAccept, 64),
		fullMessage(api.MsgPromise, 64),
		{Kind: api.MsgAccepted, From: 4, To: 5, Job: 77, Ballot: ballot(128, 5)},
		{Kind: api.MsgAccepted, From: 6, To: 6, Job: most, Ballot: greatest},
		{Kind: api.MsgRefused, From: 5, To: 4, Ballot: least, Accepted: least},
		{Kind: api.MsgRefused, From: 5, To: 4, Job: 3, Ballot: least, Accepted: greatest},
		{Kind: api.MsgRefused, From: 5, To: 4, Job: 3, Ballot: ballot(2, 2), Accepted: ballot(1, 6)},
	}
}

func anyAmount(r *rand.Rand) int {
	if r.Intn(8) == 0 {
		return most
	}
	return r.Intn(most) >> r.Intn(40)
}

func anyBallot(r *rand.Rand) api.Ballot { return ballot(max(1, anyAmount(r)), r.Intn(7)) }

func anyEntry(r *rand.Rand) api.Entry {
	o := api.Order{Kind: 1 + r.Intn(4), At: anyAmount(r), Id: anyAmount(r)}
	switch o.Kind {
	case 1, 2:
		o.Server = api.Server{Kind: anyAmount(r), Q: anyAmount(r), T: anyAmount(r)}
	case 4:
		o.Policy = anyAmount(r)
		for range r.Intn(9) {
			o.Tasks = append(o.Tasks, api.Task{C: anyAmount(r), P: anyAmount(r), D: anyAmount(r), S: anyAmount(r)})
		}
	}
	return entry(r.Intn(16), max(1, anyAmount(r)), o)
}

// anyMessage is one in form.
func anyMessage(r *rand.Rand) api.Message {
	m := api.Message{Kind: 1 + r.Intn(5), From: r.Intn(7), To: r.Intn(7), Job: anyAmount(r), Ballot: anyBallot(r)}
	told := m.Kind == api.MsgPromise && r.Intn(3) > 0
	if told || m.Kind == api.MsgRefused {
		m.Accepted = anyBallot(r)
	}
	if told || m.Kind == api.MsgAccept {
		for range r.Intn(5) {
			m.Ledger = append(m.Ledger, anyEntry(r))
		}
	}
	return m
}

// places of a message's numbers, to change them.
func headPlaces(m *api.Message) []*int {
	return []*int{&m.Kind, &m.From, &m.To, &m.Job, &m.Ballot.Round, &m.Ballot.Node, &m.Accepted.Round, &m.Accepted.Node}
}

func entryPlaces(e *api.Entry) []*int {
	o, s := &e.Order, &e.Order.Server
	list := []*int{&e.Client, &e.Number, &o.Kind, &o.At, &o.Id, &s.Kind, &s.Q, &s.T, &o.Policy}
	for i := range o.Tasks {
		t := &o.Tasks[i]
		list = append(list, &t.C, &t.P, &t.D, &t.S)
	}
	return list
}
