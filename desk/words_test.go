package desk

import (
	"bytes"
	"encoding/binary"
	"hash/crc32"
	"slices"

	"almoner/api"
	"almoner/tree"
)

// The words of the chapter, and those of the chapters beneath, kept by the test itself, with their numbers written out.

// farthest is MaxTime, written out.
const farthest = 1099511627776

func within(n, least, most int) bool { return least <= n && n <= most }

func amounts(list ...int) bool {
	return !slices.ContainsFunc(list, func(n int) bool { return !within(n, 0, farthest) })
}

func zero(list ...int) bool {
	return !slices.ContainsFunc(list, func(n int) bool { return n != 0 })
}

// orderFits tells whether an order is in form.
func orderFits(o api.Order) bool {
	s := o.Server
	if !amounts(o.At, o.Id) {
		return false
	}
	switch o.Kind {
	case 1, 2:
		return amounts(s.Kind, s.Q, s.T) && zero(o.Policy, len(o.Tasks))
	case 3:
		return zero(s.Kind, s.Q, s.T, o.Policy, len(o.Tasks))
	case 4:
		all := amounts(o.Policy) && len(o.Tasks) <= 8
		for _, t := range o.Tasks {
			all = all && amounts(t.C, t.P, t.D, t.S)
		}
		return all && zero(s.Kind, s.Q, s.T)
	}
	return false
}

// askFits tells whether a question is in form.
func askFits(a api.Ask) bool {
	if !within(a.Client, 0, 15) || !within(a.Number, 1, farthest) {
		return false
	}
	switch a.Kind {
	case 1:
		return orderFits(a.Order)
	case 2:
		o := a.Order
		return zero(o.Kind, o.Id, o.Server.Kind, o.Server.Q, o.Server.T, o.Policy, len(o.Tasks), o.At)
	}
	return false
}

// replyFits tells whether an answer is in form.
func replyFits(r api.Reply) bool {
	return amounts(r.Client, r.Number, r.Code, r.Id) && len(r.Tree) <= 16000
}

// num is a number's bytes, by dividing.
func num(n uint64) []byte {
	if n < 128 {
		return []byte{byte(n)}
	}
	return append([]byte{byte(128 + n%128)}, num(n/128)...)
}

func nums(list ...int) []byte {
	var all []byte
	for _, n := range list {
		all = append(all, num(uint64(n))...)
	}
	return all
}

func listBytes(b []byte) []byte { return append(nums(len(b)), b...) }

func entryBytes(e api.Entry) []byte {
	o, s := e.Order, e.Order.Server
	all := nums(e.Client, e.Number, o.Kind, o.At, o.Id, s.Kind, s.Q, s.T, o.Policy, len(o.Tasks))
	for _, t := range o.Tasks {
		all = append(all, nums(t.C, t.P, t.D, t.S)...)
	}
	return all
}

func treeBytes(t api.Tree) []byte {
	all := nums(t.Last, t.Now, len(t.Nodes))
	for _, n := range t.Nodes {
		all = append(all, nums(n.Id, n.Parent, n.Server.Kind, n.Server.Q, n.Server.T, n.Policy, len(n.Tasks))...)
		for _, k := range n.Tasks {
			all = append(all, nums(k.C, k.P, k.D, k.S)...)
		}
	}
	all = append(all, nums(len(t.Ghosts))...)
	for _, g := range t.Ghosts {
		all = append(all, nums(g.Parent, g.Server.Kind, g.Server.Q, g.Server.T, g.Until)...)
	}
	return all
}

// entryFor is the entry of a question.
func entryFor(a api.Ask) api.Entry {
	return api.Entry{Client: a.Client, Number: a.Number, Order: a.Order}
}

// askBytes are a question's payload, in form or not, if no number is below 0. Of no Kind the entry stands there too, if there is an order.
func askBytes(a api.Ask) []byte {
	all := nums(a.Kind, a.Client, a.Number)
	if a.Kind == 1 || len(a.Order.Tasks) > 0 || !sameOrder(a.Order, api.Order{}) {
		all = append(all, listBytes(entryBytes(entryFor(a)))...)
	}
	return all
}

func replyBytes(r api.Reply) []byte {
	return append(nums(r.Client, r.Number, r.Code, r.Id), listBytes(r.Tree)...)
}

// framed is a payload's frame, by the library's check, which is the same one.
func framed(payload []byte) []byte {
	all := append(binary.LittleEndian.AppendUint32(nil, uint32(len(payload))), payload...)
	return binary.LittleEndian.AppendUint32(all, crc32.ChecksumIEEE(all))
}

// unframed is the payload of bytes that are just one frame.
func unframed(b []byte) ([]byte, bool) {
	if len(b) < 8 || len(b) > 32768+8 || !bytes.Equal(b, framed(b[4:len(b)-4])) {
		return nil, false
	}
	return b[4 : len(b)-4], true
}

// plain reads numbers by the words: it takes bytes up to one below 128, and asks that the number is written so.
type plain struct {
	rest []byte
	bad  bool
}

func (p *plain) num() int {
	end := slices.IndexFunc(p.rest, func(c byte) bool { return c < 128 }) + 1
	if p.bad || end == 0 || end > 9 {
		p.bad = true
		return 0
	}
	n := uint64(0)
	for i := end - 1; i >= 0; i-- {
		n = n*128 + uint64(p.rest[i]%128)
	}
	p.bad = !bytes.Equal(num(n), p.rest[:end])
	p.rest = p.rest[end:]
	return int(n)
}

func (p *plain) nums(places ...*int) {
	for _, to := range places {
		*to = p.num()
	}
}

func (p *plain) list() []byte {
	size := p.num()
	if p.bad || size > len(p.rest) {
		p.bad = true
		return nil
	}
	b := p.rest[:size]
	p.rest = p.rest[size:]
	return b
}

func (p *plain) ended() bool { return !p.bad && len(p.rest) == 0 }

func plainEntry(b []byte) (api.Entry, bool) {
	p := plain{rest: b}
	var e api.Entry
	o, s := &e.Order, &e.Order.Server
	p.nums(&e.Client, &e.Number, &o.Kind, &o.At, &o.Id, &s.Kind, &s.Q, &s.T, &o.Policy)
	for count := p.num(); count > 0 && !p.bad; count-- {
		var t api.Task
		p.nums(&t.C, &t.P, &t.D, &t.S)
		o.Tasks = append(o.Tasks, t)
	}
	return e, p.ended()
}

// plainAsk is the question of a payload, and whether there is one in form.
func plainAsk(payload []byte) (api.Ask, bool) {
	p := plain{rest: payload}
	var a api.Ask
	p.nums(&a.Kind, &a.Client, &a.Number)
	if a.Kind == 1 {
		e, whole := plainEntry(p.list())
		p.bad = p.bad || !whole || e.Client != a.Client || e.Number != a.Number
		a.Order = e.Order
	}
	if !p.ended() || !askFits(a) {
		return api.Ask{}, false
	}
	return a, true
}

// plainReply is the answer of a payload, and whether there is one in form.
func plainReply(payload []byte) (api.Reply, bool) {
	p := plain{rest: payload}
	var r api.Reply
	p.nums(&r.Client, &r.Number, &r.Code, &r.Id)
	r.Tree = p.list()
	if !p.ended() || !replyFits(r) {
		return api.Reply{}, false
	}
	return r, true
}

func sameOrder(a, b api.Order) bool {
	return bytes.Equal(entryBytes(api.Entry{Order: a}), entryBytes(api.Entry{Order: b}))
}

func sameAsk(a, b api.Ask) bool {
	return a.Kind == b.Kind && a.Client == b.Client && a.Number == b.Number && sameOrder(a.Order, b.Order)
}

func sameReply(a, b api.Reply) bool {
	return a.Client == b.Client && a.Number == b.Number && a.Code == b.Code && a.Id == b.Id && bytes.Equal(a.Tree, b.Tree)
}

func sameTree(a, b api.Tree) bool { return bytes.Equal(treeBytes(a), treeBytes(b)) }

// done is what a ledger's orders come to, order by order, and all their results.
func done(ledger []api.Entry) (api.Tree, []api.Result) {
	t := api.Tree{}
	var results []api.Result
	for _, e := range ledger {
		next, r := tree.Apply(t, copied(e).Order)
		t = next
		results = append(results, r)
	}
	return t, results
}

func copied(e api.Entry) api.Entry {
	e.Order.Tasks = slices.Clone(e.Order.Tasks)
	return e
}

func copiedAll(ledger []api.Entry) []api.Entry {
	var list []api.Entry
	for _, e := range ledger {
		list = append(list, copied(e))
	}
	return list
}

// told is what a ledger answers to a question, by the words.
func told(ledger []api.Entry, a api.Ask) (api.Reply, bool) {
	folded, results := done(ledger)
	if a.Kind == 2 {
		return api.Reply{Client: a.Client, Number: a.Number, Tree: treeBytes(folded)}, true
	}
	if a.Kind != 1 {
		return api.Reply{}, false
	}
	newer := false
	for i, e := range ledger {
		if e.Client == a.Client && e.Number == a.Number {
			return api.Reply{Client: a.Client, Number: a.Number, Code: results[i].Code, Id: results[i].Id}, true
		}
		newer = newer || e.Client == a.Client && e.Number > a.Number
	}
	if newer {
		return api.Reply{Client: a.Client, Number: a.Number, Code: 102}, true
	}
	return api.Reply{}, false
}
