package desk

import (
	"bytes"
	"math"
	"math/rand"
	"slices"

	"almoner/api"
)

// Questions, answers and ledgers to ask with.

// numbers are those beside every bound of a question and an answer, and both ends of int.
func numbers() []int {
	return []int{math.MinInt, math.MinInt + 1, -farthest, -1, 0, 1, 2, 3, 4, 5, 8, 9, 14, 15, 16, 17, 127, 128, 16000, 16383, 16384, farthest - 1, farthest, farthest + 1, 2*farthest + 1, math.MaxInt - 1, math.MaxInt}
}

func task(c, p, d, s int) api.Task { return api.Task{C: c, P: p, D: d, S: s} }

func server(kind, q, t int) api.Server { return api.Server{Kind: kind, Q: q, T: t} }

func creates(parent int, s api.Server, at int) api.Order {
	return api.Order{Kind: api.OrdCreate, Id: parent, Server: s, At: at}
}

func resizes(id int, s api.Server, at int) api.Order {
	return api.Order{Kind: api.OrdResize, Id: id, Server: s, At: at}
}

func deletes(id, at int) api.Order { return api.Order{Kind: api.OrdDelete, Id: id, At: at} }

func binds(id, policy, at int, tasks ...api.Task) api.Order {
	return api.Order{Kind: api.OrdBind, Id: id, Policy: policy, Tasks: tasks, At: at}
}

func asks(client, number int, o api.Order) api.Ask {
	return api.Ask{Kind: api.AskOrder, Client: client, Number: number, Order: o}
}

func asksForTree(client, number int) api.Ask {
	return api.Ask{Kind: api.AskTree, Client: client, Number: number}
}

func entry(client, number int, o api.Order) api.Entry {
	return api.Entry{Client: client, Number: number, Order: o}
}

// largest is an order with as many tasks as there may be, each number as great as it may be.
func largest() api.Order {
	return binds(farthest, farthest, farthest, slices.Repeat([]api.Task{task(farthest, farthest, farthest, farthest)}, 8)...)
}

// goodAsks are questions in form: of each Kind, with orders of each Kind, at both ends of what may be.
func goodAsks() []api.Ask {
	return []api.Ask{
		asksForTree(0, 1),
		asksForTree(1, 2),
		asksForTree(15, farthest),
		asksForTree(7, 128),
		asks(0, 1, deletes(0, 0)),
		asks(15, farthest, deletes(farthest, farthest)),
		asks(3, 129, creates(2, server(2, 5, 10), 300)),
		asks(4, 2, creates(0, server(0, 0, 0), 0)),
		asks(4, 2, resizes(7, server(farthest, farthest, farthest), 0)),
		asks(1, 4, resizes(0, server(1, 1, 4), 1)),
		asks(5, 9, binds(1, 1, 0, task(1, 200, 100, 1), task(2, 60, 60, 0))),
		asks(6, 3, binds(0, 0, 0)),
		asks(6, 3, binds(0, 2, 5, make([]api.Task, 8)...)),
		asks(15, farthest, largest()),
	}
}

// askPlaces are the numbers of a question, its order's and its tasks' among them.
func askPlaces(a *api.Ask) []*int {
	o, s := &a.Order, &a.Order.Server
	list := []*int{&a.Kind, &a.Client, &a.Number, &o.Kind, &o.Id, &s.Kind, &s.Q, &s.T, &o.Policy, &o.At}
	for i := range o.Tasks {
		t := &o.Tasks[i]
		list = append(list, &t.C, &t.P, &t.D, &t.S)
	}
	return list
}

func replyPlaces(r *api.Reply) []*int { return []*int{&r.Client, &r.Number, &r.Code, &r.Id} }

// copiedAsk shares no tasks.
func copiedAsk(a api.Ask) api.Ask {
	a.Order.Tasks = slices.Clone(a.Order.Tasks)
	return a
}

// bytesUpTo are so many bytes, of each value in turn.
func bytesUpTo(size int) []byte {
	b := make([]byte, size)
	for i := range b {
		b[i] = byte(i * 7)
	}
	return b
}

// goodReplies are answers in form, at both ends of what may be.
func goodReplies() []api.Reply {
	most := api.Reply{Client: farthest, Number: farthest, Code: farthest, Id: farthest}
	full := most
	full.Tree = bytesUpTo(16000)
	return []api.Reply{
		{},
		{Code: 101},
		{Client: 1, Number: 2, Id: 1},
		{Client: 15, Number: farthest, Code: 4},
		{Client: 1, Number: 4, Code: 102},
		{Client: 2, Number: 300, Tree: []byte{0, 0, 0, 0}},
		{Client: 3, Number: 128, Tree: bytesUpTo(127)},
		{Client: 3, Number: 128, Tree: bytesUpTo(128)},
		{Number: 1, Code: 8, Id: 64, Tree: bytes.Repeat([]byte{255}, 300)},
		most,
		full,
	}
}

func pick[T any](random *rand.Rand, list ...T) T { return list[random.Intn(len(list))] }

// amount is a number that may stand in an order, often a small one or one beside a bound.
func amount(random *rand.Rand) int {
	switch random.Intn(4) {
	case 0:
		return random.Intn(4)
	case 1:
		return pick(random, 0, 1, 127, 128, 16383, 16384, farthest-1, farthest)
	case 2:
		return random.Intn(1 << (1 + random.Intn(40)))
	}
	return random.Intn(300)
}

func anyServer(random *rand.Rand) api.Server {
	return server(amount(random), amount(random), amount(random))
}

// anyOrder is an order in form, by chance.
func anyOrder(random *rand.Rand) api.Order {
	switch random.Intn(4) {
	case 0:
		return creates(amount(random), anyServer(random), amount(random))
	case 1:
		return resizes(amount(random), anyServer(random), amount(random))
	case 2:
		return deletes(amount(random), amount(random))
	}
	tasks := make([]api.Task, random.Intn(9))
	for i := range tasks {
		tasks[i] = task(amount(random), amount(random), amount(random), amount(random))
	}
	return binds(amount(random), amount(random), amount(random), tasks...)
}

// anyAsk is a question in form, by chance.
func anyAsk(random *rand.Rand) api.Ask {
	client, number := random.Intn(16), max(1, amount(random))
	if random.Intn(5) == 0 {
		return asksForTree(client, number)
	}
	return asks(client, number, anyOrder(random))
}

// anyReply is an answer in form, by chance.
func anyReply(random *rand.Rand) api.Reply {
	r := api.Reply{Client: amount(random), Number: amount(random), Code: amount(random), Id: amount(random)}
	if random.Intn(2) == 0 {
		r.Tree = make([]byte, random.Intn(pick(random, 2, 20, 200, 300)))
		_, _ = random.Read(r.Tree)
	}
	return r
}

// maker makes ledgers whose orders mostly do something to the tree that those ahead made.
type maker struct {
	random *rand.Rand
	rising bool        // each client's numbers rise
	last   map[int]int // the greatest Number of each client
}

func newMaker(random *rand.Rand, rising bool) *maker {
	return &maker{random: random, rising: rising, last: map[int]int{}}
}

// goesOn is a ledger with so many entries more.
func (m *maker) goesOn(ledger []api.Entry, count int) []api.Entry {
	list := copiedAll(ledger)
	for range count {
		list = append(list, m.entry(list))
	}
	return list
}

func (m *maker) entry(ledger []api.Entry) api.Entry {
	client := m.random.Intn(4)
	number := m.last[client] + 1 + m.random.Intn(3)
	if !m.rising {
		number = 1 + m.random.Intn(12)
	}
	m.last[client] = max(m.last[client], number)
	return entry(client, number, m.order(ledger))
}

func (m *maker) order(ledger []api.Entry) api.Order {
	at := len(ledger) * m.random.Intn(4)
	// The older ones are there more often, and have kids.
	id := m.random.Intn(2 + m.random.Intn(len(ledger)/2+1))
	q := 1 + m.random.Intn(3)
	s := server(pick(m.random, 1, 2, 2, 2, 3), q, q*(2+m.random.Intn(20)))
	switch k := m.random.Intn(20); {
	case k < 9:
		return creates(pick(m.random, 0, 0, id), s, at)
	case k < 12:
		return resizes(id, s, at)
	case k < 15:
		return deletes(id, at)
	case k < 19:
		p := 60 + m.random.Intn(190)
		return binds(id, 1+m.random.Intn(2), at, task(1, p, p, 0), task(1, 250, 200, 1))
	}
	return anyOrder(m.random)
}
