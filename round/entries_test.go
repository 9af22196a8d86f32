package round

import (
	"math/rand"

	"almoner/api"
)

// Entries, ledgers and ballots for the tests, in form and out of it.

// none is no ballot.
var none = api.Ballot{}

// deletes is a short entry.
func deletes(client, number int) api.Entry {
	return api.Entry{Client: client, Number: number, Order: api.Order{Kind: api.OrdDelete, Id: 5}}
}

func creates(client, number int) api.Entry {
	return api.Entry{Client: client, Number: number, Order: api.Order{Kind: api.OrdCreate, Server: api.Server{Kind: 2, Q: 5, T: 10}, At: 3}}
}

// binds is an entry with so many tasks.
func binds(client, number, tasks int) api.Entry {
	e := api.Entry{Client: client, Number: number, Order: api.Order{Kind: api.OrdBind, Id: 1, Policy: api.PolicyDeadline}}
	for i := range tasks {
		e.Order.Tasks = append(e.Order.Tasks, api.Task{C: i + 1, P: 60, D: 60, S: i})
	}
	return e
}

// row is a ledger of so many entries, the number i + 1 being client i modulo 16's.
func row(count int) []api.Entry {
	var list []api.Entry
	for i := range count {
		switch i % 3 {
		case 0:
			list = append(list, deletes(i%16, i+1))
		case 1:
			list = append(list, binds(i%16, i+1, i%9))
		case 2:
			list = append(list, creates(i%16, i+1))
		}
	}
	return list
}

// with is a ledger with an entry at a place, from 1 on, instead of the one that is there.
func with(ledger []api.Entry, place int, e api.Entry) []api.Entry {
	list := copied(ledger)
	list[place-1] = e
	return list
}

// outOfForm are entries that aren't in form, in each single way.
func outOfForm() []api.Entry {
	var list []api.Entry
	add := func(e api.Entry, change func(e *api.Entry)) {
		change(&e)
		list = append(list, e)
	}
	for _, wrong := range []int{-1 << 63, -1, farthest + 1, 1<<63 - 1} {
		add(deletes(1, 1), func(e *api.Entry) { e.Client = wrong })
		add(deletes(1, 1), func(e *api.Entry) { e.Number = wrong })
		add(deletes(1, 1), func(e *api.Entry) { e.Order.Kind = wrong })
		add(deletes(1, 1), func(e *api.Entry) { e.Order.At = wrong })
		add(deletes(1, 1), func(e *api.Entry) { e.Order.Id = wrong })
		add(creates(1, 1), func(e *api.Entry) { e.Order.Server.Kind = wrong })
		add(creates(1, 1), func(e *api.Entry) { e.Order.Server.Q = wrong })
		add(creates(1, 1), func(e *api.Entry) { e.Order.Server.T = wrong })
		add(binds(1, 1, 2), func(e *api.Entry) { e.Order.Policy = wrong })
		add(binds(1, 1, 2), func(e *api.Entry) { e.Order.Tasks[0].C = wrong })
		add(binds(1, 1, 2), func(e *api.Entry) { e.Order.Tasks[1].P = wrong })
		add(binds(1, 1, 2), func(e *api.Entry) { e.Order.Tasks[0].D = wrong })
		add(binds(1, 1, 2), func(e *api.Entry) { e.Order.Tasks[1].S = wrong })
	}
	add(deletes(1, 1), func(e *api.Entry) { e.Client = 16 })
	add(deletes(1, 1), func(e *api.Entry) { e.Number = 0 })
	add(deletes(1, 1), func(e *api.Entry) { e.Order.Kind = 0 })
	add(deletes(1, 1), func(e *api.Entry) { e.Order.Kind = 5 })
	add(deletes(1, 1), func(e *api.Entry) { e.Order.Server.T = 1 })
	add(deletes(1, 1), func(e *api.Entry) { e.Order.Policy = 1 })
	add(deletes(1, 1), func(e *api.Entry) { e.Order.Tasks = make([]api.Task, 1) })
	add(creates(1, 1), func(e *api.Entry) { e.Order.Policy = 1 })
	add(creates(1, 1), func(e *api.Entry) { e.Order.Tasks = make([]api.Task, 1) })
	add(binds(1, 1, 2), func(e *api.Entry) { e.Order.Server.Q = 1 })
	add(binds(1, 1, 9), func(e *api.Entry) {})
	list = append(list, api.Entry{})
	return list
}

// illegal are ballots that aren't legal, in each single way.
func illegal() []api.Ballot {
	list := []api.Ballot{none}
	for _, round := range []int{-1 << 63, -farthest, -1, 0, farthest + 1, 2 * farthest, 1<<63 - 1} {
		list = append(list, ballot(round, 0), ballot(round, 6))
	}
	for _, node := range []int{-1 << 63, -7, -1, 7, 8, 1 << 32, 1<<63 - 1} {
		list = append(list, ballot(1, node), ballot(9, node), ballot(farthest, node))
	}
	return append(list, ballot(0, 7), ballot(farthest+1, -1))
}

// noNodes are no numbers of so many nodes.
func noNodes(nodes int) []int {
	return []int{-1 << 63, -7, -1, nodes, nodes + 1, 64, farthest, 1<<63 - 1}
}

// someEntry is an entry in form, by chance; mostly one of a few, so that they come again.
func someEntry(random *rand.Rand) api.Entry {
	client, number := random.Intn(3), 1+random.Intn(4)
	switch random.Intn(4) {
	case 0:
		return binds(client, number, random.Intn(9))
	case 1:
		return creates(client, number)
	case 2:
		return deletes(random.Intn(16), 1+random.Intn(farthest))
	}
	return deletes(client, number)
}

// someLedger is a ledger, now and then with an entry in it, or full, or too long.
func someLedger(random *rand.Rand, e api.Entry) []api.Entry {
	var list []api.Entry
	switch random.Intn(8) {
	case 0:
		return nil
	case 1:
		list = row(63 + random.Intn(3))
	default:
		for range random.Intn(5) {
			list = append(list, someEntry(random))
		}
	}
	if len(list) > 0 && random.Intn(4) == 0 {
		list[random.Intn(len(list))] = e
	}
	return list
}

// someBallot is mostly another one's neighbour, or the same.
func someBallot(random *rand.Rand, near api.Ballot) api.Ballot {
	switch random.Intn(8) {
	case 0:
		return ballot(near.Round, near.Node+1)
	case 1:
		return ballot(near.Round, near.Node-1)
	case 2:
		return ballot(near.Round-1, 6-near.Node)
	case 3:
		return ballot(near.Round+1, random.Intn(8)-1)
	case 4:
		return ballot(near.Round-random.Intn(4), random.Intn(7))
	case 5:
		list := illegal()
		return list[random.Intn(len(list))]
	case 6:
		return ballot(near.Round+random.Intn(1000), random.Intn(7))
	}
	return near
}
