package voter

import (
	"math/rand"

	"almoner/api"
)

// Entries and ledgers for the tests, in form and out of it.

// deletes is a short entry.
func deletes(client, number int) api.Entry {
	return api.Entry{Client: client, Number: number, Order: api.Order{Kind: api.OrdDelete, Id: 5}}
}

func creates(number int) api.Entry {
	return api.Entry{Client: 1, Number: number, Order: api.Order{Kind: api.OrdCreate, Server: api.Server{Kind: 2, Q: 5, T: 10}, At: 3}}
}

// binds is an entry with so many tasks.
func binds(number, tasks int) api.Entry {
	e := api.Entry{Client: 2, Number: number, Order: api.Order{Kind: api.OrdBind, Id: 1, Policy: api.PolicyDeadline}}
	for i := range tasks {
		e.Order.Tasks = append(e.Order.Tasks, api.Task{C: i + 1, P: 60, D: 60, S: i})
	}
	return e
}

// longest is an entry with as many bytes as one can have.
func longest(number int) api.Entry {
	e := api.Entry{Client: 15, Number: farthest - number, Order: api.Order{Kind: api.OrdBind, Id: farthest, At: farthest, Policy: farthest}}
	for range 8 {
		e.Order.Tasks = append(e.Order.Tasks, api.Task{C: farthest, P: farthest, D: farthest, S: farthest})
	}
	return e
}

// row is a ledger of so many short entries.
func row(count int) []api.Entry {
	var list []api.Entry
	for i := range count {
		list = append(list, deletes(i%16, i+1))
	}
	return list
}

func rowOf(count int, entry func(number int) api.Entry) []api.Entry {
	var list []api.Entry
	for i := range count {
		list = append(list, entry(i+1))
	}
	return list
}

// nearCreates are entries that differ from creates(7), in one thing each but the last.
func nearCreates() []api.Entry {
	var list []api.Entry
	for i := range 9 {
		e := creates(7)
		switch i {
		case 0:
			e.Client++
		case 1:
			e.Number++
		case 2:
			e.Order.Kind = api.OrdResize
		case 3:
			e.Order.At++
		case 4:
			e.Order.Id++
		case 5:
			e.Order.Server.Kind++
		case 6:
			e.Order.Server.Q++
		case 7:
			e.Order.Server.T++
		case 8:
			e = binds(7, 0)
			e.Client = 1
		}
		list = append(list, e)
	}
	return list
}

// nearBinds are entries that differ from binds(7, 2), in one thing each.
func nearBinds() []api.Entry {
	var list []api.Entry
	for i := range 8 {
		e := binds(7, 2)
		switch i {
		case 0:
			e.Order.Policy++
		case 1:
			e.Order.Tasks[1].C++
		case 2:
			e.Order.Tasks[1].P++
		case 3:
			e.Order.Tasks[0].D++
		case 4:
			e.Order.Tasks[0].S++
		case 5:
			e = binds(7, 1)
		case 6:
			e = binds(7, 3)
		case 7:
			e = binds(7, 0)
		}
		list = append(list, e)
	}
	return list
}

// outOfForm are entries that aren't in form, in each single way.
func outOfForm() []api.Entry {
	var list []api.Entry
	add := func(e api.Entry, change func(e *api.Entry)) {
		change(&e)
		list = append(list, e)
	}
	for _, wrong := range []int{-1 << 63, -1, farthest + 1, 1<<63 - 1} {
		add(deletes(1, 1), func(e *api.Entry) { e.Client = wrong })
		add(deletes(1, 1), func(e *api.Entry) { e.Number = wrong })
		add(deletes(1, 1), func(e *api.Entry) { e.Order.Kind = wrong })
		add(deletes(1, 1), func(e *api.Entry) { e.Order.At = wrong })
		add(deletes(1, 1), func(e *api.Entry) { e.Order.Id = wrong })
		add(creates(1), func(e *api.Entry) { e.Order.Server.Kind = wrong })
		add(creates(1), func(e *api.Entry) { e.Order.Server.Q = wrong })
		add(creates(1), func(e *api.Entry) { e.Order.Server.T = wrong })
		add(binds(1, 2), func(e *api.Entry) { e.Order.Policy = wrong })
		add(binds(1, 2), func(e *api.Entry) { e.Order.Tasks[0].C = wrong })
		add(binds(1, 2), func(e *api.Entry) { e.Order.Tasks[1].P = wrong })
		add(binds(1, 2), func(e *api.Entry) { e.Order.Tasks[0].D = wrong })
		add(binds(1, 2), func(e *api.Entry) { e.Order.Tasks[1].S = wrong })
	}
	add(deletes(1, 1), func(e *api.Entry) { e.Client = 16 })
	add(deletes(1, 1), func(e *api.Entry) { e.Number = 0 })
	add(deletes(1, 1), func(e *api.Entry) { e.Order.Kind = 0 })
	add(deletes(1, 1), func(e *api.Entry) { e.Order.Kind = 5 })
	add(deletes(1, 1), func(e *api.Entry) { e.Order.Server.T = 1 })
	add(deletes(1, 1), func(e *api.Entry) { e.Order.Policy = 1 })
	add(deletes(1, 1), func(e *api.Entry) { e.Order.Tasks = make([]api.Task, 1) })
	add(creates(1), func(e *api.Entry) { e.Order.Policy = 1 })
	add(creates(1), func(e *api.Entry) { e.Order.Tasks = make([]api.Task, 1) })
	add(binds(1, 2), func(e *api.Entry) { e.Order.Server.Q = 1 })
	add(binds(1, 9), func(e *api.Entry) {})
	list = append(list, api.Entry{})
	return list
}

// illegal are ballots that aren't legal, in each single way.
func illegal() []api.Ballot {
	var list []api.Ballot
	for _, round := range []int{-1 << 63, -farthest, -1, 0, farthest + 1, 2 * farthest, 1<<63 - 1} {
		list = append(list, ballot(round, 0), ballot(round, 6))
	}
	for _, node := range []int{-1 << 63, -7, -1, 7, 8, 1 << 32, 1<<63 - 1} {
		list = append(list, ballot(1, node), ballot(farthest, node), ballot(9, node))
	}
	return append(list, ballot(0, 7), ballot(farthest+1, -1))
}

// wrongNumbers are no numbers of voters.
func wrongNumbers() []int {
	return []int{-1 << 63, -7, -1, 7, 8, 64, farthest, 1 << 32, 1<<63 - 1}
}

// someEntry is an entry in form, by chance.
func someEntry(random *rand.Rand) api.Entry {
	number := 1 + random.Intn(1000)
	switch random.Intn(12) {
	case 0:
		return longest(number)
	case 1, 2, 3:
		return binds(number, random.Intn(9))
	case 4, 5:
		return creates(number)
	case 6:
		return nearBinds()[random.Intn(8)]
	case 7:
		return nearCreates()[random.Intn(9)]
	}
	return deletes(random.Intn(16), number)
}

// someLedger is mostly one that goes on with an older one.
func someLedger(random *rand.Rand, old []api.Entry) []api.Entry {
	list := copied(old)
	switch random.Intn(12) {
	case 0:
		return nil
	case 1:
		return list
	case 2:
		return list[:random.Intn(len(list)+1)]
	case 3:
		if len(list) > 0 {
			list[random.Intn(len(list))] = someEntry(random)
		}
		return list
	case 4:
		list = list[:random.Intn(len(list)+1)]
	case 5:
		return rowOf(random.Intn(8), func(int) api.Entry { return someEntry(random) })
	}
	for range 1 + random.Intn(2) {
		list = append(list, someEntry(random))
	}
	return list
}

// wrongLedger is one that is refused: of too many entries, or with one that isn't in form.
func wrongLedger(random *rand.Rand, old []api.Entry) []api.Entry {
	list := copied(old)
	if random.Intn(3) == 0 {
		return append(list, row(65-min(64, len(list)))...)
	}
	wrong := outOfForm()
	list = append(list, wrong[random.Intn(len(wrong))])
	at := random.Intn(len(list))
	list[at], list[len(list)-1] = list[len(list)-1], list[at]
	return list
}

// someBallot is mostly one near another one.
func someBallot(random *rand.Rand, near api.Ballot) api.Ballot {
	switch random.Intn(10) {
	case 0:
		return near
	case 1:
		return ballot(near.Round, near.Node+1)
	case 2:
		return ballot(near.Round, near.Node-1)
	case 3:
		return ballot(near.Round-1, 6-near.Node)
	case 4:
		return ballot(near.Round, random.Intn(7))
	case 5:
		return ballot(near.Round-random.Intn(5), random.Intn(7))
	}
	return ballot(near.Round+1+random.Intn(3)*random.Intn(40), random.Intn(7))
}
