package queue

import (
	"math"
	"math/rand"
	"slices"
	"testing"

	"almoner/api"
)

// edges are ints that Ids and Ranks may be, rising.
var edges = []int{math.MinInt, math.MinInt + 1, math.MinInt32, -2, -1, 0, 1, 2, math.MaxInt32 + 1, math.MaxInt - 1, math.MaxInt}

// before tells whether a thing stands ahead of another one, by the chapter's words.
func before(a, b api.Ranked) bool {
	if a.Rank < b.Rank {
		return true
	}
	return a.Rank == b.Rank && a.Id < b.Id
}

// model is a queue by the chapter's words alone: things in the order in which they came, gone over from end to end.
type model struct {
	things []api.Ranked
}

func (m *model) find(id int) int {
	for i, thing := range m.things {
		if thing.Id == id {
			return i
		}
	}
	return -1
}

func (m *model) push(id, rank int) error {
	if m.find(id) >= 0 {
		return api.ErrThere
	}
	if len(m.things) == 4096 {
		return api.ErrFull
	}
	m.things = append(m.things, api.Ranked{Id: id, Rank: rank})
	return nil
}

func (m *model) peek() (api.Ranked, error) {
	if len(m.things) == 0 {
		return api.Ranked{}, api.ErrGone
	}
	first := m.things[0]
	for _, thing := range m.things {
		if before(thing, first) {
			first = thing
		}
	}
	return first, nil
}

func (m *model) pop() (api.Ranked, error) {
	first, err := m.peek()
	if err == nil {
		m.drop(first.Id)
	}
	return first, err
}

func (m *model) turn(id, rank int) error {
	i := m.find(id)
	if i < 0 {
		return api.ErrGone
	}
	m.things[i].Rank = rank
	return nil
}

func (m *model) drop(id int) error {
	i := m.find(id)
	if i < 0 {
		return api.ErrGone
	}
	m.things = append(m.things[:i], m.things[i+1:]...)
	return nil
}

func (m *model) list() []api.Ranked {
	rest := model{slices.Clone(m.things)}
	var list []api.Ranked
	for len(rest.things) > 0 {
		first, _ := rest.pop()
		list = append(list, first)
	}
	return list
}

// pair is a queue with its model: each call is made on both.
type pair struct {
	q *Queue
	m *model
}

func newPair() pair { return pair{New(), &model{}} }

func sameError(t *testing.T, call string, got, want error) {
	t.Helper()
	if got != want {
		t.Fatalf("%s: %v; want %v", call, got, want)
	}
}

func sameThing(t *testing.T, call string, got api.Ranked, err error, want api.Ranked, wantErr error) {
	t.Helper()
	if got != want || err != wantErr {
		t.Fatalf("%s: %v, %v; want %v, %v", call, got, err, want, wantErr)
	}
}

func (p pair) push(t *testing.T, id, rank int) {
	t.Helper()
	sameError(t, "Push", p.q.Push(id, rank), p.m.push(id, rank))
}

func (p pair) pop(t *testing.T) {
	t.Helper()
	got, err := p.q.Pop()
	want, wantErr := p.m.pop()
	sameThing(t, "Pop", got, err, want, wantErr)
}

func (p pair) turn(t *testing.T, id, rank int) {
	t.Helper()
	sameError(t, "Turn", p.q.Turn(id, rank), p.m.turn(id, rank))
}

func (p pair) drop(t *testing.T, id int) {
	t.Helper()
	sameError(t, "Drop", p.q.Drop(id), p.m.drop(id))
}

// first asks what Peek and Len tell.
func (p pair) first(t *testing.T) {
	t.Helper()
	got, err := p.q.Peek()
	want, wantErr := p.m.peek()
	sameThing(t, "Peek", got, err, want, wantErr)
	if got, want := p.q.Len(), len(p.m.things); got != want {
		t.Fatalf("Len: %d; want %d", got, want)
	}
}

// same asks all that a queue tells.
func (p pair) same(t *testing.T) {
	t.Helper()
	p.first(t)
	lists(t, p.q, p.m.list()...)
}

// emptied pops all, and one time more.
func (p pair) emptied(t *testing.T) {
	t.Helper()
	for range len(p.m.things) + 1 {
		p.pop(t)
	}
	p.same(t)
}

func lists(t *testing.T, q *Queue, want ...api.Ranked) {
	t.Helper()
	if got := q.List(); !slices.Equal(got, want) {
		t.Fatalf("List: %v; want %v", got, want)
	}
}

func pushes(t *testing.T, q *Queue, things ...api.Ranked) {
	t.Helper()
	for _, thing := range things {
		if err := q.Push(thing.Id, thing.Rank); err != nil {
			t.Fatalf("Push%v: %v", thing, err)
		}
	}
}

// popped is all things of a queue, as Pop takes them out.
func popped(t *testing.T, q *Queue) []api.Ranked {
	t.Helper()
	var all []api.Ranked
	for q.Len() > 0 {
		thing, err := q.Pop()
		if err != nil {
			t.Fatalf("Pop: %v", err)
		}
		all = append(all, thing)
	}
	return all
}

// orders is all orders of the numbers below n.
func orders(n int) [][]int {
	if n == 0 {
		return [][]int{nil}
	}
	var all [][]int
	for _, order := range orders(n - 1) {
		for i := range n {
			all = append(all, slices.Insert(slices.Clone(order), i, n-1))
		}
	}
	return all
}

// P7.1: every call answers what is told, in every order of calls on several queues.

func TestTheExamplesOfAQueue(t *testing.T) {
	q := New()
	pushes(t, q, api.Ranked{Id: 7, Rank: 5}, api.Ranked{Id: 3, Rank: 5}, api.Ranked{Id: 9, Rank: 1})
	got, err := q.Peek()
	sameThing(t, "Peek", got, err, api.Ranked{Id: 9, Rank: 1}, nil)
	lists(t, q, api.Ranked{Id: 9, Rank: 1}, api.Ranked{Id: 3, Rank: 5}, api.Ranked{Id: 7, Rank: 5})
	sameError(t, "Turn", q.Turn(9, 6), nil)
	got, err = q.Pop()
	sameThing(t, "Pop", got, err, api.Ranked{Id: 3, Rank: 5}, nil)
	sameError(t, "Push", q.Push(7, 0), api.ErrThere)
	lists(t, q, api.Ranked{Id: 7, Rank: 5}, api.Ranked{Id: 9, Rank: 6})
}

// hasNothing asks that a queue tells that there is nothing, and refuses what asks for a thing.
func hasNothing(t *testing.T, q *Queue) {
	t.Helper()
	got, err := q.Pop()
	sameThing(t, "Pop", got, err, api.Ranked{}, api.ErrGone)
	got, err = q.Peek()
	sameThing(t, "Peek", got, err, api.Ranked{}, api.ErrGone)
	for _, id := range edges {
		sameError(t, "Turn", q.Turn(id, id), api.ErrGone)
		sameError(t, "Drop", q.Drop(id), api.ErrGone)
	}
	if q.Len() != 0 {
		t.Fatalf("Len: %d", q.Len())
	}
	lists(t, q)
}

func TestAQueueOfNothing(t *testing.T) {
	q := New()
	hasNothing(t, q)
	hasNothing(t, q)
	pushes(t, q, api.Ranked{Id: 1, Rank: 2}, api.Ranked{Id: 2, Rank: 1})
	popped(t, q)
	hasNothing(t, q)
	pushes(t, q, api.Ranked{Id: 1, Rank: 2}, api.Ranked{Id: 2, Rank: 1})
	sameError(t, "Drop", q.Drop(2), nil)
	sameError(t, "Drop", q.Drop(1), nil)
	hasNothing(t, q)
	pushes(t, q, api.Ranked{Id: 1, Rank: 7})
	lists(t, q, api.Ranked{Id: 1, Rank: 7})
}

func TestOneThing(t *testing.T) {
	for _, id := range edges {
		for _, rank := range edges {
			q := New()
			thing := api.Ranked{Id: id, Rank: rank}
			pushes(t, q, thing)
			for range 2 {
				got, err := q.Peek()
				sameThing(t, "Peek", got, err, thing, nil)
			}
			sameError(t, "Push", q.Push(id, 3), api.ErrThere)
			sameError(t, "Turn", q.Turn(3, 5), api.ErrGone)
			sameError(t, "Drop", q.Drop(3), api.ErrGone)
			lists(t, q, thing)
			got, err := q.Pop()
			sameThing(t, "Pop", got, err, thing, nil)
			hasNothing(t, q)
			pushes(t, q, thing)
			sameError(t, "Turn", q.Turn(id, 4), nil)
			lists(t, q, api.Ranked{Id: id, Rank: 4})
			sameError(t, "Drop", q.Drop(id), nil)
			hasNothing(t, q)
		}
	}
}

// full is a queue of as many things as there may be, with Ids from 0 on, and its model.
func full(t *testing.T, rank func(id int) int) pair {
	t.Helper()
	p := newPair()
	for id := range 4096 {
		p.push(t, id, rank(id))
	}
	if p.q.Len() != 4096 || api.MaxQueue != 4096 {
		t.Fatalf("Len: %d", p.q.Len())
	}
	return p
}

func TestAFullQueue(t *testing.T) {
	for _, rank := range []func(int) int{
		func(id int) int { return id },
		func(id int) int { return -id },
		func(id int) int { return 0 },
		func(id int) int { return id * 1103515245 % 1009 },
	} {
		p := full(t, rank)
		p.same(t)
		for _, other := range []int{-1, 4096, math.MinInt, math.MaxInt} {
			sameError(t, "Push of one more", p.q.Push(other, math.MinInt), api.ErrFull)
			sameError(t, "Turn of one more", p.q.Turn(other, 0), api.ErrGone)
			sameError(t, "Drop of one more", p.q.Drop(other), api.ErrGone)
		}
		for id := range 4096 {
			sameError(t, "Push of what is there", p.q.Push(id, math.MinInt), api.ErrThere)
		}
		p.same(t)
		roomAgain(t, p)
		p.emptied(t)
	}
}

// roomAgain takes things out of a full queue in each way, and puts one in: there is room for that one, and not for two.
func roomAgain(t *testing.T, p pair) {
	t.Helper()
	p.turn(t, 17, math.MaxInt)
	p.push(t, 5000, 1)
	p.pop(t)
	p.push(t, 5001, 1)
	p.push(t, 5002, 1)
	p.drop(t, 17)
	p.push(t, 17, 1)
	p.push(t, 5003, 1)
	p.same(t)
}

func TestEqualRanksWithIdsInEveryOrder(t *testing.T) {
	ids := []int{math.MinInt, -3, -1, 0, 2, 40, math.MaxInt}
	for n := range len(ids) + 1 {
		for _, order := range orders(n) {
			for _, rank := range []int{math.MinInt, 0, math.MaxInt} {
				q := New()
				var want []api.Ranked
				for k, i := range order {
					pushes(t, q, api.Ranked{Id: ids[i], Rank: rank})
					want = append(want, api.Ranked{Id: ids[k], Rank: rank})
				}
				lists(t, q, want...)
				if got := popped(t, q); !slices.Equal(got, want) {
					t.Fatalf("%v: popped %v", order, got)
				}
			}
		}
	}
}

func TestIdsAndRanksAtTheEndsOfInt(t *testing.T) {
	// Each pair of things, so that no difference of two ranks or of two Ids may wrap round.
	for _, rank := range edges {
		for _, other := range edges {
			for _, id := range edges {
				for _, otherId := range edges {
					p := newPair()
					p.push(t, id, rank)
					p.push(t, otherId, other)
					p.same(t)
					p.emptied(t)
				}
			}
		}
	}
	p := newPair()
	for i, id := range edges {
		p.push(t, id, edges[(i*7+3)%len(edges)])
		p.same(t)
	}
	for i, id := range edges {
		p.turn(t, id, edges[(i*5+1)%len(edges)])
		p.same(t)
	}
	p.emptied(t)
}

// mixed is things of few ranks, as they are pushed.
func mixed(n int) []api.Ranked {
	var things []api.Ranked
	for i := range n {
		things = append(things, api.Ranked{Id: i*37%101 - 50, Rank: i * i % 7})
	}
	return things
}

func mixedPair(t *testing.T, n int) pair {
	t.Helper()
	p := newPair()
	for _, thing := range mixed(n) {
		p.push(t, thing.Id, thing.Rank)
	}
	return p
}

func TestTurn(t *testing.T) {
	for _, n := range []int{1, 2, 3, 4, 7, 8, 15, 16, 40} {
		for _, thing := range mixed(n) {
			for _, rank := range []int{thing.Rank, math.MinInt, math.MaxInt, -1, 0, 3, 6, 7} {
				p := mixedPair(t, n)
				p.turn(t, thing.Id, rank)
				p.same(t)
				p.push(t, thing.Id, 0)
				p.turn(t, 1000, rank)
				p.same(t)
				p.emptied(t)
			}
		}
	}
}

func TestDrop(t *testing.T) {
	for _, n := range []int{1, 2, 3, 4, 7, 8, 15, 16, 40} {
		for _, thing := range mixed(n) {
			p := mixedPair(t, n)
			p.drop(t, thing.Id)
			p.same(t)
			p.drop(t, thing.Id)
			p.turn(t, thing.Id, 0)
			p.drop(t, 1000)
			p.same(t)
			p.push(t, thing.Id, 2)
			p.same(t)
			p.emptied(t)
		}
	}
}

// calls is how many calls anyCall knows.
const calls = 16

// anyCall makes the call of a number on both.
func (p pair) anyCall(t *testing.T, number int) {
	t.Helper()
	id, rank := number%3, number/3%2
	switch {
	case number < 6:
		p.push(t, id, rank)
	case number < 12:
		p.turn(t, id, rank)
	case number < 15:
		p.drop(t, id)
	default:
		p.pop(t)
	}
}

func TestEveryShortOrderOfCalls(t *testing.T) {
	const steps = 4
	for row := range 1 << (4 * steps) {
		p := newPair()
		for k := range steps {
			p.anyCall(t, row>>(4*k)%calls)
			p.same(t)
		}
		p.emptied(t)
	}
}

// step makes one call on both, of Ids and ranks below some numbers.
func (p pair) step(t *testing.T, r *rand.Rand, ids, ranks, pushing int) {
	t.Helper()
	id, rank := r.Intn(ids)-ids/2, r.Intn(ranks)-ranks/2
	switch k := r.Intn(10); {
	case k < pushing:
		p.push(t, id, rank)
	case k < 8:
		p.turn(t, id, rank)
	case k < 9:
		p.drop(t, id)
	default:
		p.pop(t)
	}
	p.first(t)
}

func TestManyOrdersOfCallsOnSeveralQueues(t *testing.T) {
	r := rand.New(rand.NewSource(7))
	for range 200 {
		queues := []pair{newPair(), newPair(), newPair(), newPair()}
		ids, ranks, pushing := 1+r.Intn(80), 1+r.Intn(60), 1+r.Intn(7)
		for range 400 {
			queues[r.Intn(len(queues))].step(t, r, ids, ranks, pushing)
			if r.Intn(10) == 0 {
				for _, p := range queues {
					p.same(t)
				}
			}
		}
		for _, p := range queues {
			p.same(t)
			p.emptied(t)
		}
	}
}

func TestManyThings(t *testing.T) {
	r := rand.New(rand.NewSource(77))
	for _, ranks := range []int{1, 3, 100, math.MaxInt} {
		p := newPair()
		for range 2500 {
			p.step(t, r, 3000, ranks, 6)
		}
		p.same(t)
		p.emptied(t)
	}
}

func TestAListIsNewMemory(t *testing.T) {
	for _, n := range []int{1, 2, 3, 20} {
		p := mixedPair(t, n)
		want := p.m.list()
		first, second := p.q.List(), p.q.List()
		for i := range first {
			first[i] = api.Ranked{Id: -1, Rank: math.MinInt}
		}
		_ = append(first[:0], api.Ranked{Id: 5, Rank: 5})
		if !slices.Equal(second, want) {
			t.Fatalf("an answer changes with another one: %v", second)
		}
		p.same(t)
		p.pop(t)
		p.push(t, 1000, math.MinInt)
		p.turn(t, 1000, math.MaxInt)
		if !slices.Equal(second, want) {
			t.Fatalf("an answer changes with the queue: %v", second)
		}
		p.emptied(t)
	}
}

func TestAListHandsOutNothingBehindItsLength(t *testing.T) {
	p := mixedPair(t, 20)
	for len(p.m.things) > 0 {
		p.pop(t)
		list := p.q.List()
		for _, thing := range list[len(list):cap(list)] {
			if thing != (api.Ranked{}) {
				t.Fatalf("%v lies behind the list", thing)
			}
		}
	}
}

// P7.2: popped until nothing is left, each thing stands ahead of the next; Turn and Drop disturb no others.

func TestPoppedUntilNothingIsLeft(t *testing.T) {
	r := rand.New(rand.NewSource(72))
	for n := range 130 {
		for _, ranks := range []int{1, 2, 10, math.MaxInt} {
			q := New()
			var things []api.Ranked
			for _, id := range r.Perm(n) {
				thing := api.Ranked{Id: id - n/2, Rank: r.Intn(ranks) - ranks/2}
				things = append(things, thing)
				pushes(t, q, thing)
			}
			all := popped(t, q)
			for i := 1; i < len(all); i++ {
				if !before(all[i-1], all[i]) {
					t.Fatalf("%v is popped ahead of %v", all[i-1], all[i])
				}
			}
			if len(all) != n || !sameThings(all, things) {
				t.Fatalf("popped %v of %v", all, things)
			}
			hasNothing(t, q)
		}
	}
}

// sameThings tells whether two lists have the same things, in any order.
func sameThings(a, b []api.Ranked) bool {
	count := map[api.Ranked]int{}
	for _, thing := range a {
		count[thing]++
	}
	for _, thing := range b {
		count[thing]--
	}
	for _, n := range count {
		if n != 0 {
			return false
		}
	}
	return true
}

// without is a list without the thing of an Id.
func without(list []api.Ranked, id int) []api.Ranked {
	return slices.DeleteFunc(slices.Clone(list), func(thing api.Ranked) bool { return thing.Id == id })
}

func TestTurnAndDropDisturbNoOthers(t *testing.T) {
	const n = 45
	things := mixed(n)
	for _, thing := range things {
		q := New()
		pushes(t, q, things...)
		rest := without(q.List(), thing.Id)
		for _, rank := range []int{math.MaxInt, math.MinInt, 3, thing.Rank} {
			sameError(t, "Turn", q.Turn(thing.Id, rank), nil)
			if got := without(q.List(), thing.Id); !slices.Equal(got, rest) || q.Len() != n {
				t.Fatalf("Turn of %d to %d leaves %v; want %v", thing.Id, rank, got, rest)
			}
		}
		sameError(t, "Drop", q.Drop(thing.Id), nil)
		lists(t, q, rest...)
		if got := popped(t, q); !slices.Equal(got, rest) {
			t.Fatalf("Drop of %d leaves %v; want %v", thing.Id, got, rest)
		}
	}
}

func TestDropInEveryOrder(t *testing.T) {
	for _, order := range orders(7) {
		p := mixedPair(t, 7)
		list := p.m.list()
		for _, i := range order {
			p.drop(t, list[i].Id)
			p.same(t)
		}
		hasNothing(t, p.q)
	}
}
