package guest

import (
	"math"
	"math/rand"
	"testing"

	"almoner/api"
)

// Rows of calls against the book, every short one and many long ones with fixed seeds.

// shortGuests are guests of two tasks, with holds and without, and of one.
func shortGuests() [][]api.Task {
	return [][]api.Task{
		{aTask(2, 2, 2, 2)},
		{aTask(2, 3, 3, 0), aTask(3, 4, 3, 2)},
		{aTask(2, 3, 3, 1), aTask(2, 3, 2, 2)},
		{aTask(3, 3, 3, 3), aTask(1, 2, 1, 0)},
		{aTask(3, 4, 4, 2), aTask(3, 3, 3, 3)},
	}
}

// P15.1, every short row: in each step the time goes on or not, and one of the tasks is released, short or long, or the guest runs.
func TestEveryShortRow(t *testing.T) {
	const length, choices = 6, 6
	rows := int(math.Pow(choices, length))
	for _, policy := range policies() {
		for _, tasks := range shortGuests() {
			for row := range rows {
				p, now := newPair(t, policy, tasks...), 0
				for range length {
					switch row % choices {
					case 0:
						p.release(0, now, 3)
					case 1:
						p.release(1, now, 3)
					case 2:
						p.release(1, now, 1)
					case 3:
						now++
					case 4:
						p.run()
					case 5:
						p.run()
						now += 2
					}
					row /= choices
				}
				for p.g.Work() {
					p.run()
				}
			}
		}
	}
}

// script is a pair with a time of its own, that goes on, and at times back.
type script struct {
	*pair
	random *rand.Rand
	now    int
	eager  int // how many of ten steps release
}

func anyScript(t *testing.T, random *rand.Rand) *script {
	tasks := anyTasks(random, pick(random, 1, 4, 10, 40, 256))
	return &script{
		pair: newPair(t, pick(random, policies()...), tasks...), random: random,
		now: pick(random, 0, 0, random.Intn(1000), random.Intn(most), most-random.Intn(600)), eager: 1 + random.Intn(10),
	}
}

// step is one call.
func (s *script) step() {
	if s.random.Intn(10) >= s.eager {
		s.run()
		s.now = min(s.now+s.random.Intn(2), most)
		return
	}
	task := s.random.Intn(len(s.book.tasks))
	if s.random.Intn(20) == 0 {
		task = pick(s.random, wrongPlaces(len(s.book.tasks))...)
		s.release(task, s.now, 1)
		return
	}
	mine := s.book.tasks[task]
	now := s.now
	if s.random.Intn(10) < s.eager {
		now = s.about(task)
	}
	if s.random.Intn(20) == 0 {
		now = pick(s.random, wrongTimes()...)
	}
	if s.release(task, now, pick(s.random, someTicks(mine.C)...)) == nil {
		s.now = pick(s.random, now, s.now)
	}
}

// about is a tick about the one from which on a task may be released again.
func (s *script) about(task int) int {
	last, there := s.book.last[task]
	if !there {
		return s.random.Intn(s.now + 2)
	}
	return last + s.book.tasks[task].P + pick(s.random, -1, 0, 1)
}

// P15.1, many long rows on two guests at once, that share nothing.
func TestManyRows(t *testing.T) {
	random := rand.New(rand.NewSource(151))
	full, busy, held := 0, 0, 0
	for range 600 {
		two := []*script{anyScript(t, random), anyScript(t, random)}
		for range 100 + random.Intn(200) {
			i := random.Intn(2)
			two[i].step()
			two[1-i].same("a call of another")
			for _, s := range two {
				full += count(len(s.book.waits) == room)
				busy += count(len(s.book.waits) > 1)
				held += count(holding(s.book))
			}
		}
	}
	if full < 100 || busy < 1000 || held < 1000 {
		t.Errorf("the rows are of little use: %d full, %d busy, %d held", full, busy, held)
	}
}

// holding tells whether a job holds on while another would run else.
func holding(b *book) bool {
	place, there := b.next()
	if !there || !b.holdsOn(b.waits[place]) {
		return false
	}
	other := *b
	other.waits = nil
	for _, e := range b.waits {
		e.done = 0
		other.waits = append(other.waits, e)
	}
	free, _ := other.next()
	return free != place
}

func count(there bool) int {
	if there {
		return 1
	}
	return 0
}

// Two guests of one list, one of them idle: what the other does isn't told of the idle one.
func TestAnIdleGuestStays(t *testing.T) {
	tasks := []api.Task{aTask(2, 4, 4, 1), aTask(1, 3, 3, 0)}
	for _, policy := range policies() {
		busy, err := New(policy, tasks)
		if err != nil {
			t.Fatal(err)
		}
		idle, err := New(policy, tasks)
		if err != nil {
			t.Fatal(err)
		}
		for i := range 10 {
			if busy.Release(0, 4*i, 2) != nil || busy.Release(1, 3*i, 1) != nil {
				t.Fatal("not released")
			}
			if _, _, err := busy.Run(); err != nil || idle.Work() || len(idle.Jobs()) != 0 || idle.Late(math.MaxInt) != 0 {
				t.Fatal(err, "the idle one has jobs")
			}
		}
		if err := idle.Release(0, 0, 2); err != nil || len(idle.Jobs()) != 1 {
			t.Error(err, idle.Jobs())
		}
	}
}
