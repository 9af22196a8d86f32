package server

import (
	"math/rand"
	"testing"

	"almoner/api"
)

// Rows of ticks, every short one and many long ones with fixed seeds.

// working tells whether there is work in a tick, by what the server tells ahead of it.
type working func(s *Server, now int) bool

// charging tells how often a server is charged in a tick that has begun.
type charging func(s *Server, now int) int

// workings are ways in which work comes and goes.
func workings(random *rand.Rand, s api.Server, made int) []working {
	chance := random.Float64()
	phase, left := false, 0
	about := 1 + random.Intn(3*s.T)
	shift := pick(random, -1, 0, 1)
	return []working{
		func(*Server, int) bool { return true },
		func(*Server, int) bool { return random.Float64() < chance },
		func(*Server, int) bool { // long times with work and without
			if left--; left < 0 {
				phase, left = !phase, random.Intn(about)
			}
			return phase
		},
		func(_ *Server, now int) bool { // it comes and goes about boundaries
			if (now-made-shift+s.T)%s.T == 0 {
				phase = random.Intn(2) == 0
			}
			return phase
		},
		func(one *Server, now int) bool { // it comes about the deadline, and goes anywhere
			if now == one.Deadline()+shift {
				phase = true
			} else if random.Intn(about) == 0 {
				phase = !phase
			}
			return phase
		},
		func(_ *Server, now int) bool { return (now-made)%s.T != 0 }, // never at a boundary
	}
}

func early(s *Server, _ int) int { return count(s.Ready()) }

func never(*Server, int) int { return 0 }

// last tells whether a tick can be the last in which the budget fits ahead of the deadline, or is behind that one.
func last(s *Server, now int) bool { return s.Ready() && s.Deadline()-now <= s.Budget() }

func late(s *Server, now int) int { return count(last(s, now)) }

func count(there bool) int {
	if there {
		return 1
	}
	return 0
}

// sometimes charges one tick or none, by chance.
func sometimes(random *rand.Rand) charging {
	chance := random.Float64()
	return func(s *Server, _ int) int { return count(s.Ready() && random.Float64() < chance) }
}

// inTime charges by chance, but never later than the last tick in which the budget fits.
func inTime(random *rand.Rand) charging {
	chance := random.Float64()
	return func(s *Server, now int) int {
		return count(last(s, now) || s.Ready() && random.Float64() < chance)
	}
}

// wildly charges also where it is refused, and more than once in a tick.
func wildly(random *rand.Rand) charging {
	return func(*Server, int) int { return random.Intn(3) }
}

// bit is the place-th bit of a row's number.
func bit(row, place int) bool { return row>>place&1 == 1 }

// P14.1, every short row: each tick with or without work, charged or not.
func TestEveryShortRow(t *testing.T) {
	const length = 7
	for _, s := range smallServers(4) {
		for row := range 1 << (2 * length) {
			p := newPair(t, s, row%3)
			for i := range length {
				p.begin(bit(row, 2*i))
				if bit(row, 2*i+1) {
					p.charge()
				}
			}
		}
	}
}

// P14.1, every row of work that is charged as early as it can be.
func TestEveryRowOfWork(t *testing.T) {
	const length = 14
	for _, s := range []api.Server{server(1, 2, 5), server(2, 2, 5), server(3, 2, 5), server(1, 3, 6), server(2, 3, 6), server(3, 3, 6)} {
		for row := range 1 << length {
			p := newPair(t, s, 0)
			for i := range length {
				if p.begin(bit(row, i)) {
					p.charge()
				}
			}
		}
	}
}

// P14.1, many long rows.
func TestManyRows(t *testing.T) {
	random := rand.New(rand.NewSource(141))
	for i := range 20000 {
		s := anyServer(random, 1+i%3)
		at := pick(random, pick(random, times()...), random.Intn(600), random.Intn(most+1))
		p := newPair(t, s, at)
		work := pick(random, workings(random, s, at)...)
		charge := pick(random, early, late, never, sometimes(random), inTime(random), wildly(random))
		for range 5 + random.Intn(4*s.T) {
			p.begin(work(p.s, p.now))
			for range charge(p.s, p.now-1) {
				p.charge()
			}
		}
	}
}

// P14.1, P14.2: servers that are made of one another's numbers, in turn, share nothing.
func TestServersShareNothing(t *testing.T) {
	random := rand.New(rand.NewSource(142))
	for range 100 {
		s := anyServer(random, 1+random.Intn(3))
		var pairs []*pair
		for range 2 + random.Intn(4) {
			if random.Intn(3) == 0 {
				s = anyServer(random, 1+random.Intn(3))
			}
			pairs = append(pairs, newPair(t, s, random.Intn(3)))
		}
		for range 600 {
			p := pick(random, pairs...)
			if p.begin(random.Intn(4) > 0) && random.Intn(2) == 0 {
				p.charge()
			}
			for _, other := range pairs {
				other.same("a call of another")
			}
		}
	}
}

// Two servers alike, one of them idle: what the other does isn't told of the idle one.
func TestAnIdleServerStays(t *testing.T) {
	for _, s := range smallServers(4) {
		busy, idle := newPair(t, s, 0), newPair(t, s, 0)
		for range 3 * s.T {
			if busy.begin(true) {
				busy.charge()
			}
			idle.same("another's tick")
		}
		if !idle.begin(true) || idle.s.Budget() != s.Q {
			t.Fatalf("%v: %+v", s, faceOf(idle.s))
		}
	}
}
