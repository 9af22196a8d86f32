package server

import (
	"math"
	"math/rand"
	"testing"

	"almoner/api"
)

// The words of the chapter, kept by the test itself, with their numbers written out.

// most is MaxTime.
const most = 1099511627776

// book is a server as the chapter's words tell it.
type book struct {
	server   api.Server
	told, on bool
	budget   int
	deadline int
	next     int // the next boundary
}

func newBook(s api.Server, made int) book {
	return book{server: s, deadline: made, next: made}
}

// atBoundary is asked once a tick.
func (b *book) atBoundary(now int) bool {
	if now != b.next {
		return false
	}
	b.next += b.server.T
	return true
}

func (b *book) chunkBegins(now int) {
	b.on = true
	b.budget = b.server.Q
	b.deadline = now + b.server.T
}

func (b *book) off() {
	b.on = false
	b.budget = 0
}

func (b *book) begin(now int, work bool) {
	b.told = work
	boundary := b.atBoundary(now)
	switch b.server.Kind {
	case 1:
		if boundary && work {
			b.chunkBegins(now)
		} else if boundary {
			b.off()
		} else if b.on && !work {
			b.off()
		}
	case 2:
		if b.on && !work {
			b.off()
		}
		if work && !(now < b.deadline) {
			b.chunkBegins(now)
		}
	case 3:
		if boundary {
			b.chunkBegins(now)
		}
	}
}

func (b *book) ready() bool { return b.told && b.budget != 0 }

func (b *book) charge() error {
	if !b.ready() {
		return api.ErrState
	}
	b.budget--
	return nil
}

// face is all that a server tells.
type face struct {
	ready, on        bool
	budget, deadline int
	server           api.Server
}

func (b *book) face() face { return face{b.ready(), b.on, b.budget, b.deadline, b.server} }

func faceOf(s *Server) face { return face{s.Ready(), s.On(), s.Budget(), s.Deadline(), s.Kind()} }

// pair is a server and the book that is kept beside it.
type pair struct {
	t    *testing.T
	s    *Server
	book book
	made int
	now  int // the next tick
}

func made(t *testing.T, s api.Server, now int) *Server {
	t.Helper()
	got, err := New(s, now)
	if err != nil || got == nil {
		t.Fatalf("New of %v, %d: %v, %v", s, now, got, err)
	}
	return got
}

func newPair(t *testing.T, s api.Server, now int) *pair {
	t.Helper()
	p := &pair{t: t, s: made(t, s, now), book: newBook(s, now), made: now, now: now}
	p.same("made")
	return p
}

// same holds all that the server tells against the book.
func (p *pair) same(behind string) {
	if got, want := faceOf(p.s), p.book.face(); got != want {
		p.t.Helper()
		p.t.Fatalf("%v made at %d, behind %s of the tick ahead of %d: %+v; want %+v", p.book.server, p.made, behind, p.now, got, want)
	}
}

func (p *pair) begin(work bool) bool {
	now := p.now
	p.now++
	p.book.begin(now, work)
	ready := p.s.Begin(now, work)
	if ready != p.book.ready() {
		p.t.Helper()
		p.t.Fatalf("%v made at %d: Begin of %d, %v: %v; want %v", p.book.server, p.made, now, work, ready, p.book.ready())
	}
	p.same("Begin")
	return ready
}

func (p *pair) charge() {
	if got, want := p.s.Charge(), p.book.charge(); got != want {
		p.t.Helper()
		p.t.Fatalf("%v made at %d: Charge in the tick ahead of %d: %v; want %v", p.book.server, p.made, p.now, got, want)
	}
	p.same("Charge")
}

func server(kind, q, t int) api.Server { return api.Server{Kind: kind, Q: q, T: t} }

// smallServers are all servers of short periods, of each Kind.
func smallServers(longest int) []api.Server {
	var list []api.Server
	for kind := 1; kind <= 3; kind++ {
		for period := 1; period <= longest; period++ {
			for q := 1; q <= period; q++ {
				list = append(list, server(kind, q, period))
			}
		}
	}
	return list
}

// anyServer is a legal server of a Kind, often with Q or T at an edge.
func anyServer(random *rand.Rand, kind int) api.Server {
	period := pick(random, 1, 2, 3, 5, 1+random.Intn(12), 1+random.Intn(12), 1+random.Intn(40), 1+random.Intn(256), 255, 256)
	q := pick(random, 1, period, max(1, period-1), 1+random.Intn(period), 1+random.Intn(period), 1+random.Intn(period))
	return server(kind, q, period)
}

func pick[T any](random *rand.Rand, list ...T) T { return list[random.Intn(len(list))] }

// times are those at which servers are made: 0, later ones, and MaxTime.
func times() []int { return []int{0, 1, 4, 5, 6, 1000, 1 << 31, most - 1, most} }

// wrongServers aren't legal: the whole, and many beside one that is.
func wrongServers() []api.Server {
	list := []api.Server{{}, server(0, 1, 1), server(0, 2, 5)}
	for _, kind := range []int{math.MinInt, -1, 4, 5, 256, math.MaxInt} {
		list = append(list, server(kind, 2, 5))
	}
	for kind := 1; kind <= 3; kind++ {
		for _, q := range []int{math.MinInt, -5, -1, 0, 6, 257, math.MaxInt} {
			list = append(list, server(kind, q, 5))
		}
		for _, period := range []int{math.MinInt, -5, -1, 0, 1, 257, 512, math.MaxInt} {
			list = append(list, server(kind, 2, period))
		}
		list = append(list, server(kind, 0, 0), server(kind, -1, -1), server(kind, 257, 257), server(kind, math.MaxInt, math.MaxInt))
	}
	return list
}

// wrongTimes aren't 0 to MaxTime.
func wrongTimes() []int {
	return []int{math.MinInt, math.MinInt + 1, -most, -256, -2, -1, most + 1, most + 2, 2 * most, math.MaxInt - 1, math.MaxInt}
}
