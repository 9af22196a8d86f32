package server

import (
	"math/rand"
	"testing"

	"almoner/api"
	"almoner/supply"
)

// log is what was seen of a server in a row of ticks, by its calls alone: in each tick whether there was work and how often it was charged, and the chunks. Ticks are told from the one on at which it was made.
type log struct {
	server  api.Server
	work    []bool
	charged []int
	chunks  []seen
}

// seen is a chunk that was seen: its first tick, its deadline, how many ticks were charged in it, and the last of them.
type seen struct {
	first, deadline int
	charged, last   int
}

// watch lets a server go through a row of ticks.
func watch(t *testing.T, s api.Server, at, length int, work working, charge charging) *log {
	t.Helper()
	one := made(t, s, at)
	l := &log{server: s}
	for i := range length {
		now := at + i
		l.work = append(l.work, work(one, now))
		one.Begin(now, l.work[i])
		// Only a chunk that begins now has its deadline T ticks away.
		if one.On() && one.Deadline() == now+s.T {
			l.chunks = append(l.chunks, seen{first: i, deadline: i + s.T})
		}
		l.charged = append(l.charged, 0)
		for range charge(one, now) {
			if one.Charge() == nil {
				l.note(t, i)
			}
		}
	}
	return l
}

// note notes a charge.
func (l *log) note(t *testing.T, i int) {
	t.Helper()
	l.charged[i]++
	if !l.work[i] {
		t.Fatalf("%v was charged at %d, without work", l.server, i)
	}
	if len(l.chunks) == 0 {
		t.Fatalf("%v was charged at %d, ahead of any chunk", l.server, i)
	}
	c := &l.chunks[len(l.chunks)-1]
	c.charged++
	c.last = i
}

// sums are how many ticks were charged ahead of each tick.
func (l *log) sums() []int {
	list := make([]int, 1, len(l.charged)+1)
	for i, n := range l.charged {
		list = append(list, list[i]+n)
	}
	return list
}

// chunksKeep holds the chunks against P14.2. Of a deferrable server it holds too, as its chunks begin at boundaries.
func (l *log) chunksKeep(t *testing.T) {
	t.Helper()
	for i, c := range l.chunks {
		if i > 0 && c.first-l.chunks[i-1].first < l.server.T {
			t.Fatalf("%v: chunks began at %d and %d", l.server, l.chunks[i-1].first, c.first)
		}
		if c.charged > l.server.Q {
			t.Fatalf("%v was charged %d ticks in its chunk from %d on", l.server, c.charged, c.first)
		}
		if c.charged > 0 && c.last >= c.deadline {
			t.Fatalf("%v was charged at %d, its deadline being %d", l.server, c.last, c.deadline)
		}
	}
}

// demandKeeps holds every piece of the row against P14.2; how many were charged as much as they may be is told.
func (l *log) demandKeeps(t *testing.T) int {
	t.Helper()
	sums, full := l.sums(), 0
	q, period := l.server.Q, l.server.T
	for from := range sums {
		for to := from + 1; to < len(sums); to++ {
			ticks := to - from
			most := q*((ticks+period-1)/period) + q // Q times L / T, rounded up, and Q more
			got := sums[to] - sums[from]
			if got > most {
				t.Fatalf("%v was charged %d ticks from %d to %d; at most %d", l.server, got, from, to, most)
			}
			full += count(got == most)
		}
	}
	return full
}

// supplyKeeps holds every piece of the row with work in all of its ticks against P14.3; how many were charged no more than the supply, not 0, is told.
func (l *log) supplyKeeps(t *testing.T) int {
	t.Helper()
	sums, bare := l.sums(), 0
	for from := range l.work {
		for to := from + 1; to < len(sums) && l.work[to-1]; to++ {
			least, err := supply.Bound(l.server, to-from)
			if err != nil {
				t.Fatal(err)
			}
			got := sums[to] - sums[from]
			if got < least {
				t.Fatalf("%v was charged %d ticks from %d to %d; at least %d", l.server, got, from, to, least)
			}
			bare += count(got == least && got > 0)
		}
	}
	return bare
}

// byRow is the work or the charges that a row's number tells.
func byRow(row, place, step, at int) func(*Server, int) bool {
	return func(_ *Server, now int) bool { return bit(row, (now-at)*step+place) }
}

// P14.2 and P14.3, every short row; where the supply is asked for, charges that can't wait aren't left out.
func TestPromisesOfEveryShortRow(t *testing.T) {
	const length, at = 7, 3
	for _, s := range smallServers(3) {
		for row := range 1 << (2 * length) {
			work, chosen := byRow(row, 0, 2, at), byRow(row, 1, 2, at)
			freely := func(one *Server, now int) int { return count(chosen(one, now)) }
			l := watch(t, s, at, length, work, freely)
			l.chunksKeep(t)
			l.demandKeeps(t)
			timely := func(one *Server, now int) int {
				return count(one.Ready() && (chosen(one, now) || last(one, now)))
			}
			l = watch(t, s, at, length, work, timely)
			l.chunksKeep(t)
			l.demandKeeps(t)
			l.supplyKeeps(t)
		}
	}
}

// P14.2 and P14.3, every row of work, charged as early as it can be and as late.
func TestPromisesOfEveryRowOfWork(t *testing.T) {
	const length = 12
	for _, s := range smallServers(5) {
		for row := range 1 << length {
			for _, charge := range []charging{early, late} {
				l := watch(t, s, 0, length, byRow(row, 0, 1, 0), charge)
				l.chunksKeep(t)
				l.demandKeeps(t)
				l.supplyKeeps(t)
			}
		}
	}
}

// P14.2, many long rows, whoever charges: also whenever it is ready, and more than once in a tick.
func TestDemandOfManyRows(t *testing.T) {
	random := rand.New(rand.NewSource(143))
	var full, chunks [4]int
	for i := range 3000 {
		s := anyServer(random, 1+i%3)
		at := pick(random, times()...)
		work := pick(random, workings(random, s, at)...)
		charge := pick(random, early, early, late, sometimes(random), inTime(random), wildly(random))
		l := watch(t, s, at, 5+random.Intn(4*s.T), work, charge)
		l.chunksKeep(t)
		full[s.Kind] += l.demandKeeps(t)
		chunks[s.Kind] += len(l.chunks)
	}
	for kind := 1; kind <= 3; kind++ {
		if full[kind] == 0 || chunks[kind] < 300 {
			t.Errorf("the rows of kind %d ask for too little: %d pieces at the bound, %d chunks", kind, full[kind], chunks[kind])
		}
	}
}

// P14.3, many long rows, charged in time.
func TestSupplyOfManyRows(t *testing.T) {
	random := rand.New(rand.NewSource(144))
	var bare [4]int
	for i := range 3000 {
		s := anyServer(random, 1+i%3)
		at := pick(random, times()...)
		work := pick(random, workings(random, s, at)...)
		charge := pick(random, early, late, late, inTime(random))
		l := watch(t, s, at, 5+random.Intn(5*s.T), work, charge)
		bare[s.Kind] += l.supplyKeeps(t)
	}
	for kind := 1; kind <= 3; kind++ {
		if bare[kind] < 200 {
			t.Errorf("the rows of kind %d ask for too little: %d pieces at the bound", kind, bare[kind])
		}
	}
}

// P14.3: work that comes behind a boundary, or when all of the first budget is gone, with charges as late as they may be, makes the server's row of layer 10, tick by tick.
func TestTheLeastIsTheRow(t *testing.T) {
	for kind := 1; kind <= 3; kind += 2 {
		for _, period := range []int{1, 2, 3, 5, 10, 255, 256} {
			for _, q := range []int{1, (period + 1) / 2, period} {
				theLeastIsTheRow(t, server(kind, q, period))
			}
		}
	}
	for _, period := range []int{1, 2, 3, 5, 10, 255, 256} {
		theLeastIsTheRow(t, server(api.KindSporadic, 1, period))
	}
}

func theLeastIsTheRow(t *testing.T, s api.Server) {
	t.Helper()
	// A polling server's first period is lost; of the others the first budget is charged at once.
	begin := s.Q
	if s.Kind == api.KindPolling {
		begin = 1
	}
	work := func(_ *Server, now int) bool { return s.Kind != api.KindPolling || now >= begin }
	charge := func(one *Server, now int) int {
		if now < begin {
			return early(one, now)
		}
		return late(one, now)
	}
	l := watch(t, s, 0, begin+5*s.T, work, charge)
	l.supplyKeeps(t)
	i := begin
	for given := range supply.Row(s) {
		if i == len(l.charged) {
			return
		}
		if (l.charged[i] == 1) != given {
			t.Fatalf("%v was charged %d at %d, of its row from %d on: %v", s, l.charged[i], i, begin, given)
		}
		i++
	}
}

// P14.2: a deferrable server charged at the end of a period and at the beginning of the next is charged twice its budget in one go, and no more.
func TestTheMostOfADeferrableServer(t *testing.T) {
	for _, period := range []int{2, 4, 5, 10, 256} {
		s := server(api.KindDeferrable, period/2, period)
		work := func(_ *Server, now int) bool { return now >= period-s.Q }
		l := watch(t, s, 0, 4*period, work, early)
		sums := l.sums()
		if got := sums[period+s.Q] - sums[period-s.Q]; got != 2*s.Q {
			t.Errorf("%v was charged %d ticks in %d", s, got, 2*s.Q)
		}
		if l.demandKeeps(t) == 0 {
			t.Errorf("%v never came to its bound", s)
		}
	}
}
