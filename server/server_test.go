package server

import (
	"math"
	"strconv"
	"testing"

	"almoner/api"
)

// P14.1: New.

func TestNewOfLegalServers(t *testing.T) {
	for _, s := range smallServers(256) {
		for _, now := range []int{0, 7, most} {
			got := made(t, s, now)
			if want := (face{deadline: now, server: s}); faceOf(got) != want {
				t.Fatalf("New of %v, %d: %+v; want %+v", s, now, faceOf(got), want)
			}
		}
	}
	for _, now := range times() {
		newPair(t, server(api.KindSporadic, 2, 5), now)
	}
}

func newIsRefused(t *testing.T, s api.Server, now int, want error) {
	t.Helper()
	if got, err := New(s, now); got != nil || err != want {
		t.Fatalf("New of %v, %d: %v, %v; want nil, %v", s, now, got, err, want)
	}
}

func TestNewRefusesServers(t *testing.T) {
	for _, s := range wrongServers() {
		for _, now := range times() {
			newIsRefused(t, s, now, api.ErrServer)
		}
	}
}

func TestNewRefusesTimes(t *testing.T) {
	for _, s := range smallServers(3) {
		for _, now := range wrongTimes() {
			newIsRefused(t, s, now, api.ErrNumber)
		}
	}
}

func TestNewTellsOfTheServerFirst(t *testing.T) {
	for _, s := range wrongServers() {
		for _, now := range wrongTimes() {
			newIsRefused(t, s, now, api.ErrServer)
		}
	}
}

// P14.1: scenes, with what is to be seen written out tick by tick.

// scene is a row of ticks: in which of them there is work, and in which a tick is charged; what Begin answers, and the budget, whether it is on and the deadline behind Begin. Deadlines are told from the tick on at which the server was made.
type scene struct {
	name          string
	server        api.Server
	work, charge  string
	ready, on     string
	budget, until string
}

func (c scene) plays(t *testing.T, at int) {
	t.Helper()
	s := made(t, c.server, at)
	var ready, on, budget, until []byte
	for i := range len(c.work) {
		ready = mark(ready, s.Begin(at+i, c.work[i] == 'w'), 'r')
		on = mark(on, s.On(), 'o')
		budget = strconv.AppendInt(budget, int64(s.Budget()), 36)
		until = strconv.AppendInt(until, int64(s.Deadline()-at), 36)
		if c.charge[i] == 'c' && s.Charge() != nil {
			t.Errorf("%s, made at %d: not charged at %d", c.name, at, i)
		}
	}
	told := func(what, got, want string) {
		t.Helper()
		if got != want {
			t.Errorf("%s, made at %d: %s\n%s; want\n%s; work\n%s", c.name, at, what, got, want, c.work)
		}
	}
	told("ready", string(ready), c.ready)
	told("on", string(on), c.on)
	told("budget", string(budget), c.budget)
	told("deadline", string(until), c.until)
}

func mark(row []byte, there bool, as byte) []byte {
	if there {
		return append(row, as)
	}
	return append(row, '-')
}

func scenesArePlayed(t *testing.T, list []scene) {
	t.Helper()
	for _, c := range list {
		for _, at := range times() {
			c.plays(t, at)
		}
	}
}

func TestPollingScenes(t *testing.T) {
	s := server(api.KindPolling, 2, 5)
	scenesArePlayed(t, []scene{
		{"the example", s, "-wwwwwwwwwww", "-----cc---c-", "-----rr---rr", "-----ooooooo", "000002100021", "00000aaaaaff"},
		{"work as it is made", s, "wwwwww", "------", "rrrrrr", "oooooo", "222222", "55555a"},
		{"work comes at a boundary", s, "-----wwwww", "-----cc---", "-----rr---", "-----ooooo", "0000021000", "00000aaaaa"},
		{"work comes ahead of one", s, "----wwwwww", "-----cc---", "-----rr---", "-----ooooo", "0000021000", "00000aaaaa"},
		{"work comes behind one", s, "------wwwwww", "------------", "----------rr", "----------oo", "000000000022", "0000000000ff"},
		{"work ends at one", s, "wwwww-wwwww", "---c-------", "rrrrr-----r", "ooooo-----o", "22221000002", "5555555555f"},
		{"work ends between two", s, "ww-wwww", "c------", "rr---rr", "oo---oo", "2100022", "55555aa"},
		{"work ends behind the charges", s, "wwww-ww", "cc-----", "rr---rr", "oooo-oo", "2100022", "55555aa"},
		{"no work as it is made", s, "-----------w", "------------", "------------", "------------", "000000000000", "000000000000"},
		{"what is left doesn't add up", s, "wwwwwwwwww", "----c----c", "rrrrrrrrrr", "oooooooooo", "2222222222", "55555aaaaa"},
		{"work at one boundary of three", s, "-----w-----w", "------------", "-----r------", "-----o------", "000002000000", "00000aaaaaaa"},
	})
}

func TestSporadicScenes(t *testing.T) {
	s := server(api.KindSporadic, 2, 5)
	scenesArePlayed(t, []scene{
		{"the example", s, "-w-wwwww", "-c------", "-r----rr", "-o----oo", "02000022", "066666bb"},
		{"work as it is made", s, "wwwwwwww", "cc---cc-", "rr---rr-", "oooooooo", "21000210", "55555aaa"},
		{"work comes at the deadline", s, "w----w", "c-----", "r----r", "o----o", "200002", "55555a"},
		{"work comes ahead of it", s, "w---ww", "c-----", "r----r", "o----o", "200002", "55555a"},
		{"work comes and goes ahead of it", s, "w-w-w-", "------", "r-----", "o-----", "200000", "555555"},
		{"work comes behind it", s, "w-----w", "c------", "r-----r", "o-----o", "2000002", "555555b"},
		{"work ends at it", s, "wwwww-w", "c------", "rrrrr-r", "ooooo-o", "2111102", "555555b"},
		{"what is left doesn't add up", s, "wwwwww", "c-----", "rrrrrr", "oooooo", "211112", "55555a"},
		{"behind a time without work", s, "--------wwwww-w", "--------cc-----", "--------rr----r", "--------ooooo-o", "000000002100002", "00000000ddddddj"},
		{"used up, and work goes on", s, "-wwwwwww-", "-cc---cc-", "-rr---rr-", "-ooooooo-", "021000210", "066666bbb"},
	})
}

func TestDeferrableScenes(t *testing.T) {
	s := server(api.KindDeferrable, 2, 5)
	scenesArePlayed(t, []scene{
		{"the example", s, "----w-", "------", "----r-", "oooooo", "222222", "55555a"},
		{"work as it is made", s, "wwwwwww", "cc---cc", "rr---rr", "ooooooo", "2100021", "55555aa"},
		{"work comes and goes", s, "w--w-w", "c--c-c", "r--r-r", "oooooo", "211102", "55555a"},
		{"work comes ahead of a boundary", s, "----ww", "----cc", "----rr", "oooooo", "222222", "55555a"},
		{"work comes at one", s, "-----w", "-----c", "-----r", "oooooo", "222222", "55555a"},
		{"work comes behind one", s, "------w-", "------c-", "------r-", "oooooooo", "22222221", "55555aaa"},
		{"work ends at one", s, "wwwww-w", "---c---", "rrrrr-r", "ooooooo", "2222122", "55555aa"},
		{"at the end of one and the beginning of the next", s, "---wwww-", "---cccc-", "---rrrr-", "oooooooo", "22221210", "55555aaa"},
		{"no work at all", s, "------------", "------------", "------------", "oooooooooooo", "222222222222", "55555aaaaaff"},
	})
}

func TestScenesAtTheEdges(t *testing.T) {
	for kind := 1; kind <= 3; kind++ {
		scenesArePlayed(t, []scene{
			{"Q of 1", server(kind, 1, 3), "wwwwwww", "c--c--c", "r--r--r", "ooooooo", "1001001", "3336669"},
			{"Q that is T", server(kind, 3, 3), "wwwww", "ccccc", "rrrrr", "ooooo", "32132", "33366"},
			{"T of 1", server(kind, 1, 1), "www", "ccc", "rrr", "ooo", "111", "123"},
			{"T of 1, not charged", server(kind, 1, 1), "www", "---", "rrr", "ooo", "111", "123"},
		})
	}
	for kind := 1; kind <= 2; kind++ {
		scenesArePlayed(t, []scene{
			{"Q of 1, with a gap", server(kind, 1, 3), "w-www", "----c", "r--rr", "o--oo", "10011", "33366"},
			{"Q that is T, with a gap", server(kind, 3, 3), "w-www", "c----", "r--rr", "o--oo", "30033", "33366"},
			{"T of 1, with a gap", server(kind, 1, 1), "w-ww", "c-cc", "r-rr", "o-oo", "1011", "1134"},
		})
	}
	scenesArePlayed(t, []scene{
		{"Q of 1, with a gap", server(3, 1, 3), "w-www", "--c--", "r-rrr", "ooooo", "11111", "33366"},
		{"Q that is T, with a gap", server(3, 3, 3), "w-www", "c----", "r-rrr", "ooooo", "32233", "33366"},
		{"T of 1, with a gap", server(3, 1, 1), "w-ww", "c-cc", "r-rr", "oooo", "1111", "1234"},
	})
}

// P14.1: Charge.

func TestChargeAheadOfAnyTick(t *testing.T) {
	for _, s := range smallServers(4) {
		for _, at := range times() {
			p := newPair(t, s, at)
			refused(t, p)
			p.begin(true)
			p.charge()
		}
	}
}

// refused is a charge that must be refused, twice; all that is told stays, and the book isn't told of it.
func refused(t *testing.T, p *pair) {
	t.Helper()
	for range 2 {
		if err := p.s.Charge(); err != api.ErrState {
			t.Fatalf("%v: Charge in the tick ahead of %d: %v; want %v", p.book.server, p.now, err, api.ErrState)
		}
		p.same("a refused Charge")
	}
}

func TestChargeWithoutWork(t *testing.T) {
	for _, s := range smallServers(4) {
		p := newPair(t, s, 3)
		for i := range 4 * s.T {
			p.begin(false)
			refused(t, p)
			if i%3 == 2 {
				p.begin(true)
			}
		}
	}
	p := newPair(t, server(api.KindDeferrable, 2, 5), 0)
	p.begin(false)
	refused(t, p)
	if p.s.Budget() != 2 {
		t.Errorf("a deferrable server's budget without work: %d", p.s.Budget())
	}
}

func TestBehindTheLastOfTheBudget(t *testing.T) {
	for _, s := range smallServers(6) {
		p := newPair(t, s, 2)
		for left := s.Q; left > 0; left-- {
			if !p.begin(true) || !p.s.Ready() || p.s.Budget() != left {
				t.Fatalf("%v: not ready with a budget of %d", s, left)
			}
			p.charge()
		}
		if p.s.Ready() || !p.s.On() || p.s.Budget() != 0 || p.s.Deadline() != 2+s.T {
			t.Fatalf("%v behind its last charge: %+v", s, faceOf(p.s))
		}
		refused(t, p)
		for p.now < 2+s.T {
			if p.begin(true) {
				t.Fatalf("%v is ready with nothing left", s)
			}
			refused(t, p)
		}
		if !p.begin(true) || p.s.Budget() != s.Q {
			t.Fatalf("%v at its deadline: %+v", s, faceOf(p.s))
		}
	}
}

// Rule 1: ticks that don't rise one by one are promised nothing, but every call ends.
func TestTicksInDisorderEnd(t *testing.T) {
	ends := append(wrongTimes(), 5, 5, 0, most, 3, 1000)
	for _, s := range append(smallServers(3), server(1, 256, 256), server(2, 256, 256), server(3, 256, 256)) {
		for _, at := range []int{0, 7, most} {
			got := made(t, s, at)
			for i, now := range append(ends, math.MinInt, math.MaxInt, math.MinInt) {
				got.Begin(now, i%3 != 0)
				if ready := got.Ready(); ready != (got.Charge() == nil) {
					t.Fatalf("%v: Charge is otherwise than Ready", s)
				}
			}
			if got.Kind() != s {
				t.Fatalf("%v became %v", s, got.Kind())
			}
		}
	}
}
