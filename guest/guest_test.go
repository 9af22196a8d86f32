package guest

import (
	"math"
	"slices"
	"testing"

	"almoner/api"
)

// P15.1: New.

func TestNewOfLegalGuests(t *testing.T) {
	eight := slices.Repeat([]api.Task{aTask(1, 8, 8, 0)}, 8)
	for _, policy := range policies() {
		for _, tasks := range [][]api.Task{
			{aTask(1, 1, 1, 0)}, {aTask(1, 1, 1, 1)}, {aTask(256, 256, 256, 256)}, {aTask(256, 256, 256, 0)}, {aTask(1, 256, 1, 0)},
			{aTask(2, 10, 10, 0), aTask(3, 20, 5, 3)}, eight,
		} {
			g := made(t, policy, tasks...)
			job, there := g.Next()
			if g.Work() || there || job != (api.Job{}) || len(g.Jobs()) != 0 || g.Late(math.MaxInt) != 0 {
				t.Errorf("New of %d, %v has a job", policy, tasks)
			}
		}
	}
}

func newIsRefused(t *testing.T, policy int, tasks []api.Task) {
	t.Helper()
	if g, err := New(policy, tasks); g != nil || err != api.ErrTask {
		t.Errorf("New of %d, %v: %v, %v; want nil, %v", policy, tasks, g, err, api.ErrTask)
	}
}

func TestNewRefusesPolicies(t *testing.T) {
	for _, policy := range []int{math.MinInt, -2, -1, 0, 3, 4, 256, math.MaxInt} {
		newIsRefused(t, policy, []api.Task{aTask(1, 10, 10, 0)})
		newIsRefused(t, policy, nil)
		newIsRefused(t, policy, []api.Task{aTask(0, 10, 10, 0)})
	}
}

func TestNewRefusesTasks(t *testing.T) {
	right := aTask(2, 10, 9, 1)
	for _, policy := range policies() {
		newIsRefused(t, policy, nil)
		newIsRefused(t, policy, []api.Task{})
		newIsRefused(t, policy, slices.Repeat([]api.Task{right}, 9))
		for _, wrong := range wrongTasks() {
			newIsRefused(t, policy, []api.Task{wrong})
			newIsRefused(t, policy, []api.Task{wrong, right})
			newIsRefused(t, policy, append(slices.Repeat([]api.Task{right}, 7), wrong))
		}
	}
}

// wrongTasks aren't legal, most of them by one number.
func wrongTasks() []api.Task {
	list := []api.Task{{}, aTask(257, 257, 257, 0), aTask(1, 257, 257, 0), aTask(-1, -1, -1, -1)}
	for _, n := range []int{math.MinInt, -1, 0, 10, math.MaxInt} {
		list = append(list, aTask(n, 10, 9, 0))
	}
	for _, n := range []int{math.MinInt, -1, 0, 8, 257, math.MaxInt} {
		list = append(list, aTask(2, n, 9, 0))
	}
	for _, n := range []int{math.MinInt, -1, 0, 1, 11, math.MaxInt} {
		list = append(list, aTask(2, 10, n, 0))
	}
	for _, n := range []int{math.MinInt, -1, 3, math.MaxInt} {
		list = append(list, aTask(2, 10, 9, n))
	}
	return list
}

// What lies behind the list's length is not read: a wrong task there, and one more that is right.
func TestNewReadsNoFurther(t *testing.T) {
	all := []api.Task{aTask(1, 10, 10, 0), aTask(0, 0, 0, 0), aTask(1, 10, 10, 0)}
	p := newPair(t, 1, all[:1]...)
	p.is(api.ErrNumber, 1, 0, 1)
	g, err := New(1, all[:1])
	if err != nil {
		t.Fatal(err)
	}
	if g.Release(1, 0, 1) != api.ErrNumber || g.Release(0, 0, 1) != nil {
		t.Error("a list's spare room was read")
	}
}

// P15.1: the examples.

func TestExamples(t *testing.T) {
	first, second := aTask(2, 10, 10, 0), aTask(3, 20, 5, 3)
	both := newPair(t, api.PolicyDeadline, first, second)
	both.is(nil, 0, 0, 2)
	both.is(nil, 1, 0, 3)
	nextIs(t, both.g, api.Job{Task: 1, Release: 0, Deadline: 5, Left: 3})

	later := newPair(t, api.PolicyDeadline, first, second)
	later.is(nil, 0, 0, 2)
	later.runs("a")
	later.is(nil, 1, 1, 3)
	nextIs(t, later.g, api.Job{Task: 1, Release: 1, Deadline: 6, Left: 3})

	first.S = 2
	held := newPair(t, api.PolicyDeadline, first, second)
	held.is(nil, 0, 0, 2)
	held.runs("a")
	held.is(nil, 1, 1, 3)
	nextIs(t, held.g, api.Job{Task: 0, Release: 0, Deadline: 10, Left: 1, Done: 1})
	held.runs("AbbB-")
}

func nextIs(t *testing.T, g *Guest, want api.Job) {
	t.Helper()
	if got, there := g.Next(); got != want || !there {
		t.Errorf("Next: %+v, %v; want %+v", got, there, want)
	}
}

// The document's fifth example: 9 ticks of a task with C 2 run 2; a second release 5 ticks behind the first, P being 60.
func TestTheFifthExample(t *testing.T) {
	p := newPair(t, api.PolicyDeadline, aTask(2, 60, 60, 0))
	p.is(nil, 0, 7, 9)
	p.is(api.ErrBusy, 0, 12, 9)
	p.runs("aA-")
	p.is(api.ErrBusy, 0, 12, 9)
}

// P15.1: Release.

func TestReleaseTellsAJob(t *testing.T) {
	for _, policy := range policies() {
		for _, now := range []int{0, 1, 77, 1 << 31, most - 1, most} {
			g := made(t, policy, aTask(1, 9, 9, 0), aTask(3, 20, 7, 2))
			if err := g.Release(1, now, 2); err != nil {
				t.Fatalf("Release at %d: %v", now, err)
			}
			want := api.Job{Task: 1, Release: now, Deadline: now + 7, Left: 2, Done: 0}
			nextIs(t, g, want)
			if got := g.Jobs(); len(got) != 1 || got[0] != want || !g.Work() {
				t.Errorf("Jobs: %+v", got)
			}
		}
	}
}

func TestReleaseCutsTicks(t *testing.T) {
	for _, c := range []int{1, 2, 3, 7, 256} {
		for _, ticks := range someTicks(c) {
			p := newPair(t, 1, aTask(c, 256, 256, 0))
			p.is(nil, 0, 0, ticks)
			want := ticks
			if ticks < 1 {
				want = 1
			}
			if ticks > c {
				want = c
			}
			if job, _ := p.g.Next(); job.Left != want || job.Done != 0 {
				t.Errorf("C %d, ticks %d: %+v; want %d left", c, ticks, job, want)
			}
		}
	}
}

func TestReleaseRefusesNumbers(t *testing.T) {
	p := newPair(t, 1, aTask(1, 10, 10, 0), aTask(2, 20, 20, 0))
	refuses := func() {
		t.Helper()
		for _, place := range wrongPlaces(2) {
			for _, now := range append(wrongTimes(), 0, 5, most) {
				p.is(api.ErrNumber, place, now, 1)
			}
		}
		for _, now := range wrongTimes() { // of a task that is busy, too
			p.is(api.ErrNumber, 0, now, 1)
			p.is(api.ErrNumber, 1, now, math.MinInt)
		}
	}
	refuses()
	p.is(nil, 0, 4, 1)
	refuses()
	p.is(api.ErrBusy, 0, 13, 1)
	p.is(nil, 1, 0, 2)
	p.runs("AbB-")
	refuses()
	p.is(nil, 0, 14, 1)
}

func TestReleaseRefusesBusyTasks(t *testing.T) {
	for _, policy := range policies() {
		for _, period := range []int{1, 2, 10, 256} {
			for _, at := range []int{0, 1, 300, most - 256, most - 1, most} {
				p := newPair(t, policy, aTask(1, period, 1, 0), aTask(1, period, period, 0))
				p.is(nil, 0, at, 1)
				for _, now := range []int{0, at - period, at - 1, at, at + 1, at + period - 1} {
					if now < 0 || now > most || now >= at+period {
						continue
					}
					p.is(api.ErrBusy, 0, now, 1)
				}
				p.is(nil, 1, max(at-1, 0), 1) // the other task is free
				if at+period <= most {
					p.is(nil, 0, at+period, 1)
					p.is(api.ErrBusy, 0, at, 1)
				}
			}
		}
	}
}

// A refused release doesn't count as one; an ended job does.
func TestBusyIsCountedFromReleasesAlone(t *testing.T) {
	p := newPair(t, 1, aTask(1, 10, 10, 0), aTask(1, 1, 1, 0))
	p.is(nil, 0, 5, 1)
	p.is(api.ErrBusy, 0, 14, 1)
	p.runs("A-")
	p.is(api.ErrBusy, 0, 14, 1)
	p.is(api.ErrBusy, 0, 0, 1)
	p.is(nil, 0, 15, 1)
	p.is(api.ErrBusy, 0, 24, 1)
	p.is(nil, 0, 25, 1)
}

// A first release at any time; another task's may come at an earlier time than those that were.
func TestReleasesBelowEarlierOnes(t *testing.T) {
	p := newPair(t, 1, aTask(1, 10, 10, 0), aTask(1, 10, 10, 0), aTask(1, 10, 10, 0))
	p.is(nil, 1, most, 1)
	p.is(nil, 0, 500, 1)
	p.is(nil, 2, 0, 1)
	p.is(api.ErrBusy, 1, most, 1)
	p.is(api.ErrBusy, 1, 0, 1)
	p.is(api.ErrBusy, 0, 0, 1)
	p.is(nil, 2, 10, 1)
	p.runs("CCAB-")
}

func TestReleaseRefusesTheJobTooMany(t *testing.T) {
	for _, policy := range policies() {
		p := newPair(t, policy, aTask(1, 4, 4, 0), aTask(1, 1, 1, 0), aTask(2, 256, 200, 2))
		for i := range room - 1 {
			p.is(nil, 1, 100+i, 1)
		}
		p.is(nil, 2, 1000, 2) // one fewer waited
		for range 2 {
			p.is(api.ErrFull, 0, 0, 1)
			p.is(api.ErrFull, 0, most, 1)
			p.is(api.ErrFull, 1, 100+room-1, 1)
		}
		p.is(api.ErrBusy, 1, 100+room-2, 1) // busy is told ahead of full
		p.is(api.ErrBusy, 2, 1255, 1)
		p.is(api.ErrFull, 2, 1256, 1)
		p.is(api.ErrNumber, 3, 0, 1)
		p.is(api.ErrNumber, 0, -1, 1)
		p.is(api.ErrNumber, 1, most+1, 1)
		p.runs("B")
		p.is(nil, 0, 0, 1) // the refused ones weren't releases
		p.is(api.ErrFull, 1, 100+room-1, 1)
		p.is(api.ErrBusy, 0, 3, 1)
		p.runs("A")
		p.is(nil, 1, 100+room-1, 1)
		p.is(api.ErrFull, 1, most, 1)
	}
}

// A job that has run, but not ended, waits.
func TestARunThatEndsNothingMakesNoRoom(t *testing.T) {
	p := newPair(t, 2, aTask(2, 2, 2, 0))
	for i := range room {
		p.is(nil, 0, 2*i, 2)
	}
	p.runs("a")
	p.is(api.ErrFull, 0, 2*room, 2)
	p.runs("A")
	p.is(nil, 0, 2*room, 2)
	p.is(api.ErrFull, 0, 2*room+2, 2)
}

// P15.1: Run and Next with no job.

func TestNoJob(t *testing.T) {
	for _, policy := range policies() {
		p := newPair(t, policy, aTask(2, 10, 10, 1))
		for i := range 3 {
			for range 3 {
				if job, ended, err := p.run(); job != (api.Job{}) || ended || err != api.ErrState {
					t.Errorf("Run: %+v, %v, %v", job, ended, err)
				}
				if job, there := p.g.Next(); job != (api.Job{}) || there {
					t.Errorf("Next: %+v, %v", job, there)
				}
			}
			p.is(nil, 0, 10*i, 2)
			p.runs("aA")
		}
	}
}

// Next alone changes nothing, however often it is asked.
func TestNextChangesNothing(t *testing.T) {
	p := newPair(t, 1, aTask(2, 10, 10, 0), aTask(2, 10, 5, 0))
	p.is(nil, 0, 0, 2)
	p.is(nil, 1, 0, 2)
	for range 5 {
		nextIs(t, p.g, api.Job{Task: 1, Deadline: 5, Left: 2})
	}
	p.runs("bBaA-")
}

// P15.1: Late.

func TestLate(t *testing.T) {
	for _, policy := range policies() {
		p := newPair(t, policy, aTask(1, 10, 10, 0), aTask(2, 10, 5, 0), aTask(1, 10, 10, 0))
		p.is(nil, 0, 0, 1)  // 10
		p.is(nil, 1, 15, 2) // 20
		p.is(nil, 2, 10, 1) // 20
		for now, want := range map[int]int{math.MinInt: 0, -1: 0, 0: 0, 9: 0, 10: 1, 11: 1, 19: 1, 20: 3, 21: 3, most: 3, math.MaxInt: 3} {
			if got := p.g.Late(now); got != want {
				t.Errorf("Late(%d): %d; want %d", now, got, want)
			}
		}
		p.runs("A")
		if p.g.Late(19) != 0 || p.g.Late(20) != 2 {
			t.Error("a job that has ended is late")
		}
	}
}

func TestLateAtTheLastTimes(t *testing.T) {
	g := made(t, 1, aTask(1, 256, 256, 0))
	if err := g.Release(0, most, 1); err != nil {
		t.Fatal(err)
	}
	if g.Late(most) != 0 || g.Late(most+255) != 0 || g.Late(most+256) != 1 || g.Late(math.MaxInt) != 1 || g.Late(math.MinInt) != 0 {
		t.Error("a deadline behind MaxTime")
	}
}

// Rule 4: what is handed in isn't kept, and what is handed out is new.

func TestTheListOfTasksIsNotKept(t *testing.T) {
	for _, policy := range policies() {
		tasks := []api.Task{aTask(3, 10, 5, 2), aTask(2, 10, 9, 0)}
		before := slices.Clone(tasks)
		g, err := New(policy, tasks)
		if err != nil || !slices.Equal(tasks, before) {
			t.Fatal(err, tasks)
		}
		p := &pair{t: t, g: g, book: newBook(policy, before)}
		tasks[0], tasks[1] = aTask(1, 1, 1, 1), aTask(256, 256, 256, 256)
		p.is(nil, 0, 0, 9)
		tasks[0] = api.Task{}
		p.is(api.ErrBusy, 0, 9, 9)
		p.is(nil, 1, 0, 9)
		p.runs("aaAbB-")
		if tasks[0] != (api.Task{}) {
			t.Error("the list was written over")
		}
	}
}

func TestJobsIsNewMemory(t *testing.T) {
	p := newPair(t, 1, aTask(2, 2, 2, 1), aTask(3, 10, 9, 0))
	p.is(nil, 0, 0, 2)
	p.is(nil, 1, 0, 3)
	list, again := p.g.Jobs(), p.g.Jobs()
	kept := slices.Clone(again)
	for i := range list {
		list[i] = api.Job{Task: -1, Release: 99, Deadline: -99, Left: 77, Done: 1}
	}
	_ = append(list[:0], api.Job{}, api.Job{}, api.Job{}, api.Job{})
	p.same("writing over what Jobs gave")
	if !slices.Equal(again, kept) {
		t.Error("two answers share memory")
	}
	p.is(nil, 0, 2, 2) // into what may be spare room
	_ = append(again, api.Job{Task: 5})
	p.same("writing behind what Jobs gave")
	p.runs("aAaAbbB-")
	if !slices.Equal(again, kept) {
		t.Error("what Jobs gave has changed")
	}
}
