package guest

import (
	"testing"

	"almoner/api"
)

// P15.1: the next job, in scenes with the ticks of each job written out.

func TestTheLeastDeadlineRuns(t *testing.T) {
	p := newPair(t, api.PolicyDeadline, aTask(3, 20, 20, 0), aTask(2, 20, 9, 0), aTask(2, 20, 5, 0))
	p.is(nil, 0, 0, 3) // 20
	p.runs("a")
	p.is(nil, 1, 1, 2) // 10
	p.runs("b")
	p.is(nil, 2, 2, 2) // 7
	p.runs("cCBaA-")
	p.is(nil, 2, 36, 2) // 41
	p.is(nil, 1, 33, 2) // 42
	p.is(nil, 0, 20, 3) // 40: an earlier release, told last
	p.runs("aaAcCbB-")
}

func TestTheLeastTaskRuns(t *testing.T) {
	p := newPair(t, api.PolicyOrder, aTask(1, 20, 20, 0), aTask(2, 20, 9, 0), aTask(2, 20, 5, 0))
	p.is(nil, 2, 0, 2) // 5
	p.runs("c")
	p.is(nil, 1, 1, 2) // 10
	p.runs("b")
	p.is(nil, 0, 2, 1) // 22
	p.runs("ABC-")
}

// Of jobs with one deadline that of the least task runs, in whichever order they were released.
func TestOneDeadlineOfTwoTasks(t *testing.T) {
	tasks := []api.Task{aTask(2, 20, 10, 0), aTask(2, 20, 7, 0), aTask(2, 20, 10, 0)}
	for _, order := range [][]int{{0, 1, 2}, {0, 2, 1}, {1, 0, 2}, {1, 2, 0}, {2, 0, 1}, {2, 1, 0}} {
		p := newPair(t, api.PolicyDeadline, tasks...)
		for _, task := range order {
			p.is(nil, task, 30-tasks[task].D, 2) // 30
		}
		p.runs("aAbBcC-")
	}
}

// A job of an earlier task that comes with the same deadline runs ahead of one that has run, but doesn't hold on.
func TestOneDeadlineOfAJobThatHasRun(t *testing.T) {
	p := newPair(t, api.PolicyDeadline, aTask(2, 20, 6, 0), aTask(3, 20, 10, 1))
	p.is(nil, 1, 0, 3)
	p.runs("b")
	p.is(nil, 0, 4, 2)
	p.runs("aAbB-")
}

// Of jobs of one task the one released first runs: under PolicyOrder by the chapter's word, under PolicyDeadline as its deadline is the least.
func TestJobsOfOneTask(t *testing.T) {
	for _, policy := range policies() {
		p := newPair(t, policy, aTask(3, 3, 3, 1))
		p.is(nil, 0, 0, 1)
		p.is(nil, 0, 3, 3)
		p.is(nil, 0, 6, 2)
		for i, want := range []api.Job{
			{Release: 0, Deadline: 3, Left: 0, Done: 1},
			{Release: 3, Deadline: 6, Left: 2, Done: 1}, {Release: 3, Deadline: 6, Left: 1, Done: 2}, {Release: 3, Deadline: 6, Left: 0, Done: 3},
			{Release: 6, Deadline: 9, Left: 1, Done: 1}, {Release: 6, Deadline: 9, Left: 0, Done: 2},
		} {
			if got, ended, err := p.run(); got != want || ended != (want.Left == 0) || err != nil {
				t.Errorf("policy %d: the tick %d: %+v, %v, %v; want %+v", policy, i, got, ended, err, want)
			}
		}
		p.runs("-")
	}
}

// Under PolicyOrder jobs of a later task wait behind all of an earlier one, whatever their deadlines, and go on where they were.
func TestSeveralJobsByOrder(t *testing.T) {
	p := newPair(t, api.PolicyOrder, aTask(2, 4, 4, 0), aTask(3, 4, 3, 2))
	p.is(nil, 1, 0, 3)
	p.runs("b")
	p.is(nil, 0, 1, 2)
	p.is(nil, 1, 4, 3)
	p.is(nil, 0, 5, 2)
	p.runs("b")      // it holds on for its second tick
	p.runs("aAaA")   // both of the earlier task
	p.runs("BbbB--") // the last tick of the first one
}

// S of 0 and 1 hold on to nothing: the first tick is run when it may be given up.
func TestShortHolds(t *testing.T) {
	for s := range 2 {
		for _, policy := range policies() {
			p := newPair(t, policy, aTask(1, 20, 2, 0), aTask(3, 20, 20, s))
			p.is(nil, 1, 0, 3)
			p.runs("b")
			p.is(nil, 0, 1, 1)
			p.runs("AbB-")
		}
	}
}

// A job of 4 ticks holds on till it has run S of them, while jobs come that would run ahead of it.
func TestHolds(t *testing.T) {
	for s, want := range []string{"AbbB-", "AbbB-", "bAbB-", "bbAB-", "bbBA-"} {
		for _, policy := range policies() {
			p := newPair(t, policy, aTask(1, 20, 2, 0), aTask(4, 20, 20, s))
			p.is(nil, 1, 0, 4)
			p.runs("b")
			p.is(nil, 0, 1, 1)
			p.runs(want)
		}
	}
}

// A job that has fewer ticks than S holds on till it has ended, and no longer.
func TestHoldsOfShortJobs(t *testing.T) {
	for _, policy := range policies() {
		p := newPair(t, policy, aTask(1, 3, 2, 0), aTask(4, 20, 20, 4))
		p.is(nil, 1, 0, 2)
		p.runs("b")
		p.is(nil, 0, 1, 1)
		p.runs("BA-")
		p.is(nil, 1, 20, 1)
		p.is(nil, 0, 20, 1)
		p.runs("AB-")
	}
}

// Nothing holds on ahead of its first tick.
func TestNoHoldAheadOfTheFirstTick(t *testing.T) {
	for _, policy := range policies() {
		p := newPair(t, policy, aTask(2, 20, 2, 2), aTask(4, 20, 20, 4))
		p.is(nil, 1, 0, 4)
		p.is(nil, 0, 0, 2)
		p.runs("aAbbbB-")
	}
}

// A job holds on ahead of another one of its own task, that waits; and one released behind it holds on in turn.
func TestHoldsOfOneTask(t *testing.T) {
	for _, policy := range policies() {
		p := newPair(t, policy, aTask(1, 4, 2, 0), aTask(3, 4, 4, 2))
		p.is(nil, 1, 0, 3)
		p.is(nil, 1, 4, 3)
		p.runs("bbBb")
		p.is(nil, 0, 4, 1)
		p.runs("bAB-")
	}
}

// The jobs that wait are told in the order of their release, whichever of them runs and ends.
func TestJobsStandInTheOrderOfTheirRelease(t *testing.T) {
	p := newPair(t, api.PolicyDeadline, aTask(1, 9, 9, 0), aTask(2, 9, 5, 0), aTask(1, 9, 2, 0), aTask(1, 9, 7, 0))
	for task := range 4 {
		p.is(nil, task, 10, 9)
	}
	stand := func(want ...api.Job) {
		t.Helper()
		got := p.g.Jobs()
		if len(got) != len(want) {
			t.Fatalf("Jobs: %+v; want %+v", got, want)
		}
		for i := range want {
			if got[i] != want[i] {
				t.Fatalf("Jobs: %+v; want %+v", got, want)
			}
		}
	}
	a := api.Job{Task: 0, Release: 10, Deadline: 19, Left: 1}
	b := api.Job{Task: 1, Release: 10, Deadline: 15, Left: 2}
	c := api.Job{Task: 2, Release: 10, Deadline: 12, Left: 1}
	d := api.Job{Task: 3, Release: 10, Deadline: 17, Left: 1}
	stand(a, b, c, d)
	p.runs("C")
	stand(a, b, d)
	p.runs("b")
	b.Left, b.Done = 1, 1
	stand(a, b, d)
	p.runs("B")
	stand(a, d)
	c.Release, c.Deadline = 19, 21
	p.is(nil, 2, 19, 1)
	stand(a, d, c)
	p.runs("D")
	stand(a, c)
	p.runs("A")
	stand(c)
	p.runs("C")
	stand()
	p.runs("-")
}
