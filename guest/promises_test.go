package guest

import (
	"math/rand"
	"testing"

	"almoner/api"
)

// P15.2 and P15.3, seen from the calls alone.

// name names a job: no task has two releases at one tick.
type name struct{ task, release int }

// watch is what was seen of a guest.
type watch struct {
	t       *testing.T
	g       *Guest
	policy  int
	tasks   []api.Task
	ticks   map[name]int   // what each released job was told to run, cut
	ran     map[name]int   // how many ticks each has run
	ended   map[name]int   // by job: 1, if it has ended
	open    map[int][]name // by task: those released that haven't ended, in the order of their release
	holder  name           // the job that must run on
	holds   int            // for how many ticks it must
	crossed int            // how often another job was released while one had to run on
}

func newWatch(t *testing.T, policy int, tasks ...api.Task) *watch {
	t.Helper()
	return &watch{
		t: t, g: made(t, policy, tasks...), policy: policy, tasks: tasks,
		ticks: map[name]int{}, ran: map[name]int{}, ended: map[name]int{}, open: map[int][]name{},
	}
}

func (w *watch) release(task, now, ticks int) {
	if w.g.Release(task, now, ticks) != nil {
		return
	}
	one := name{task, now}
	w.ticks[one] = max(1, min(ticks, w.tasks[task].C))
	w.open[task] = append(w.open[task], one)
	w.crossed += count(w.holds > 0)
}

func (w *watch) run() {
	w.t.Helper()
	job, ended, err := w.g.Run()
	if err != nil {
		if len(w.ended) != len(w.ticks) {
			w.fails("no job waits", job)
		}
		return
	}
	one := name{job.Task, job.Release}
	all, there := w.ticks[one]
	if !there || w.ended[one] == 1 {
		w.fails("a job that doesn't wait ran", job)
	}
	w.runsOn(one, job)
	w.ran[one]++
	if job.Done != w.ran[one] || job.Left != all-w.ran[one] || ended != (w.ran[one] == all) {
		w.fails("it ran otherwise than for its ticks", job)
	}
	if ended {
		w.ends(one, job)
	}
}

// runsOn holds a tick against P15.3.
func (w *watch) runsOn(one name, job api.Job) {
	w.t.Helper()
	if w.holds > 0 {
		if one != w.holder {
			w.fails("another one had to run on", job)
		}
		w.holds--
	} else if w.ran[one] == 0 {
		w.holder, w.holds = one, min(w.tasks[one.task].S, w.ticks[one])-1
	}
}

// ends holds the end of a job against P15.2.
func (w *watch) ends(one name, job api.Job) {
	w.t.Helper()
	if w.open[one.task][0] != one {
		w.fails("it ended ahead of one released earlier", job)
	}
	w.open[one.task] = w.open[one.task][1:]
	w.ended[one] = 1
}

func (w *watch) fails(what string, job api.Job) {
	w.t.Helper()
	w.t.Fatalf("policy %d, tasks %v: %s: %+v; waiting %v, to run on %v for %d", w.policy, w.tasks, what, job, w.open, w.holder, w.holds)
}

// over runs all jobs to their ends.
func (w *watch) over() {
	w.t.Helper()
	for range 64 * 256 {
		if !w.g.Work() {
			break
		}
		w.run()
	}
	if w.g.Work() || len(w.ended) != len(w.ticks) {
		w.fails("jobs are left", api.Job{})
	}
}

// P15.2 and P15.3, every short row: a tick of the guest behind each release or none.
func TestPromisesOfEveryShortRow(t *testing.T) {
	const length = 6
	for _, policy := range policies() {
		for _, tasks := range shortGuests() {
			for row := range 1 << (2 * length) {
				w := newWatch(t, policy, tasks...)
				for now := range length {
					if row&1 == 1 {
						w.release(0, now, 2)
					}
					if row&2 == 2 {
						w.release(1, now, 3)
					} else {
						w.run()
					}
					row >>= 2
				}
				w.over()
			}
		}
	}
}

// P15.2 and P15.3, many long rows.
func TestPromisesOfManyRows(t *testing.T) {
	random := rand.New(rand.NewSource(152))
	crossed := 0
	for range 2000 {
		tasks := anyTasks(random, pick(random, 2, 5, 12, 40, 256))
		w := newWatch(t, pick(random, policies()...), tasks...)
		now, chance := pick(random, 0, random.Intn(most-100000)), random.Float64()
		for range 300 {
			task := random.Intn(len(tasks))
			w.release(task, now+pick(random, 0, 0, tasks[task].P), pick(random, someTicks(tasks[task].C)...))
			if random.Float64() < chance {
				w.run()
				now++
			}
			now += pick(random, 0, 0, 0, 1, random.Intn(20))
		}
		w.over()
		crossed += w.crossed
	}
	if crossed < 1000 {
		t.Errorf("the rows are of little use: %d releases while a job had to run on", crossed)
	}
}

// P15.3 at S of 0, 1, between and C, of jobs of each length, with a release of a task that would run ahead in each of its ticks.
func TestAJobRunsOn(t *testing.T) {
	for _, policy := range policies() {
		for s := range 6 {
			for ticks := 1; ticks <= 6; ticks++ {
				w := newWatch(t, policy, aTask(1, 1, 1, 0), aTask(5, 200, 200, s))
				w.release(1, 0, ticks)
				for now := range 12 {
					w.run()
					w.release(0, now, 1)
				}
				w.over()
				if want := min(max(s, 1), ticks, 5) - 1; w.crossed != want {
					t.Errorf("policy %d, S %d, %d ticks: %d releases came while it ran on; want %d", policy, s, ticks, w.crossed, want)
				}
			}
		}
	}
}
