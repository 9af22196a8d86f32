package guest

import (
	"math"
	"math/rand"
	"slices"
	"testing"

	"almoner/api"
)

// The words of the chapter, kept by the test itself, with their numbers written out.

// most is MaxTime, and room is MaxJobs.
const (
	most = 1099511627776
	room = 64
)

// book is a guest as the chapter's words tell it. What waits is kept by lists of its own: a job's ticks are counted up, never down.
type book struct {
	policy int
	tasks  []api.Task
	last   map[int]int // by task: the tick of its last release, if there was one
	waits  []entry     // in the order of their release
}

// entry is a job of the book: its task, its release, the ticks that it runs in all, and those that it has run.
type entry struct {
	task, release int
	all, done     int
}

func newBook(policy int, tasks []api.Task) *book {
	return &book{policy: policy, tasks: slices.Clone(tasks), last: map[int]int{}}
}

func (b *book) deadline(e entry) int { return e.release + b.tasks[e.task].D }

func (b *book) job(e entry) api.Job {
	return api.Job{Task: e.task, Release: e.release, Deadline: b.deadline(e), Left: e.all - e.done, Done: e.done}
}

func (b *book) holdsOn(e entry) bool { return 0 < e.done && e.done < b.tasks[e.task].S }

func (b *book) release(task, now, ticks int) error {
	if task < 0 || task > len(b.tasks)-1 || now < 0 || now > most {
		return api.ErrNumber
	}
	last, there := b.last[task]
	if there && now < last+b.tasks[task].P {
		return api.ErrBusy
	}
	if len(b.waits) == room {
		return api.ErrFull
	}
	if ticks > b.tasks[task].C {
		ticks = b.tasks[task].C
	} else if ticks < 1 {
		ticks = 1
	}
	b.waits = append(b.waits, entry{task: task, release: now, all: ticks})
	b.last[task] = now
	return nil
}

// next is the place of the next job: those that are not as good as another one are taken out, word by word, till one is left.
func (b *book) next() (int, bool) {
	var list []int
	for i, e := range b.waits {
		if b.holdsOn(e) {
			return i, true
		}
		list = append(list, i)
	}
	if len(list) == 0 {
		return 0, false
	}
	if b.policy == 1 {
		list = leastBy(list, func(i int) int { return b.deadline(b.waits[i]) })
	}
	list = leastBy(list, func(i int) int { return b.waits[i].task })
	return list[0], true
}

// leastBy is those of the list that come to the least number, in its order.
func leastBy(list []int, number func(int) int) []int {
	least := math.MaxInt
	for _, i := range list {
		least = min(least, number(i))
	}
	return slices.DeleteFunc(slices.Clone(list), func(i int) bool { return number(i) != least })
}

func (b *book) run() (api.Job, bool, error) {
	place, there := b.next()
	if !there {
		return api.Job{}, false, api.ErrState
	}
	b.waits[place].done++
	e := b.waits[place]
	if e.done < e.all {
		return b.job(e), false, nil
	}
	b.waits = append(slices.Clone(b.waits[:place]), b.waits[place+1:]...)
	return b.job(e), true, nil
}

func (b *book) jobs() []api.Job {
	var list []api.Job
	for _, e := range b.waits {
		list = append(list, b.job(e))
	}
	return list
}

func (b *book) late(now int) int {
	count := 0
	for _, e := range b.waits {
		if b.deadline(e) < now || b.deadline(e) == now {
			count++
		}
	}
	return count
}

// pair is a guest and the book that is kept beside it.
type pair struct {
	t    *testing.T
	g    *Guest
	book *book
}

func made(t *testing.T, policy int, tasks ...api.Task) *Guest {
	t.Helper()
	g, err := New(policy, tasks)
	if err != nil || g == nil {
		t.Fatalf("New of %d, %v: %v, %v", policy, tasks, g, err)
	}
	return g
}

func newPair(t *testing.T, policy int, tasks ...api.Task) *pair {
	t.Helper()
	p := &pair{t: t, g: made(t, policy, tasks...), book: newBook(policy, tasks)}
	p.same("New")
	return p
}

// same holds all that the guest tells against the book.
func (p *pair) same(behind string) {
	want := p.book.jobs()
	if got := p.g.Jobs(); !slices.Equal(got, want) {
		p.t.Helper()
		p.fails(behind, "Jobs", got, want)
	}
	if got := p.g.Work(); got != (len(want) > 0) {
		p.t.Helper()
		p.fails(behind, "Work", got, !got)
	}
	p.sameNext(behind, want)
	// One deadline more, each of those that there are, and what lies beside them.
	for _, now := range p.deadlines(want) {
		if got, want := p.g.Late(now), p.book.late(now); got != want {
			p.t.Helper()
			p.fails(behind, "Late", []int{now, got}, want)
		}
	}
}

func (p *pair) sameNext(behind string, jobs []api.Job) {
	got, there := p.g.Next()
	place, want := p.book.next()
	var job api.Job
	if want {
		job = jobs[place]
	}
	if got != job || there != want {
		p.t.Helper()
		p.fails(behind, "Next", got, job)
	}
}

// deadlines are the ticks about the first, the last and one more of the deadlines.
func (p *pair) deadlines(jobs []api.Job) []int {
	list := []int{0, most}
	if n := len(jobs); n > 0 {
		for _, i := range []int{0, n / 2, n - 1} {
			list = append(list, jobs[i].Deadline-1, jobs[i].Deadline, jobs[i].Deadline+1)
		}
	}
	return list
}

func (p *pair) fails(behind, what string, got, want any) {
	p.t.Helper()
	p.t.Fatalf("policy %d, tasks %v, behind %s: %s: %+v; want %+v; waiting %+v", p.book.policy, p.book.tasks, behind, what, got, want, p.book.waits)
}

func (p *pair) release(task, now, ticks int) error {
	p.t.Helper()
	got, want := p.g.Release(task, now, ticks), p.book.release(task, now, ticks)
	if got != want {
		p.fails("a release", "Release", []any{task, now, ticks, got}, want)
	}
	p.same("Release")
	return got
}

func (p *pair) run() (api.Job, bool, error) {
	p.t.Helper()
	job, ended, err := p.g.Run()
	wantJob, wantEnded, wantErr := p.book.run()
	if job != wantJob || ended != wantEnded || err != wantErr {
		p.fails("a run", "Run", []any{job, ended, err}, []any{wantJob, wantEnded, wantErr})
	}
	p.same("Run")
	return job, ended, err
}

// is asks that a release comes to an error or none.
func (p *pair) is(want error, task, now, ticks int) {
	p.t.Helper()
	if got := p.release(task, now, ticks); got != want {
		p.fails("a release", "Release", []any{task, now, ticks, got}, want)
	}
}

// runs asks of which tasks the next jobs are that run, tick by tick; a capital letter is the last tick of a job. Tasks are a, b, c.
func (p *pair) runs(want string) {
	p.t.Helper()
	var got []byte
	for range len(want) {
		job, ended, err := p.run()
		if err != nil {
			got = append(got, '-')
		} else if ended {
			got = append(got, 'A'+byte(job.Task))
		} else {
			got = append(got, 'a'+byte(job.Task))
		}
	}
	if string(got) != want {
		p.fails("runs", "Run", string(got), want)
	}
}

func aTask(c, p, d, s int) api.Task { return api.Task{C: c, P: p, D: d, S: s} }

func policies() []int { return []int{1, 2} }

func pick[T any](random *rand.Rand, list ...T) T { return list[random.Intn(len(list))] }

// anyTask is a legal task with a period up to a longest one, often at an edge.
func anyTask(random *rand.Rand, longest int) api.Task {
	p := pick(random, 1, longest, 1+random.Intn(longest), 1+random.Intn(longest))
	d := pick(random, 1, p, 1+random.Intn(p), 1+random.Intn(p))
	c := pick(random, 1, d, 1+random.Intn(d), 1+random.Intn(d))
	s := pick(random, 0, 1, c, max(0, c-1), random.Intn(c+1), random.Intn(c+1))
	return aTask(c, p, d, s)
}

func anyTasks(random *rand.Rand, longest int) []api.Task {
	var list []api.Task
	for range pick(random, 1, 2, 2, 3, 4, 8) {
		list = append(list, anyTask(random, longest))
	}
	return list
}

// wrongTimes aren't 0 to MaxTime.
func wrongTimes() []int {
	return []int{math.MinInt, math.MinInt + 1, -most, -256, -2, -1, most + 1, most + 2, 2 * most, math.MaxInt - 1, math.MaxInt}
}

// wrongPlaces aren't places of a list of this length.
func wrongPlaces(length int) []int {
	return []int{math.MinInt, math.MinInt + 1, -length, -2, -1, length, length + 1, length + 8, 256, math.MaxInt - 1, math.MaxInt}
}

// someTicks are those that a release may be told, about what its task may run.
func someTicks(c int) []int {
	return []int{math.MinInt, math.MinInt + 1, -c, -1, 0, 1, 2, c - 1, c, c + 1, 2 * c, math.MaxInt - 1, math.MaxInt}
}
