package host

import (
	"math"
	"slices"
	"testing"

	"almoner/api"
	"almoner/tree"
)

// The words of the chapter, kept by the test itself, and those of the chapters of servers and guests beneath.

// machine is a server as its chapter's words tell it.
type machine struct {
	server   api.Server
	told, on bool
	budget   int
	deadline int
	next     int // the next boundary
}

func (m *machine) chunkBegins(now int) {
	m.on, m.budget, m.deadline = true, m.server.Q, now+m.server.T
}

func (m *machine) off() { m.on, m.budget = false, 0 }

func (m *machine) begin(now int, work bool) {
	m.told = work
	boundary := now == m.next
	if boundary {
		m.next += m.server.T
	}
	if m.server.Kind != 3 && m.on && !work {
		m.off()
	}
	switch m.server.Kind {
	case 1:
		if boundary && work {
			m.chunkBegins(now)
		}
	case 2:
		if work && now >= m.deadline {
			m.chunkBegins(now)
		}
	case 3:
		if boundary {
			m.chunkBegins(now)
		}
	}
}

func (m *machine) ready() bool { return m.told && m.budget > 0 }

// crew is a guest as its chapter's words tell it.
type crew struct {
	policy int
	tasks  []api.Task
	last   map[int]int // by task: the tick of its last release, if there was one
	jobs   []api.Job
}

func (c *crew) release(task, now, ticks int) error {
	if task < 0 || task > len(c.tasks)-1 {
		return api.ErrNumber
	}
	if last, there := c.last[task]; there && now < last+c.tasks[task].P {
		return api.ErrBusy
	}
	if len(c.jobs) == 64 {
		return api.ErrFull
	}
	ticks = min(max(1, ticks), c.tasks[task].C)
	c.jobs = append(c.jobs, api.Job{Task: task, Release: now, Deadline: now + c.tasks[task].D, Left: ticks})
	c.last[task] = now
	return nil
}

// next is the place of the next job: of those that hold on, or else of all, the first by the policy.
func (c *crew) next() int {
	var list []int
	for i, j := range c.jobs {
		if 0 < j.Done && j.Done < c.tasks[j.Task].S {
			return i
		}
		list = append(list, i)
	}
	slices.SortStableFunc(list, func(a, b int) int {
		one, other := c.jobs[a], c.jobs[b]
		if c.policy == 1 && one.Deadline != other.Deadline {
			return one.Deadline - other.Deadline
		}
		return one.Task - other.Task
	})
	return list[0]
}

func (c *crew) run() (api.Job, bool) {
	i := c.next()
	c.jobs[i].Left--
	c.jobs[i].Done++
	job := c.jobs[i]
	if job.Left == 0 {
		c.jobs = append(slices.Clone(c.jobs[:i]), c.jobs[i+1:]...)
	}
	return job, job.Left == 0
}

// seat is a node of the book: its server, and its guest, if it is bound.
type seat struct {
	machine
	crew  *crew
	tells Mark
}

// book is a host as the chapter's words tell it.
type book struct {
	now   int
	tree  api.Tree
	seats map[int]*seat
	waits []api.Order
}

func newBook() *book { return &book{seats: map[int]*seat{}} }

func (b *book) submit(o api.Order) {
	o.Tasks = slices.Clone(o.Tasks)
	b.waits = append(b.waits, o)
}

func (b *book) crewOf(id int) *crew {
	for _, n := range b.tree.Nodes {
		if n.Id == id && n.Policy != 0 {
			return b.seats[id].crew
		}
	}
	return nil
}

func (b *book) release(id, task, ticks int) error {
	if c := b.crewOf(id); c != nil {
		return c.release(task, b.now, ticks)
	}
	return api.ErrGone
}

func (b *book) tick() Report {
	told := Report{Time: b.now}
	for len(b.waits) > 0 {
		result, done := b.order(b.waits[0])
		if !done {
			break
		}
		told.Results = append(told.Results, result)
		b.waits = b.waits[1:]
	}
	for _, id := range b.kids(0) {
		b.begins(id)
	}
	b.down(0, &told)
	for _, n := range b.tree.Nodes {
		told.Marks = append(told.Marks, b.seats[n.Id].tells)
	}
	b.now++
	return told
}

// order applies an order; false, if it waits on.
func (b *book) order(o api.Order) (api.Result, bool) {
	o.At = b.now
	after, result := tree.Apply(b.tree, o)
	b.tree = after
	later := result.Code == 4 || result.Code == 5 || result.Code == 2
	if later && len(after.Ghosts) > 0 {
		return api.Result{}, false
	}
	if result.Code != 0 {
		return result, true
	}
	switch o.Kind {
	case 1, 2:
		b.seats[result.Id] = &seat{machine: machine{server: o.Server, deadline: b.now, next: b.now}}
	case 3:
		b.seats[o.Id] = nil
	case 4:
		b.seats[o.Id].crew = &crew{policy: o.Policy, tasks: slices.Clone(o.Tasks), last: map[int]int{}}
	}
	return result, true
}

func (b *book) kids(id int) []int {
	var list []int
	for _, n := range b.tree.Nodes {
		if n.Parent == id {
			list = append(list, n.Id)
		}
	}
	return list
}

// begins tells a node, and those below it first, whether there is work.
func (b *book) begins(id int) {
	s, work := b.seats[id], false
	for _, kid := range b.kids(id) {
		b.begins(kid)
		work = work || b.seats[kid].ready()
	}
	if s.crew != nil {
		work = len(s.crew.jobs) > 0
	}
	s.begin(b.now, work)
	s.tells = Mark{Id: id, Work: work}
}

// down takes the ready kid with the least deadline, the least Id of several, and so on below it.
func (b *book) down(id int, told *Report) {
	taken, least := 0, math.MaxInt
	for _, kid := range b.kids(id) {
		if s := b.seats[kid]; s.ready() && s.deadline < least {
			taken, least = kid, s.deadline
		}
	}
	if taken == 0 {
		return
	}
	s := b.seats[taken]
	s.budget--
	s.tells.Ran = true
	if s.crew == nil {
		b.down(taken, told)
		return
	}
	told.Node = taken
	told.Job, told.Ended = s.crew.run()
}

func (b *book) jobs(id int) []api.Job {
	if c := b.crewOf(id); c != nil {
		return c.jobs
	}
	return nil
}

func (b *book) late() int {
	count := 0
	for _, n := range b.tree.Nodes {
		for _, j := range b.jobs(n.Id) {
			if j.Deadline <= b.now {
				count++
			}
		}
	}
	return count
}

// pair is a host and the book that is kept beside it.
type pair struct {
	t    *testing.T
	h    *Host
	book *book
}

func newPair(t *testing.T) *pair {
	t.Helper()
	p := &pair{t: t, h: New(), book: newBook()}
	p.same("New")
	return p
}

func (p *pair) fails(behind, what string, got, want any) {
	p.t.Helper()
	p.t.Fatalf("at %d, behind %s: %s: %+v; want %+v; tree %+v, waiting %+v", p.book.now, behind, what, got, want, p.book.tree, p.book.waits)
}

// same holds all that the host tells against the book.
func (p *pair) same(behind string) {
	p.t.Helper()
	got := [3]int{p.h.Now(), p.h.Waiting(), p.h.Late()}
	if want := [3]int{p.book.now, len(p.book.waits), p.book.late()}; got != want {
		p.fails(behind, "Now, Waiting, Late", got, want)
	}
	if got := p.h.Tree(); !sameTree(got, p.book.tree) {
		p.fails(behind, "Tree", got, p.book.tree)
	}
	for id := -1; id <= p.book.tree.Last+1; id++ {
		if got, want := p.h.Jobs(id), p.book.jobs(id); !slices.Equal(got, want) {
			p.fails(behind, "Jobs", got, want)
		}
	}
}

func sameTree(a, b api.Tree) bool {
	node := func(a, b api.Node) bool {
		return a.Id == b.Id && a.Parent == b.Parent && a.Server == b.Server && a.Policy == b.Policy && slices.Equal(a.Tasks, b.Tasks)
	}
	return a.Last == b.Last && a.Now == b.Now && slices.EqualFunc(a.Nodes, b.Nodes, node) && slices.Equal(a.Ghosts, b.Ghosts)
}

func sameReport(a, b Report) bool {
	if a.Time != b.Time || a.Node != b.Node || a.Job != b.Job || a.Ended != b.Ended {
		return false
	}
	return slices.Equal(a.Results, b.Results) && slices.Equal(a.Marks, b.Marks)
}

func (p *pair) submit(list ...api.Order) {
	p.t.Helper()
	for _, o := range list {
		p.h.Submit(o)
		p.book.submit(o)
		p.same("Submit")
	}
}

func (p *pair) release(id, task, ticks int) error {
	p.t.Helper()
	got, want := p.h.Release(id, task, ticks), p.book.release(id, task, ticks)
	if got != want {
		p.fails("a release", "Release", []any{id, task, ticks, got}, want)
	}
	p.same("Release")
	return got
}

func (p *pair) tick() Report {
	p.t.Helper()
	got, want := p.h.Tick(), p.book.tick()
	if !sameReport(got, want) {
		p.fails("a tick", "Tick", got, want)
	}
	p.same("Tick")
	return got
}

// ticks is the report of the last of some ticks.
func (p *pair) ticks(n int) Report {
	p.t.Helper()
	var last Report
	for range n {
		last = p.tick()
	}
	return last
}

// is asks that a release comes to an error or none.
func (p *pair) is(want error, id, task, ticks int) {
	p.t.Helper()
	if got := p.release(id, task, ticks); got != want {
		p.fails("a release", "Release", []any{id, task, ticks, got}, want)
	}
}

// does asks for the results of the orders that a tick takes.
func (p *pair) does(want ...api.Result) Report {
	p.t.Helper()
	r := p.tick()
	if !slices.Equal(r.Results, want) {
		p.fails("a tick", "Results", r.Results, want)
	}
	return r
}

// runs asks which nodes' guests run in the next ticks, one by one; 0 where nothing runs.
func (p *pair) runs(want ...int) {
	p.t.Helper()
	var got []int
	for range want {
		got = append(got, p.tick().Node)
	}
	if !slices.Equal(got, want) {
		p.fails("ticks", "Node", got, want)
	}
}

func polling(q, t int) api.Server    { return api.Server{Kind: api.KindPolling, Q: q, T: t} }
func sporadic(q, t int) api.Server   { return api.Server{Kind: api.KindSporadic, Q: q, T: t} }
func deferrable(q, t int) api.Server { return api.Server{Kind: api.KindDeferrable, Q: q, T: t} }

func aTask(c, p, d, s int) api.Task { return api.Task{C: c, P: p, D: d, S: s} }

func creates(parent int, s api.Server) api.Order {
	return api.Order{Kind: api.OrdCreate, Id: parent, Server: s}
}

func resizes(id int, s api.Server) api.Order {
	return api.Order{Kind: api.OrdResize, Id: id, Server: s}
}

func deletes(id int) api.Order { return api.Order{Kind: api.OrdDelete, Id: id} }

func binds(id, policy int, tasks ...api.Task) api.Order {
	return api.Order{Kind: api.OrdBind, Id: id, Policy: policy, Tasks: tasks}
}

func ok(id int) api.Result { return api.Result{Id: id} }

func refused(code int) api.Result { return api.Result{Code: code} }

func count(there bool) int {
	if there {
		return 1
	}
	return 0
}
