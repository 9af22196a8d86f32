package demand

import (
	"math"
	"math/big"
	"math/rand"
	"slices"
	"testing"

	"almoner/api"
)

func server(kind, q, t int) api.Server { return api.Server{Kind: kind, Q: q, T: t} }

func task(c, p, d, s int) api.Task { return api.Task{C: c, P: p, D: d, S: s} }

// The chapter's words, counted tick by tick or period by period, with its numbers written out.

// most is MaxTime.
const most = 1099511627776

// look is MaxLook.
const look = 4096

// serverAsks is a server's demand: of a deferrable one the first Q ticks of each period, as far as they are there, of the others Q of each period that has ended.
func serverAsks(s api.Server, l int) int {
	n := 0
	if s.Kind == 3 {
		for tick := range l {
			if tick%s.T < s.Q {
				n++
			}
		}
		return n
	}
	for end := s.T; end <= l; end += s.T {
		n += s.Q
	}
	return n
}

// serverWants is a server's request: Q of each period that has begun, and of a deferrable one a Q more.
func serverWants(s api.Server, l int) int {
	n := 0
	for begin := 0; begin < l; begin += s.T {
		n += s.Q
	}
	if s.Kind == 3 && l != 0 {
		n += s.Q
	}
	return n
}

// taskAsks is a task's demand: C of each job whose deadline has come.
func taskAsks(k api.Task, l int) int {
	n := 0
	for end := k.D; end <= l; end += k.P {
		n += k.C
	}
	return n
}

// taskWants is a task's request: C of each job that is released ahead of the end.
func taskWants(k api.Task, l int) int {
	n := 0
	for begin := 0; begin < l; begin += k.P {
		n += k.C
	}
	return n
}

// farOff counts near the beginning what is asked for in any number of ticks: every period more asks for as much more, from the first tick on.
func farOff(l, period, each int, count func(l int) int) int {
	if l <= 3*period {
		return count(l)
	}
	times := l/period - 1
	return times*each + count(l-times*period)
}

func farServerAsks(s api.Server, l int) int {
	return farOff(l, s.T, s.Q, func(l int) int { return serverAsks(s, l) })
}

func farServerWants(s api.Server, l int) int {
	return farOff(l, s.T, s.Q, func(l int) int { return serverWants(s, l) })
}

func farTaskAsks(k api.Task, l int) int {
	return farOff(l, k.P, k.C, func(l int) int { return taskAsks(k, l) })
}

func farTaskWants(k api.Task, l int) int {
	return farOff(l, k.P, k.C, func(l int) int { return taskWants(k, l) })
}

func listAsks(list []api.Server, l int) int {
	n := 0
	for _, s := range list {
		n += farServerAsks(s, l)
	}
	return n
}

func listWants(list []api.Server, l int) int {
	n := 0
	for _, s := range list {
		n += farServerWants(s, l)
	}
	return n
}

// greatest is the greatest of numbers, 0 if there are none or it is below 0.
func greatest(numbers []int) int {
	if len(numbers) == 0 {
		return 0
	}
	return max(0, slices.Max(numbers))
}

func tasksAsk(list []api.Task, l int) int {
	n := 0
	var blocks []int
	for _, k := range list {
		n += farTaskAsks(k, l)
		if k.D > l {
			blocks = append(blocks, k.S-1)
		}
	}
	if n == 0 {
		return 0
	}
	return n + greatest(blocks)
}

func tasksWant(list []api.Task, i, l int) int {
	n := 0
	var blocks []int
	for place, k := range list {
		if place <= i {
			n += farTaskWants(k, l)
		} else {
			blocks = append(blocks, k.S-1)
		}
	}
	return n + greatest(blocks)
}

func stepsByWords(list []api.Server, upTo int) []int {
	var steps []int
	for l := 1; l <= min(upTo, look); l++ {
		if listAsks(list, l) > listAsks(list, l-1) {
			steps = append(steps, l)
		}
	}
	return steps
}

// Servers and tasks.

// edgeServers are, of each Kind, periods of 1, 2, 3 and the greatest with Q at its edges and in the middle.
func edgeServers() []api.Server {
	var list []api.Server
	for kind := 1; kind <= 3; kind++ {
		for _, period := range []int{1, 2, 3, 5, 10, 100, 128, 255, 256} {
			qs := []int{1, 2, period / 3, period / 2, period - 1, period}
			slices.Sort(qs)
			for _, q := range slices.Compact(qs) {
				if q >= 1 && q <= period {
					list = append(list, server(kind, q, period))
				}
			}
		}
	}
	return list
}

// smallServers are all servers of short periods.
func smallServers(longest int) []api.Server {
	var list []api.Server
	for kind := 1; kind <= 3; kind++ {
		for period := 1; period <= longest; period++ {
			for q := 1; q <= period; q++ {
				list = append(list, server(kind, q, period))
			}
		}
	}
	return list
}

// wrongServers aren't legal, the whole first; many stand beside one that is.
func wrongServers() []api.Server {
	list := []api.Server{
		server(0, 0, 0), server(0, 1, 1), server(0, 2, 5), server(0, 256, 256), server(-1, 0, 0), server(-1, 2, 5),
		server(4, 2, 5), server(4, 0, 0), server(5, 1, 1), server(math.MinInt, 1, 1), server(math.MaxInt, 1, 1),
	}
	for kind := 1; kind <= 3; kind++ {
		list = append(list, server(kind, 0, 0), server(kind, 0, 1), server(kind, 1, 0), server(kind, 2, 1), server(kind, 6, 5), server(kind, 0, 5), server(kind, -1, 5))
		list = append(list, server(kind, -1, -1), server(kind, -5, -2), server(kind, 1, 257), server(kind, 257, 257), server(kind, 257, 256), server(kind, 0, 256))
		for _, end := range []int{math.MinInt, math.MinInt + 1, math.MaxInt - 1, math.MaxInt} {
			list = append(list, server(kind, end, 5), server(kind, 2, end), server(kind, end, end))
		}
	}
	return list
}

// smallTasks are all tasks of short periods.
func smallTasks(longest int) []api.Task {
	var list []api.Task
	for p := 1; p <= longest; p++ {
		for d := 1; d <= p; d++ {
			for c := 1; c <= d; c++ {
				for s := 0; s <= c; s++ {
					list = append(list, task(c, p, d, s))
				}
			}
		}
	}
	return list
}

// edgeTasks are tasks with C, D and S at their edges.
func edgeTasks() []api.Task {
	return []api.Task{
		task(1, 1, 1, 0), task(1, 1, 1, 1), task(1, 2, 1, 1), task(1, 2, 2, 0), task(2, 2, 2, 2), task(2, 10, 6, 2), task(2, 10, 6, 1), task(1, 5, 5, 0),
		task(1, 256, 1, 0), task(1, 256, 256, 1), task(256, 256, 256, 0), task(256, 256, 256, 1), task(256, 256, 256, 256), task(255, 256, 255, 255),
		task(128, 256, 128, 127), task(100, 256, 255, 3), task(7, 255, 30, 7), task(1, 128, 127, 1), task(3, 100, 99, 2), task(3, 100, 100, 3),
	}
}

// wrongTasks aren't legal; many stand beside one that is.
func wrongTasks() []api.Task {
	list := []api.Task{
		task(0, 0, 0, 0), task(0, 10, 6, 0), task(-1, 10, 6, -1), task(7, 10, 6, 2), task(2, 10, 11, 2), task(2, 10, 1, 2), task(2, 10, 6, 3), task(2, 10, 6, -1),
		task(2, 5, 6, 2), task(2, 257, 6, 2), task(2, 257, 257, 2), task(257, 257, 257, 0), task(2, 256, 257, 2), task(257, 256, 256, 2), task(1, 1, 1, 2), task(1, 1, 0, 0),
		task(1, 0, 0, 0), task(1, 0, 1, 0), task(-2, -1, -1, 0), task(-1, -10, -6, -2), task(0, 1, 1, 0), task(0, 1, 0, 0),
	}
	for _, end := range []int{math.MinInt, math.MinInt + 1, math.MaxInt - 1, math.MaxInt} {
		list = append(list, task(end, 10, 6, 2), task(2, end, 6, 2), task(2, 10, end, 2), task(2, 10, 6, end), task(end, end, end, 0), task(end, end, end, end))
	}
	return list
}

// wrongNumbers are no lengths.
func wrongNumbers() []int {
	return []int{math.MinInt, math.MinInt + 1, -most - 1, -most, -257, -2, -1, most + 1, most + 2, 2 * most, math.MaxInt - 1, math.MaxInt}
}

// lengths are 0, 1 and MaxTime, the ends of the first periods, of one in the middle and of the last, and one to each side.
func lengths(period int) []int {
	list := []int{0, 1, 2, most - 1, most, 1<<31 - 1, 1 << 31, 1<<32 - 1, 1 << 32, 1000000007}
	for _, times := range []int{1, 2, 3, 1000, 1 << 24, most/period - 1, most / period} {
		for _, l := range []int{times*period - 1, times * period, times*period + 1} {
			if l <= most {
				list = append(list, l)
			}
		}
	}
	return list
}

// taskLengths are those of its period, and the deadlines of the first jobs and one to each side.
func taskLengths(k api.Task) []int {
	list := lengths(k.P)
	for times := range 3 {
		end := k.D + times*k.P
		list = append(list, end-1, end, end+1)
	}
	return list
}

func anyLength(random *rand.Rand) int {
	switch random.Intn(3) {
	case 0:
		return random.Intn(40)
	case 1:
		return random.Intn(1500)
	}
	return random.Intn(most + 1)
}

func anyServer(random *rand.Rand) api.Server {
	period := 1 + random.Intn(256)
	if random.Intn(2) == 0 {
		period = 1 + random.Intn(12)
	}
	return server(1+random.Intn(3), 1+random.Intn(period), period)
}

func anyServers(random *rand.Rand, n int) []api.Server {
	list := make([]api.Server, n)
	for i := range list {
		list[i] = anyServer(random)
	}
	return list
}

func anyTask(random *rand.Rand) api.Task {
	p := 1 + random.Intn(256)
	if random.Intn(2) == 0 {
		p = 1 + random.Intn(12)
	}
	d := 1 + random.Intn(p)
	c := 1 + random.Intn(d)
	return task(c, p, d, random.Intn(c+1))
}

func anyTasks(random *rand.Rand, n int) []api.Task {
	list := make([]api.Task, n)
	for i := range list {
		list[i] = anyTask(random)
	}
	return list
}

// What a call must answer.

func is(t *testing.T, call string, of any, l, got int, err error, want int, fault error) {
	t.Helper()
	if got != want || err != fault {
		t.Fatalf("%s of %v, %d: %d, %v; want %d, %v", call, of, l, got, err, want, fault)
	}
}

func serverIs(t *testing.T, s api.Server, l, want int, fault error) {
	t.Helper()
	got, err := Server(s, l)
	is(t, "Server", s, l, got, err, want, fault)
}

func requestIs(t *testing.T, s api.Server, l, want int, fault error) {
	t.Helper()
	got, err := Request(s, l)
	is(t, "Request", s, l, got, err, want, fault)
}

func serversIs(t *testing.T, list []api.Server, l, want int, fault error) {
	t.Helper()
	got, err := Servers(list, l)
	is(t, "Servers", list, l, got, err, want, fault)
}

func requestsIs(t *testing.T, list []api.Server, l, want int, fault error) {
	t.Helper()
	got, err := Requests(list, l)
	is(t, "Requests", list, l, got, err, want, fault)
}

func taskIs(t *testing.T, k api.Task, l, want int, fault error) {
	t.Helper()
	got, err := Task(k, l)
	is(t, "Task", k, l, got, err, want, fault)
}

func tasksIs(t *testing.T, list []api.Task, l, want int, fault error) {
	t.Helper()
	got, err := Tasks(list, l)
	is(t, "Tasks", list, l, got, err, want, fault)
}

func untilIs(t *testing.T, list []api.Task, i, l, want int, fault error) {
	t.Helper()
	if got, err := Until(list, i, l); got != want || err != fault {
		t.Fatalf("Until of %v, %d, %d: %d, %v; want %d, %v", list, i, l, got, err, want, fault)
	}
}

func stepsIs(t *testing.T, list []api.Server, upTo int, want ...int) {
	t.Helper()
	if got := Steps(list, upTo); !slices.Equal(got, want) {
		t.Fatalf("Steps of %v, %d: %v; want %v", list, upTo, got, want)
	}
}

// holdServers asks all calls of servers at a length.
func holdServers(t *testing.T, list []api.Server, l int) {
	t.Helper()
	serversIs(t, list, l, listAsks(list, l), nil)
	requestsIs(t, list, l, listWants(list, l), nil)
}

func holdServer(t *testing.T, s api.Server, l int) {
	t.Helper()
	serverIs(t, s, l, farServerAsks(s, l), nil)
	requestIs(t, s, l, farServerWants(s, l), nil)
	holdServers(t, []api.Server{s}, l)
}

// holdTasks asks all calls of tasks at a length, Until at every place.
func holdTasks(t *testing.T, list []api.Task, l int) {
	t.Helper()
	tasksIs(t, list, l, tasksAsk(list, l), nil)
	for i := range list {
		untilIs(t, list, i, l, tasksWant(list, i, l), nil)
	}
}

// The test's own counts against one another and against the chapter's examples.

func TestCountsOfTheTest(t *testing.T) {
	for _, s := range smallServers(7) {
		for l := range 80 {
			if farServerAsks(s, l) != serverAsks(s, l) || farServerWants(s, l) != serverWants(s, l) {
				t.Fatalf("the far counts of %v in %d ticks aren't the near ones", s, l)
			}
		}
	}
	for _, k := range smallTasks(6) {
		for l := range 70 {
			if farTaskAsks(k, l) != taskAsks(k, l) || farTaskWants(k, l) != taskWants(k, l) {
				t.Fatalf("the far counts of %v in %d ticks aren't the near ones", k, l)
			}
		}
	}
}

// P11.1: the chapter's examples, and those of the whole document.

func TestExamples(t *testing.T) {
	polling, deferrable := server(api.KindPolling, 2, 5), server(api.KindDeferrable, 2, 5)
	serverIs(t, polling, 4, 0, nil)
	serverIs(t, polling, 5, 2, nil)
	serverIs(t, polling, 14, 4, nil)
	requestIs(t, polling, 4, 2, nil)
	requestIs(t, polling, 6, 4, nil)
	serverIs(t, deferrable, 1, 1, nil)
	serverIs(t, deferrable, 4, 2, nil)
	serverIs(t, deferrable, 6, 3, nil)
	requestIs(t, deferrable, 1, 4, nil)
	first, beside := task(2, 10, 6, 2), task(1, 5, 5, 0)
	taskIs(t, first, 5, 0, nil)
	taskIs(t, first, 6, 2, nil)
	taskIs(t, first, 16, 4, nil)
	tasksIs(t, []api.Task{first, beside}, 5, 2, nil)
	tasksIs(t, []api.Task{beside, first}, 5, 2, nil)
	tasksIs(t, []api.Task{first, beside}, 4, 0, nil)
	serverIs(t, server(api.KindPolling, 1, 40), 40, 1, nil)
}

// P11.1: Server and Request.

func TestSmallServersAtEveryLength(t *testing.T) {
	for _, s := range smallServers(12) {
		for l := range 5*s.T + 3 {
			holdServer(t, s, l)
		}
	}
}

func TestEdgeServersAtEveryLength(t *testing.T) {
	for _, s := range edgeServers() {
		for l := range 2*s.T + 3 {
			holdServer(t, s, l)
		}
	}
}

func TestEveryServerAtItsEnds(t *testing.T) {
	for _, s := range smallServers(256) {
		for _, l := range []int{0, 1, s.Q - 1, s.Q, s.Q + 1, s.T - 1, s.T, s.T + 1, s.T + s.Q, s.T + s.Q + 1, 2*s.T - 1, 2 * s.T} {
			serverIs(t, s, l, serverAsks(s, l), nil)
			requestIs(t, s, l, serverWants(s, l), nil)
		}
	}
}

func TestServersFarAway(t *testing.T) {
	random := rand.New(rand.NewSource(111))
	for _, s := range edgeServers() {
		for _, l := range lengths(s.T) {
			holdServer(t, s, l)
		}
		for range 20 {
			holdServer(t, s, random.Intn(most+1))
		}
	}
}

func TestServerAtMaxTime(t *testing.T) {
	for kind := 1; kind <= 3; kind++ {
		serverIs(t, server(kind, 1, 1), most, most, nil)
		serverIs(t, server(kind, 256, 256), most, most, nil)
		serverIs(t, server(kind, 1, 256), most, 1<<32, nil)
	}
	// 2^40 is 1 more than 3 times 366503875925.
	serverIs(t, server(1, 2, 3), most, 733007751850, nil)
	serverIs(t, server(3, 2, 3), most, 733007751851, nil)
	requestIs(t, server(2, 2, 3), most, 733007751852, nil)
	requestIs(t, server(3, 2, 3), most, 733007751854, nil)
	requestIs(t, server(3, 256, 256), most, most+256, nil)
	requestIs(t, server(3, 1, 1), most, most+1, nil)
}

func TestServerOfNoTicks(t *testing.T) {
	for _, s := range edgeServers() {
		serverIs(t, s, 0, 0, nil)
		requestIs(t, s, 0, 0, nil)
	}
}

// P11.1: Servers and Requests.

func TestListsOfServers(t *testing.T) {
	random := rand.New(rand.NewSource(112))
	for range 3000 {
		list := anyServers(random, random.Intn(9))
		for range 4 {
			holdServers(t, list, anyLength(random))
		}
		holdServers(t, list, most)
		holdServers(t, list, 0)
	}
}

func TestServersAlike(t *testing.T) {
	s := server(3, 2, 5)
	for n := range 9 {
		list := slices.Repeat([]api.Server{s}, n)
		serversIs(t, list, 6, 3*n, nil)
		requestsIs(t, list, 1, 4*n, nil)
		requestsIs(t, list, 0, 0, nil)
	}
	greatest := slices.Repeat([]api.Server{server(3, 256, 256)}, 8)
	serversIs(t, greatest, most, 8*most, nil)
	requestsIs(t, greatest, most, 8*most+2048, nil)
}

func TestNoServers(t *testing.T) {
	for _, list := range [][]api.Server{nil, {}} {
		for _, l := range []int{0, 1, 100, most} {
			serversIs(t, list, l, 0, nil)
			requestsIs(t, list, l, 0, nil)
		}
		for _, l := range wrongNumbers() {
			serversIs(t, list, l, 0, api.ErrNumber)
			requestsIs(t, list, l, 0, api.ErrNumber)
		}
		stepsIs(t, list, look)
	}
}

// P11.1: Task.

func TestSmallTasksAtEveryLength(t *testing.T) {
	for _, k := range smallTasks(8) {
		for l := range 4*k.P + 3 {
			taskIs(t, k, l, taskAsks(k, l), nil)
			holdTasks(t, []api.Task{k}, l)
		}
	}
}

func TestEdgeTasks(t *testing.T) {
	random := rand.New(rand.NewSource(113))
	for _, k := range edgeTasks() {
		for _, l := range taskLengths(k) {
			taskIs(t, k, l, farTaskAsks(k, l), nil)
			holdTasks(t, []api.Task{k}, l)
		}
		for range 50 {
			l := anyLength(random)
			taskIs(t, k, l, farTaskAsks(k, l), nil)
			holdTasks(t, []api.Task{k}, l)
		}
		taskIs(t, k, 0, 0, nil)
		taskIs(t, k, k.D-1, 0, nil)
		taskIs(t, k, k.D, k.C, nil)
		taskIs(t, k, k.D+k.P-1, k.C, nil)
		taskIs(t, k, k.D+k.P, 2*k.C, nil)
	}
}

func TestTaskAtMaxTime(t *testing.T) {
	taskIs(t, task(1, 1, 1, 0), most, most, nil)
	taskIs(t, task(256, 256, 256, 256), most, most, nil)
	taskIs(t, task(256, 256, 256, 256), most-1, most-256, nil)
	taskIs(t, task(1, 256, 1, 0), most, 1<<32, nil)
	taskIs(t, task(1, 256, 255, 0), most-1, 1<<32, nil)
	taskIs(t, task(1, 256, 255, 0), most-2, 1<<32-1, nil)
}

// P11.1: Tasks.

func TestListsOfTasks(t *testing.T) {
	random := rand.New(rand.NewSource(114))
	for range 2000 {
		list := anyTasks(random, random.Intn(9))
		for range 4 {
			holdTasks(t, list, anyLength(random))
		}
		for _, k := range list {
			holdTasks(t, list, k.D-1)
			holdTasks(t, list, k.D)
			holdTasks(t, list, k.D+1)
		}
		holdTasks(t, list, 0)
		holdTasks(t, list, most)
	}
}

func TestWhatMayBlockByDeadline(t *testing.T) {
	due := task(1, 5, 5, 0)
	// Of a task whose D is just l nothing blocks; one above, S - 1 does.
	tasksIs(t, []api.Task{due, task(3, 10, 6, 3)}, 5, 1+2, nil)
	tasksIs(t, []api.Task{due, task(3, 10, 5, 3)}, 5, 1+3, nil)
	tasksIs(t, []api.Task{due, task(3, 10, 6, 3)}, 6, 1+3, nil)
	// S of 0 and 1 block nobody.
	tasksIs(t, []api.Task{due, task(3, 10, 6, 0)}, 5, 1, nil)
	tasksIs(t, []api.Task{due, task(3, 10, 6, 1)}, 5, 1, nil)
	tasksIs(t, []api.Task{due, task(3, 10, 6, 2)}, 5, 2, nil)
	// Only the greatest counts, wherever it stands.
	for _, list := range [][]api.Task{
		{due, task(9, 20, 9, 4), task(7, 30, 8, 7), task(5, 40, 7, 5)},
		{task(7, 30, 8, 7), task(9, 20, 9, 4), due, task(5, 40, 7, 5)},
		{task(5, 40, 7, 5), task(9, 20, 9, 4), due, task(7, 30, 8, 7)},
	} {
		tasksIs(t, list, 5, 1+6, nil)
		tasksIs(t, list, 7, 1+5+6, nil)
		tasksIs(t, list, 8, 1+5+7+3, nil)
		tasksIs(t, list, 9, 1+5+7+9, nil)
		tasksIs(t, list, 4, 0, nil)
	}
	// Its period doesn't matter, nor does what it asks for later.
	tasksIs(t, []api.Task{due, task(200, 256, 256, 200)}, 255, 51+199, nil)
	tasksIs(t, []api.Task{due, task(200, 256, 256, 200)}, 256, 51+200, nil)
}

func TestNoTasks(t *testing.T) {
	for _, list := range [][]api.Task{nil, {}} {
		for _, l := range []int{0, 1, 100, most} {
			tasksIs(t, list, l, 0, nil)
			for _, i := range []int{math.MinInt, -1, 0, 1, 7, 8, math.MaxInt} {
				untilIs(t, list, i, l, 0, api.ErrNumber)
			}
		}
		for _, l := range wrongNumbers() {
			tasksIs(t, list, l, 0, api.ErrNumber)
			untilIs(t, list, 0, l, 0, api.ErrNumber)
		}
	}
}

// P11.1: Until.

func TestWhatMayBlockByOrder(t *testing.T) {
	list := []api.Task{task(4, 10, 6, 4), task(2, 5, 5, 1), task(3, 20, 9, 3), task(1, 7, 7, 0), task(2, 9, 9, 2)}
	untilIs(t, list, 0, 0, 2, nil)
	untilIs(t, list, 0, 1, 4+2, nil)
	untilIs(t, list, 0, 10, 4+2, nil)
	untilIs(t, list, 0, 11, 8+2, nil)
	untilIs(t, list, 1, 6, 4+4+2, nil)
	untilIs(t, list, 2, 6, 4+4+3+1, nil)
	untilIs(t, list, 3, 6, 4+4+3+1+1, nil)
	untilIs(t, list, 4, 6, 4+4+3+1+2, nil)
	untilIs(t, list, 4, 0, 0, nil)
	// The deadlines of those behind don't matter.
	untilIs(t, []api.Task{task(1, 5, 5, 0), task(2, 10, 2, 2)}, 0, 256, 52+1, nil)
	untilIs(t, []api.Task{task(1, 5, 5, 0), task(2, 10, 10, 1)}, 0, 3, 1, nil)
	untilIs(t, []api.Task{task(1, 5, 5, 0), task(2, 10, 10, 0)}, 0, 3, 1, nil)
}

func TestUntilPlaces(t *testing.T) {
	random := rand.New(rand.NewSource(115))
	for n := 1; n <= 8; n++ {
		list := anyTasks(random, n)
		for _, l := range []int{0, 1, 50, most} {
			untilIs(t, list, 0, l, tasksWant(list, 0, l), nil)
			untilIs(t, list, n-1, l, tasksWant(list, n-1, l), nil)
			for _, i := range []int{math.MinInt, math.MinInt + 1, -2, -1, n, n + 1, math.MaxInt - 1, math.MaxInt} {
				untilIs(t, list, i, l, 0, api.ErrNumber)
			}
		}
	}
}

func TestUntilDoesNotTakeWhatLiesBehind(t *testing.T) {
	whole := []api.Task{task(1, 5, 5, 0), task(1, 6, 6, 0), task(9, 9, 9, 9)}
	list := whole[:2]
	untilIs(t, list, 1, 6, 2+1, nil)
	untilIs(t, list, 0, 6, 2, nil)
	untilIs(t, list, 2, 6, 0, api.ErrNumber)
	tasksIs(t, list, 6, 2, nil)
}

// P11.1: Steps.

func TestSteps(t *testing.T) {
	polling, deferrable := server(1, 2, 5), server(3, 2, 5)
	stepsIs(t, []api.Server{polling}, 11, 5, 10)
	stepsIs(t, []api.Server{polling}, 10, 5, 10)
	stepsIs(t, []api.Server{polling}, 9, 5)
	stepsIs(t, []api.Server{polling}, 4)
	stepsIs(t, []api.Server{deferrable}, 12, 1, 2, 6, 7, 11, 12)
	stepsIs(t, []api.Server{polling, server(2, 1, 3)}, 15, 3, 5, 6, 9, 10, 12, 15)
	stepsIs(t, []api.Server{deferrable, polling}, 10, 1, 2, 5, 6, 7, 10)
	stepsIs(t, []api.Server{server(3, 3, 3)}, 6, 1, 2, 3, 4, 5, 6)
	stepsIs(t, []api.Server{server(3, 2, 3)}, 6, 1, 2, 4, 5)
	stepsIs(t, []api.Server{server(1, 3, 3)}, 6, 3, 6)
	stepsIs(t, []api.Server{server(1, 1, 1)}, 3, 1, 2, 3)
	stepsIs(t, slices.Repeat([]api.Server{polling}, 8), 11, 5, 10)
}

func TestStepsAtTheEdgesOfMost(t *testing.T) {
	for _, s := range []api.Server{server(1, 1, 1), server(2, 1, 1), server(3, 1, 1), server(3, 256, 256)} {
		list := []api.Server{s}
		for _, upTo := range []int{math.MinInt, math.MinInt + 1, -4096, -1, 0} {
			stepsIs(t, list, upTo)
		}
		stepsIs(t, list, 1, 1)
		stepsIs(t, list, 2, stepsByWords(list, 2)...)
		for _, upTo := range []int{4095, 4096, 4097, 5000, most, math.MaxInt - 1, math.MaxInt} {
			steps := Steps(list, upTo)
			if n := min(upTo, look); len(steps) != n || steps[0] != 1 || steps[n-1] != n {
				t.Fatalf("Steps of %v, %d: %d of them", list, upTo, len(steps))
			}
		}
	}
	stepsIs(t, []api.Server{server(1, 1, 256)}, 255)
	stepsIs(t, []api.Server{server(1, 1, 256)}, 256, 256)
	last := Steps([]api.Server{server(1, 1, 256)}, math.MaxInt)
	if len(last) != 16 || last[15] != look {
		t.Fatalf("the steps of polling 1/256: %v", last)
	}
}

func TestStepsOfMany(t *testing.T) {
	random := rand.New(rand.NewSource(116))
	for _, s := range smallServers(9) {
		stepsIs(t, []api.Server{s}, 60, stepsByWords([]api.Server{s}, 60)...)
	}
	for range 150 {
		list := anyServers(random, random.Intn(9))
		upTo := random.Intn(600)
		stepsIs(t, list, upTo, stepsByWords(list, upTo)...)
	}
	for range 3 {
		list := anyServers(random, 8)
		stepsIs(t, list, look+random.Intn(2), stepsByWords(list, look)...)
	}
}

// holdSteps asks that steps rise, and that they are just where the demand of Servers grows.
func holdSteps(t *testing.T, list []api.Server, upTo int) {
	t.Helper()
	steps := Steps(list, upTo)
	last := 0
	for _, l := range steps {
		if l <= last || l > min(upTo, look) {
			t.Fatalf("Steps of %v, %d: %d behind %d", list, upTo, l, last)
		}
		last = l
	}
	before := 0
	for l := 1; l <= min(upTo, look); l++ {
		n, err := Servers(list, l)
		if err != nil {
			t.Fatalf("Servers of %v, %d: %v", list, l, err)
		}
		if _, there := slices.BinarySearch(steps, l); there != (n > before) {
			t.Fatalf("Steps of %v, %d: at %d the demand goes from %d to %d; a step: %v", list, upTo, l, before, n, there)
		}
		before = n
	}
}

func TestStepsAreWhereServersGrows(t *testing.T) {
	random := rand.New(rand.NewSource(117))
	for range 100 {
		list := anyServers(random, random.Intn(9))
		holdSteps(t, list, random.Intn(2*look))
		holdSteps(t, list, look)
	}
}

func TestStepsOfOtherLists(t *testing.T) {
	right := slices.Repeat([]api.Server{server(1, 1, 2)}, 8)
	if len(Steps(right, 10)) != 5 {
		t.Fatal("eight servers have no steps")
	}
	stepsIs(t, append(slices.Clone(right), server(1, 1, 2)), 10)
	stepsIs(t, slices.Repeat(right, 100), 10)
	for _, wrong := range wrongServers() {
		stepsIs(t, []api.Server{wrong}, 10)
		for place := range right {
			list := slices.Clone(right)
			list[place] = wrong
			stepsIs(t, list, 10)
		}
	}
}

func TestStepsAreNewMemory(t *testing.T) {
	list := []api.Server{server(1, 2, 5)}
	one := Steps(list, 20)
	for i := range one {
		one[i] = -1
	}
	stepsIs(t, list, 20, 5, 10, 15, 20)
}

// P11.1: wrong inputs.

func TestWrongServersAtEveryCall(t *testing.T) {
	numbers := append(wrongNumbers(), 0, 1, 2, 5, 8, 100, most-1, most)
	for _, s := range wrongServers() {
		for _, l := range numbers {
			serverIs(t, s, l, 0, api.ErrServer)
			requestIs(t, s, l, 0, api.ErrServer)
			serversIs(t, []api.Server{s}, l, 0, api.ErrServer)
			requestsIs(t, []api.Server{s}, l, 0, api.ErrServer)
		}
	}
}

func TestWrongServersAtEveryPlace(t *testing.T) {
	random := rand.New(rand.NewSource(118))
	for _, n := range []int{1, 2, 7, 8, 9, 20} {
		for _, wrong := range wrongServers() {
			for place := range n {
				list := anyServers(random, n)
				list[place] = wrong
				for _, l := range []int{0, 10, -1, most + 1, math.MinInt, math.MaxInt} {
					serversIs(t, list, l, 0, api.ErrServer)
					requestsIs(t, list, l, 0, api.ErrServer)
				}
			}
		}
	}
}

func TestTooManyServers(t *testing.T) {
	random := rand.New(rand.NewSource(119))
	for _, n := range []int{9, 10, 16, 300} {
		list := anyServers(random, n)
		for _, l := range append(wrongNumbers(), 0, 1, 10, most) {
			serversIs(t, list, l, 0, api.ErrFull)
			requestsIs(t, list, l, 0, api.ErrFull)
		}
	}
	holdServers(t, anyServers(random, 8), 100)
}

func TestWrongLengthsOfServers(t *testing.T) {
	random := rand.New(rand.NewSource(120))
	for _, s := range edgeServers() {
		for _, l := range wrongNumbers() {
			serverIs(t, s, l, 0, api.ErrNumber)
			requestIs(t, s, l, 0, api.ErrNumber)
		}
	}
	for n := range 9 {
		list := anyServers(random, n)
		for _, l := range wrongNumbers() {
			serversIs(t, list, l, 0, api.ErrNumber)
			requestsIs(t, list, l, 0, api.ErrNumber)
		}
		holdServers(t, list, most)
	}
}

func TestServersAtEveryBound(t *testing.T) {
	numbers := []int{math.MinInt, -257, -256, -5, -1, 0, 1, 2, 3, 4, 5, 255, 256, 257, 258, math.MaxInt}
	right := 0
	for _, kind := range numbers {
		for _, q := range numbers {
			for _, period := range numbers {
				s := server(kind, q, period)
				if kind >= 1 && kind <= 3 && q >= 1 && q <= period && period <= 256 {
					right++
					holdServer(t, s, 600)
					continue
				}
				serverIs(t, s, 600, 0, api.ErrServer)
				requestIs(t, s, 600, 0, api.ErrServer)
				stepsIs(t, []api.Server{s}, 600)
			}
		}
	}
	if right != 3*28 {
		t.Fatalf("%d servers were right", right)
	}
}

func TestWrongTasksAtEveryCall(t *testing.T) {
	numbers := append(wrongNumbers(), 0, 1, 5, 6, 16, 100, most-1, most)
	for _, k := range wrongTasks() {
		for _, l := range numbers {
			taskIs(t, k, l, 0, api.ErrTask)
			tasksIs(t, []api.Task{k}, l, 0, api.ErrTask)
			for _, i := range []int{math.MinInt, -1, 0, 1, math.MaxInt} {
				untilIs(t, []api.Task{k}, i, l, 0, api.ErrTask)
			}
		}
	}
}

func TestWrongTasksAtEveryPlace(t *testing.T) {
	random := rand.New(rand.NewSource(121))
	for _, n := range []int{1, 2, 7, 8, 9} {
		for _, wrong := range wrongTasks() {
			for place := range n {
				list := anyTasks(random, n)
				list[place] = wrong
				for _, l := range []int{0, 10, -1, most + 1, math.MinInt, math.MaxInt} {
					tasksIs(t, list, l, 0, api.ErrTask)
					// A wrong task behind number i is one all the same.
					for _, i := range []int{-1, 0, n - 1, n} {
						untilIs(t, list, i, l, 0, api.ErrTask)
					}
				}
			}
		}
	}
}

func TestTooManyTasks(t *testing.T) {
	random := rand.New(rand.NewSource(122))
	for _, n := range []int{9, 10, 16, 300} {
		list := anyTasks(random, n)
		for _, l := range append(wrongNumbers(), 0, 1, 10, most) {
			tasksIs(t, list, l, 0, api.ErrTask)
			for _, i := range []int{math.MinInt, -1, 0, 7, 8, n - 1, n, math.MaxInt} {
				untilIs(t, list, i, l, 0, api.ErrTask)
			}
		}
	}
	holdTasks(t, anyTasks(random, 8), 100)
}

func TestWrongLengthsOfTasks(t *testing.T) {
	random := rand.New(rand.NewSource(123))
	for _, k := range edgeTasks() {
		for _, l := range wrongNumbers() {
			taskIs(t, k, l, 0, api.ErrNumber)
		}
	}
	for n := range 9 {
		list := anyTasks(random, n)
		for _, l := range wrongNumbers() {
			tasksIs(t, list, l, 0, api.ErrNumber)
			for _, i := range []int{math.MinInt, -1, 0, n - 1, n, math.MaxInt} {
				untilIs(t, list, i, l, 0, api.ErrNumber)
			}
		}
		holdTasks(t, list, most)
	}
}

func TestTasksAtEveryBound(t *testing.T) {
	numbers := []int{math.MinInt, -256, -1, 0, 1, 2, 3, 255, 256, 257, math.MaxInt}
	right := 0
	for _, c := range numbers {
		for _, p := range numbers {
			for _, d := range numbers {
				for _, s := range numbers {
					k := task(c, p, d, s)
					if 1 <= c && c <= d && d <= p && p <= 256 && 0 <= s && s <= c {
						right++
						taskIs(t, k, 700, taskAsks(k, 700), nil)
						holdTasks(t, []api.Task{k}, 700)
						continue
					}
					taskIs(t, k, 700, 0, api.ErrTask)
					tasksIs(t, []api.Task{k}, 700, 0, api.ErrTask)
					untilIs(t, []api.Task{k}, 0, 700, 0, api.ErrTask)
				}
			}
		}
	}
	// Of the five numbers 1, 2, 3, 255, 256: C <= D <= P, and S is 0 or one of those up to C.
	if right != 105 {
		t.Fatalf("%d tasks were right", right)
	}
}

// P11.2: demands and requests never fall, and no demand is above the request.

// holdGrowth asks one call at a length and at the next.
func holdGrowth(t *testing.T, what string, of any, l int, ask func(l int) (int, error)) {
	t.Helper()
	before, err := ask(l)
	after, fault := ask(l + 1)
	if err != nil || fault != nil || after < before {
		t.Fatalf("%s of %v falls from %d, %v to %d, %v behind %d", what, of, before, err, after, fault, l)
	}
}

func holdServersGrow(t *testing.T, list []api.Server, l int) {
	t.Helper()
	holdGrowth(t, "Servers", list, l, func(l int) (int, error) { return Servers(list, l) })
	holdGrowth(t, "Requests", list, l, func(l int) (int, error) { return Requests(list, l) })
	for _, s := range list {
		holdGrowth(t, "Server", s, l, func(l int) (int, error) { return Server(s, l) })
		holdGrowth(t, "Request", s, l, func(l int) (int, error) { return Request(s, l) })
		holdNotAbove(t, s, l, func() (int, error) { return Server(s, l) }, func() (int, error) { return Request(s, l) })
	}
	holdNotAbove(t, list, l, func() (int, error) { return Servers(list, l) }, func() (int, error) { return Requests(list, l) })
}

func holdTasksGrow(t *testing.T, list []api.Task, l int) {
	t.Helper()
	holdGrowth(t, "Tasks", list, l, func(l int) (int, error) { return Tasks(list, l) })
	for i, k := range list {
		holdGrowth(t, "Task", k, l, func(l int) (int, error) { return Task(k, l) })
		holdGrowth(t, "Until", list, l, func(l int) (int, error) { return Until(list, i, l) })
		// Of a task alone Until is the request.
		holdNotAbove(t, k, l, func() (int, error) { return Task(k, l) }, func() (int, error) { return Until([]api.Task{k}, 0, l) })
	}
	if last := len(list) - 1; last >= 0 {
		holdNotAbove(t, list, l, func() (int, error) { return Tasks(list, l) }, func() (int, error) { return Until(list, last, l) })
	}
}

func holdNotAbove(t *testing.T, of any, l int, demand, request func() (int, error)) {
	t.Helper()
	less, err := demand()
	more, fault := request()
	if err != nil || fault != nil || less > more {
		t.Fatalf("the demand of %v in %d ticks is %d, %v; its request %d, %v", of, l, less, err, more, fault)
	}
}

func TestNothingFallsOfServers(t *testing.T) {
	random := rand.New(rand.NewSource(124))
	for _, s := range append(edgeServers(), smallServers(7)...) {
		for l := range 2*s.T + 2 {
			holdServersGrow(t, []api.Server{s}, l)
		}
		holdServersGrow(t, []api.Server{s}, most-1)
	}
	for range 500 {
		list := anyServers(random, random.Intn(9))
		for range 10 {
			holdServersGrow(t, list, min(anyLength(random), most-1))
		}
	}
}

func TestNothingFallsOfTasks(t *testing.T) {
	random := rand.New(rand.NewSource(125))
	for _, k := range append(edgeTasks(), smallTasks(6)...) {
		for l := range 2*k.P + 2 {
			holdTasksGrow(t, []api.Task{k}, l)
		}
		holdTasksGrow(t, []api.Task{k}, most-1)
	}
	for range 500 {
		list := anyTasks(random, random.Intn(9))
		for _, k := range list {
			// Where a task stops blocking, its demand begins.
			holdTasksGrow(t, list, k.D-1)
			holdTasksGrow(t, list, k.D)
		}
		for range 10 {
			holdTasksGrow(t, list, min(anyLength(random), most-1))
		}
	}
}

// P11.3: the demand of servers is at most their share of l, and a Q for each deferrable one.

func holdShare(t *testing.T, list []api.Server, l int) {
	t.Helper()
	limit := new(big.Rat)
	for _, s := range list {
		share := big.NewRat(int64(s.Q), int64(s.T))
		limit.Add(limit, share.Mul(share, big.NewRat(int64(l), 1)))
		if s.Kind == 3 {
			limit.Add(limit, big.NewRat(int64(s.Q), 1))
		}
	}
	n, err := Servers(list, l)
	if err != nil || big.NewRat(int64(n), 1).Cmp(limit) > 0 {
		t.Fatalf("the demand of %v in %d ticks is %d, %v: above %v", list, l, n, err, limit)
	}
}

func TestDemandWithinTheShare(t *testing.T) {
	random := rand.New(rand.NewSource(126))
	for _, s := range append(edgeServers(), smallServers(7)...) {
		for l := range 2*s.T + 2 {
			holdShare(t, []api.Server{s}, l)
		}
		for _, l := range lengths(s.T) {
			holdShare(t, []api.Server{s}, l)
		}
	}
	for range 1000 {
		list := anyServers(random, random.Intn(9))
		for range 5 {
			holdShare(t, list, anyLength(random))
		}
		holdShare(t, list, most)
	}
}

// At the ends of periods the demand of those that aren't deferrable is just their share.
func TestDemandMeetsTheShare(t *testing.T) {
	list := []api.Server{server(1, 1, 2), server(2, 1, 3), server(1, 2, 5)}
	serversIs(t, list, 30, 15+10+12, nil)
	serversIs(t, list, 29, 14+9+10, nil)
	serversIs(t, list, 30000000, 15000000+10000000+12000000, nil)
}

// Rule 4: lists are neither changed nor kept, spare room included, and what lies behind them isn't read.

func TestListsAreLeftAlone(t *testing.T) {
	random := rand.New(rand.NewSource(127))
	for n := range 10 {
		servers, tasks := anyServers(random, n+2), anyTasks(random, n+2)
		servers[n], servers[n+1] = server(3, 256, 256), server(9, 9, 9)
		tasks[n], tasks[n+1] = task(256, 256, 256, 256), task(9, 9, 9, 99)
		oldServers, oldTasks := slices.Clone(servers), slices.Clone(tasks)
		for _, l := range []int{0, 1, 10, 300, most, -1} {
			one, fault := Servers(servers[:n], l)
			serversIs(t, slices.Clone(servers[:n]), l, one, fault)
			one, fault = Requests(servers[:n], l)
			requestsIs(t, slices.Clone(servers[:n]), l, one, fault)
			one, fault = Tasks(tasks[:n], l)
			tasksIs(t, slices.Clone(tasks[:n]), l, one, fault)
			for i := -1; i <= n; i++ {
				one, fault = Until(tasks[:n], i, l)
				untilIs(t, slices.Clone(tasks[:n]), i, l, one, fault)
			}
			stepsIs(t, slices.Clone(servers[:n]), l, Steps(servers[:n], l)...)
		}
		if !slices.Equal(servers, oldServers) || !slices.Equal(tasks, oldTasks) {
			t.Fatalf("a call changed its list: %v, %v; want %v, %v", servers, tasks, oldServers, oldTasks)
		}
	}
}

// Rule 7: an answer hangs on what was given, not on what was asked before.

func TestAnswersStay(t *testing.T) {
	list := []api.Server{server(1, 2, 5), server(3, 2, 5)}
	tasks := []api.Task{task(2, 10, 6, 2), task(1, 5, 5, 0)}
	steps := Steps(list, 11)
	for _, other := range append(edgeServers(), wrongServers()...) {
		Server(other, 77)
		Requests([]api.Server{other, other}, 77)
		Steps([]api.Server{other}, 50)
		for _, k := range wrongTasks() {
			Task(k, 9)
		}
		serversIs(t, list, 6, 5, nil)
		requestsIs(t, list, 6, 10, nil)
		tasksIs(t, tasks, 5, 2, nil)
		untilIs(t, tasks, 0, 5, 2, nil)
	}
	if !slices.Equal(steps, []int{1, 2, 5, 6, 7, 10, 11}) {
		t.Fatalf("steps changed with what was asked behind them: %v", steps)
	}
}
