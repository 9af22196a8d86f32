package plan

import (
	"math"
	"math/big"
	"math/rand"
	"slices"
	"testing"

	"almoner/api"
)

// numbers are those beside every bound of servers and tasks, and both ends of int.
func numbers() []int {
	return []int{math.MinInt, math.MinInt + 1, -257, -256, -1, 0, 1, 2, 3, 4, 5, 255, 256, 257, 258, 512, math.MaxInt - 1, math.MaxInt}
}

func server(kind, q, t int) api.Server { return api.Server{Kind: kind, Q: q, T: t} }

func task(c, p, d, s int) api.Task { return api.Task{C: c, P: p, D: d, S: s} }

// The chapter's words, line by line, with its numbers written out.

func serverIsLegal(s api.Server) bool {
	kind := s.Kind == 1 || s.Kind == 2 || s.Kind == 3
	return kind && 1 <= s.Q && s.Q <= s.T && s.T <= 256
}

func taskIsLegal(t api.Task) bool {
	return 1 <= t.C && t.C <= t.D && t.D <= t.P && t.P <= 256 && 0 <= t.S && t.S <= t.C
}

func guestIsLegal(policy int, tasks []api.Task) bool {
	all := len(tasks) >= 1 && len(tasks) <= 8
	for _, one := range tasks {
		all = all && taskIsLegal(one)
	}
	return all && (policy == 1 || policy == 2)
}

// ratio is a fraction of numbers of any size, never shortened.
type ratio struct{ n, d *big.Int }

// sum is the share of fractions by the rule of layer 2's Plus: N times t and q times D over D times t, from 0 / 1 on.
func sum(parts [][2]int) ratio {
	r := ratio{big.NewInt(0), big.NewInt(1)}
	for _, part := range parts {
		q, t := big.NewInt(int64(part[0])), big.NewInt(int64(part[1]))
		upper := new(big.Int).Mul(r.n, t)
		upper.Add(upper, new(big.Int).Mul(q, r.d))
		r = ratio{upper, new(big.Int).Mul(r.d, t)}
	}
	return r
}

func bigOf(a api.Wide) *big.Int {
	n := new(big.Int).SetUint64(a.Hi)
	n.Lsh(n, 64)
	return n.Add(n, new(big.Int).SetUint64(a.Lo))
}

func partOf(t *testing.T, r ratio) api.Part {
	t.Helper()
	return api.Part{N: wideOf(t, r.n), D: wideOf(t, r.d)}
}

func wideOf(t *testing.T, n *big.Int) api.Wide {
	t.Helper()
	if n.Sign() < 0 || n.BitLen() > 128 {
		t.Fatalf("the test asks for a Wide of %v", n)
	}
	low := new(big.Int).And(n, new(big.Int).SetUint64(math.MaxUint64))
	return api.Wide{Hi: new(big.Int).Rsh(n, 64).Uint64(), Lo: low.Uint64()}
}

func part(n, d uint64) api.Part { return api.Part{N: api.Wide{Lo: n}, D: api.Wide{Lo: d}} }

func checkServerIs(t *testing.T, s api.Server, want error) {
	t.Helper()
	if got := CheckServer(s); got != want {
		t.Fatalf("CheckServer of %v: %v; want %v", s, got, want)
	}
}

func checkGuestIs(t *testing.T, policy int, tasks []api.Task, want error) {
	t.Helper()
	if got := CheckGuest(policy, tasks); got != want {
		t.Fatalf("CheckGuest of %d, %v: %v; want %v", policy, tasks, got, want)
	}
}

func serversIs(t *testing.T, list []api.Server, want api.Part, fault error) {
	t.Helper()
	if got, err := Servers(list); got != want || err != fault {
		t.Fatalf("Servers of %v: %v, %v; want %v, %v", list, got, err, want, fault)
	}
}

func tasksIs(t *testing.T, list []api.Task, want api.Part, fault error) {
	t.Helper()
	if got, err := Tasks(list); got != want || err != fault {
		t.Fatalf("Tasks of %v: %v, %v; want %v, %v", list, got, err, want, fault)
	}
}

func withinIs(t *testing.T, p api.Part, s api.Server, want int, there bool) {
	t.Helper()
	if got, ok := Within(p, s); got != want || ok != there {
		t.Fatalf("Within of %v, %v: %d, %v; want %d, %v", p, s, got, ok, want, there)
	}
}

func serverFault(s api.Server) error {
	if serverIsLegal(s) {
		return nil
	}
	return api.ErrServer
}

// anyServer is a legal server, often one at the bounds.
func anyServer(random *rand.Rand) api.Server {
	t := 1 + random.Intn(256)
	if random.Intn(4) == 0 {
		t = 256 - random.Intn(2)
	}
	q := 1 + random.Intn(t)
	if random.Intn(4) == 0 {
		q = t
	}
	return server(1+random.Intn(3), q, t)
}

// anyTask is a legal task, often one at the bounds.
func anyTask(random *rand.Rand) api.Task {
	p := 1 + random.Intn(256)
	d := 1 + random.Intn(p)
	if random.Intn(3) == 0 {
		d = p
	}
	c := 1 + random.Intn(d)
	if random.Intn(4) == 0 {
		c = d
	}
	return task(c, p, d, random.Intn(c+1))
}

func anyServers(random *rand.Rand, n int) []api.Server {
	list := make([]api.Server, n)
	for i := range list {
		list[i] = anyServer(random)
	}
	return list
}

func anyTasks(random *rand.Rand, n int) []api.Task {
	list := make([]api.Task, n)
	for i := range list {
		list[i] = anyTask(random)
	}
	return list
}

func shareOf(list []api.Server) ratio {
	var parts [][2]int
	for _, s := range list {
		parts = append(parts, [2]int{s.Q, s.T})
	}
	return sum(parts)
}

func shareOfTasks(list []api.Task) ratio {
	var parts [][2]int
	for _, one := range list {
		parts = append(parts, [2]int{one.C, one.P})
	}
	return sum(parts)
}

// places are the first, a middle and the last place of a list of n.
func places(n int) []int { return []int{0, n / 2, n - 1} }

// P8.1: CheckServer.

func TestCheckServerAtEveryBound(t *testing.T) {
	for _, kind := range numbers() {
		for _, q := range numbers() {
			for _, period := range numbers() {
				s := server(kind, q, period)
				checkServerIs(t, s, serverFault(s))
			}
		}
	}
}

func TestCheckServerOfEveryBudgetAndPeriod(t *testing.T) {
	for kind := -1; kind <= 5; kind++ {
		for q := -1; q <= 258; q++ {
			for period := -1; period <= 258; period++ {
				s := server(kind, q, period)
				checkServerIs(t, s, serverFault(s))
			}
		}
	}
}

func TestCheckServerEdges(t *testing.T) {
	for _, kind := range []int{api.KindPolling, api.KindSporadic, api.KindDeferrable} {
		checkServerIs(t, server(kind, 1, 1), nil)
		checkServerIs(t, server(kind, 1, 10), nil)
		checkServerIs(t, server(kind, 10, 10), nil)
		checkServerIs(t, server(kind, 0, 10), api.ErrServer)
		checkServerIs(t, server(kind, 11, 10), api.ErrServer)
		checkServerIs(t, server(kind, api.MaxPeriod, api.MaxPeriod), nil)
		checkServerIs(t, server(kind, 1, api.MaxPeriod+1), api.ErrServer)
		checkServerIs(t, server(kind, 0, 0), api.ErrServer)
		checkServerIs(t, server(kind, -1, -1), api.ErrServer)
	}
	checkServerIs(t, server(api.KindWhole, 0, 0), api.ErrServer)
	checkServerIs(t, server(api.KindWhole, 1, 1), api.ErrServer)
	checkServerIs(t, server(api.KindDeferrable+1, 1, 1), api.ErrServer)
	checkServerIs(t, server(-1, 1, 1), api.ErrServer)
	checkServerIs(t, server(api.KindPolling, 3, 2), api.ErrServer)
}

// P8.1: CheckGuest.

func TestCheckGuestOfOneTaskAtEveryBound(t *testing.T) {
	for _, c := range numbers() {
		for _, p := range numbers() {
			for _, d := range numbers() {
				for _, s := range numbers() {
					guestOfOneTask(t, task(c, p, d, s))
				}
			}
		}
	}
}

// guestOfOneTask holds a guest of one task, and the share of that task, against the words.
func guestOfOneTask(t *testing.T, one api.Task) {
	t.Helper()
	var fault error = api.ErrTask
	var share api.Part
	if taskIsLegal(one) {
		fault, share = nil, part(uint64(one.C), uint64(one.P))
	}
	checkGuestIs(t, api.PolicyDeadline, []api.Task{one}, fault)
	checkGuestIs(t, api.PolicyOrder, []api.Task{one}, fault)
	tasksIs(t, []api.Task{one}, share, fault)
}

func TestCheckGuestOfSmallTasks(t *testing.T) {
	for c := -1; c <= 5; c++ {
		for p := -1; p <= 5; p++ {
			for d := -1; d <= 5; d++ {
				for s := -1; s <= 6; s++ {
					guestOfOneTask(t, task(c, p, d, s))
				}
			}
		}
	}
}

func TestCheckGuestEdges(t *testing.T) {
	legal := []api.Task{
		task(1, 1, 1, 0), task(1, 1, 1, 1), task(256, 256, 256, 256), task(256, 256, 256, 0),
		task(1, 256, 1, 1), task(1, 256, 256, 0), task(5, 20, 10, 0), task(5, 20, 10, 5), task(10, 20, 10, 3), task(5, 20, 20, 3),
	}
	for _, one := range legal {
		guestOfOneTask(t, one)
		checkGuestIs(t, api.PolicyDeadline, []api.Task{one}, nil)
	}
	wrong := []api.Task{
		{}, task(0, 10, 10, 0), task(11, 20, 10, 0), task(5, 9, 10, 0), task(5, 20, 4, 0), task(1, 257, 256, 0), task(1, 257, 257, 0),
		task(5, 20, 10, -1), task(5, 20, 10, 6), task(-5, 20, 10, -6), task(257, 257, 257, 0), task(1, 0, 0, 0), task(2, 5, 6, 0),
	}
	for _, one := range wrong {
		guestOfOneTask(t, one)
		checkGuestIs(t, api.PolicyDeadline, []api.Task{one}, api.ErrTask)
	}
}

func TestCheckGuestPolicies(t *testing.T) {
	tasks := []api.Task{task(1, 60, 60, 0)}
	for _, policy := range numbers() {
		var fault error = api.ErrTask
		if policy == 1 || policy == 2 {
			fault = nil
		}
		checkGuestIs(t, policy, tasks, fault)
		checkGuestIs(t, policy, nil, api.ErrTask)
		checkGuestIs(t, policy, []api.Task{{}}, api.ErrTask)
	}
}

func TestCheckGuestCounts(t *testing.T) {
	random := rand.New(rand.NewSource(81))
	for n := 0; n <= 20; n++ {
		var fault error
		if n < 1 || n > api.MaxTasks {
			fault = api.ErrTask
		}
		checkGuestIs(t, api.PolicyDeadline, anyTasks(random, n), fault)
		checkGuestIs(t, api.PolicyOrder, anyTasks(random, n), fault)
	}
	checkGuestIs(t, api.PolicyOrder, []api.Task{}, api.ErrTask)
}

func TestCheckGuestOneWrongTask(t *testing.T) {
	random := rand.New(rand.NewSource(82))
	for n := 1; n <= api.MaxTasks+1; n++ {
		for _, place := range places(n) {
			for _, wrong := range []api.Task{{}, task(3, 2, 3, 0), task(3, 5, 2, 0), task(3, 5, 5, 4), task(3, 5, 5, -1), task(1, 257, 1, 0)} {
				list := anyTasks(random, n)
				list[place] = wrong
				checkGuestIs(t, api.PolicyDeadline, list, api.ErrTask)
				checkGuestIs(t, api.PolicyOrder, list, api.ErrTask)
				tasksIs(t, list, api.Part{}, api.ErrTask)
			}
		}
	}
}

func TestCheckGuestOfMany(t *testing.T) {
	random := rand.New(rand.NewSource(83))
	legal := 0
	for range 20000 {
		list := anyTasks(random, random.Intn(10))
		if len(list) > 0 && random.Intn(2) == 0 {
			spoil(random, &list[random.Intn(len(list))])
		}
		policy := random.Intn(4)
		var fault error = api.ErrTask
		if guestIsLegal(policy, list) {
			fault = nil
			legal++
		}
		checkGuestIs(t, policy, list, fault)
	}
	if legal < 1000 {
		t.Fatalf("only %d guests were legal", legal)
	}
}

// spoil turns one number of a task by a little.
func spoil(random *rand.Rand, one *api.Task) {
	fields := []*int{&one.C, &one.P, &one.D, &one.S}
	*fields[random.Intn(4)] += random.Intn(7) - 3
}

// P8.1: Servers.

func TestServersExamples(t *testing.T) {
	list := []api.Server{server(api.KindPolling, 1, 2), server(api.KindSporadic, 1, 3)}
	serversIs(t, list, part(5, 6), nil)
	withinIs(t, part(5, 6), server(api.KindWhole, 0, 0), -1, true)
	serversIs(t, nil, part(0, 1), nil)
	serversIs(t, []api.Server{}, part(0, 1), nil)
	serversIs(t, []api.Server{server(api.KindDeferrable, 2, 4)}, part(2, 4), nil)
	half := server(api.KindSporadic, 5, 10)
	serversIs(t, []api.Server{half, half}, part(100, 100), nil)
}

func TestServersOfMany(t *testing.T) {
	random := rand.New(rand.NewSource(84))
	for range 20000 {
		list := anyServers(random, random.Intn(api.MaxKids+1))
		serversIs(t, list, partOf(t, shareOf(list)), nil)
	}
}

func TestServersAtTheGreatest(t *testing.T) {
	list := slices.Repeat([]api.Server{server(api.KindPolling, 256, 256)}, api.MaxKids)
	serversIs(t, list, api.Part{N: api.Wide{Hi: 8}, D: api.Wide{Hi: 1}}, nil)
	serversIs(t, list[:7], partOf(t, shareOf(list[:7])), nil)
	list = slices.Repeat([]api.Server{server(api.KindDeferrable, 1, 256)}, api.MaxKids)
	serversIs(t, list, api.Part{N: api.Wide{Lo: 8 << 56}, D: api.Wide{Hi: 1}}, nil)
}

func TestServersTooMany(t *testing.T) {
	random := rand.New(rand.NewSource(85))
	for n := 0; n <= 40; n++ {
		list := anyServers(random, n)
		if n <= api.MaxKids {
			serversIs(t, list, partOf(t, shareOf(list)), nil)
		} else {
			serversIs(t, list, api.Part{}, api.ErrFull)
		}
	}
	serversIs(t, anyServers(random, 10000), api.Part{}, api.ErrFull)
}

func wrongServers() []api.Server {
	return []api.Server{{}, server(0, 1, 2), server(4, 1, 2), server(-1, 1, 2), server(1, 0, 2), server(2, 3, 2), server(3, 1, 257), server(1, -1, -1), server(2, math.MinInt, math.MaxInt), server(3, math.MaxInt, math.MaxInt), server(math.MaxInt, 1, 1), server(math.MinInt, 1, 1)}
}

func TestServersOneWrongServer(t *testing.T) {
	random := rand.New(rand.NewSource(86))
	for n := 1; n <= 2*api.MaxKids+2; n++ {
		for _, place := range places(n) {
			for _, wrong := range wrongServers() {
				list := anyServers(random, n)
				list[place] = wrong
				serversIs(t, list, api.Part{}, api.ErrServer)
			}
		}
	}
}

// P8.1: Tasks.

func TestTasksOfMany(t *testing.T) {
	random := rand.New(rand.NewSource(87))
	tasksIs(t, nil, part(0, 1), nil)
	tasksIs(t, []api.Task{}, part(0, 1), nil)
	tasksIs(t, []api.Task{task(1, 2, 1, 0), task(1, 3, 2, 1)}, part(5, 6), nil)
	for range 20000 {
		list := anyTasks(random, random.Intn(api.MaxTasks+1))
		tasksIs(t, list, partOf(t, shareOfTasks(list)), nil)
	}
}

func TestTasksCounts(t *testing.T) {
	random := rand.New(rand.NewSource(88))
	for n := 0; n <= 40; n++ {
		list := anyTasks(random, n)
		if n <= api.MaxTasks {
			tasksIs(t, list, partOf(t, shareOfTasks(list)), nil)
		} else {
			tasksIs(t, list, api.Part{}, api.ErrTask)
		}
	}
	whole := slices.Repeat([]api.Task{task(256, 256, 256, 256)}, api.MaxTasks)
	tasksIs(t, whole, api.Part{N: api.Wide{Hi: 8}, D: api.Wide{Hi: 1}}, nil)
}

// P8.1: Within.

// withinByWords is Within by exact numbers of any size.
func withinByWords(p api.Part, s api.Server) (int, bool) {
	q, period := s.Q, s.T
	if s == (api.Server{}) {
		q, period = 1, 1
	} else if !serverIsLegal(s) {
		return 0, false
	}
	if p.D == (api.Wide{}) {
		return 0, false
	}
	mine := new(big.Int).Mul(bigOf(p.N), big.NewInt(int64(period)))
	its := new(big.Int).Mul(bigOf(p.D), big.NewInt(int64(q)))
	if mine.BitLen() > 128 || its.BitLen() > 128 {
		return 0, false
	}
	return mine.Cmp(its), true
}

func holdWithin(t *testing.T, p api.Part, s api.Server) {
	t.Helper()
	want, there := withinByWords(p, s)
	withinIs(t, p, s, want, there)
}

func TestWithinLessSameGreater(t *testing.T) {
	third := server(api.KindPolling, 1, 3)
	withinIs(t, part(0, 1), third, -1, true)
	withinIs(t, part(33, 100), third, -1, true)
	withinIs(t, part(1, 3), third, 0, true)
	withinIs(t, part(100, 300), third, 0, true)
	withinIs(t, part(34, 100), third, 1, true)
	withinIs(t, part(5, 1), third, 1, true)
	for _, kind := range []int{1, 2, 3} {
		withinIs(t, part(1, 4), server(kind, 2, 8), 0, true)
		withinIs(t, part(256, 256), server(kind, 256, 256), 0, true)
		withinIs(t, part(255, 256), server(kind, 256, 256), -1, true)
		withinIs(t, part(257, 256), server(kind, 256, 256), 1, true)
	}
}

func TestWithinTheWhole(t *testing.T) {
	whole := server(api.KindWhole, 0, 0)
	withinIs(t, part(0, 1), whole, -1, true)
	withinIs(t, part(99, 100), whole, -1, true)
	withinIs(t, part(100, 100), whole, 0, true)
	withinIs(t, part(101, 100), whole, 1, true)
	top := api.Wide{Hi: math.MaxUint64, Lo: math.MaxUint64}
	below := api.Wide{Hi: math.MaxUint64, Lo: math.MaxUint64 - 1}
	withinIs(t, api.Part{N: top, D: top}, whole, 0, true)
	withinIs(t, api.Part{N: below, D: top}, whole, -1, true)
	withinIs(t, api.Part{N: top, D: below}, whole, 1, true)
	withinIs(t, api.Part{N: top}, whole, 0, false)
}

func TestWithinNearlyTheWhole(t *testing.T) {
	for _, s := range []api.Server{server(0, 1, 1), server(0, 0, 1), server(0, 1, 0), server(0, -1, 0), server(0, 0, -1), server(1, 0, 0), server(2, 0, 0), server(3, 0, 0), server(4, 0, 0), server(-1, 0, 0), server(0, 256, 256)} {
		withinIs(t, part(1, 2), s, 0, false)
		withinIs(t, part(0, 1), s, 0, false)
		withinIs(t, part(3, 1), s, 0, false)
	}
}

func TestWithinWrongServersAndParts(t *testing.T) {
	servers := append(wrongServers(), server(1, 1, 2), server(2, 256, 256), server(3, 1, 256))
	parts := []api.Part{{}, part(1, 0), {N: api.Wide{Hi: 1}}, part(0, 1), part(1, 2), {N: api.Wide{Hi: 1}, D: api.Wide{Hi: 1}}, {D: api.Wide{Hi: 1}}}
	for _, s := range servers {
		for _, p := range parts {
			holdWithin(t, p, s)
		}
	}
	withinIs(t, api.Part{}, server(1, 1, 2), 0, false)
	withinIs(t, part(1, 0), server(1, 1, 2), 0, false)
}

func TestWithinAtEveryBoundOfServers(t *testing.T) {
	for _, kind := range numbers() {
		for _, q := range numbers() {
			for _, period := range numbers() {
				holdWithin(t, part(1, 2), server(kind, q, period))
				holdWithin(t, part(5, 5), server(kind, q, period))
			}
		}
	}
}

func TestWithinWhereAgainstDoesNotAnswer(t *testing.T) {
	great := api.Wide{Hi: 1 << 56}
	edge := api.Wide{Hi: 1<<56 - 1, Lo: math.MaxUint64}
	withinIs(t, api.Part{N: great, D: api.Wide{Lo: 1}}, server(1, 1, 256), 0, false)
	withinIs(t, api.Part{N: edge, D: api.Wide{Lo: 1}}, server(1, 1, 256), 1, true)
	withinIs(t, api.Part{N: great, D: api.Wide{Lo: 1}}, server(1, 1, 255), 1, true)
	withinIs(t, api.Part{N: api.Wide{Lo: 1}, D: great}, server(1, 256, 256), 0, false)
	withinIs(t, api.Part{N: api.Wide{Lo: 1}, D: edge}, server(1, 256, 256), -1, true)
	withinIs(t, api.Part{N: api.Wide{Lo: 1}, D: great}, server(1, 255, 256), -1, true)
	withinIs(t, api.Part{N: great, D: great}, server(0, 0, 0), 0, true)
}

func TestWithinOfMany(t *testing.T) {
	random := rand.New(rand.NewSource(89))
	seen := [4]int{}
	for range 40000 {
		s := anyServer(random)
		if random.Intn(4) == 0 {
			s = server(api.KindWhole, 0, 0)
		}
		p := anyPart(random, s)
		holdWithin(t, p, s)
		if c, ok := Within(p, s); ok {
			seen[c+1]++
		} else {
			seen[3]++
		}
	}
	for _, n := range seen {
		if n < 1000 {
			t.Fatalf("too few of one answer: %v", seen)
		}
	}
}

// anyPart is a part of any size, often beside the share of s.
func anyPart(random *rand.Rand, s api.Server) api.Part {
	shift := random.Intn(64)
	p := api.Part{N: api.Wide{Hi: random.Uint64() >> shift, Lo: random.Uint64()}, D: api.Wide{Hi: random.Uint64() >> shift, Lo: random.Uint64()}}
	if random.Intn(3) > 0 && s.T > 0 {
		times := 1 + uint64(random.Intn(1000))
		p = part(uint64(s.Q)*times, uint64(s.T)*times)
		p.N.Lo += uint64(random.Intn(3)) - 1
	}
	return p
}

// P8.1: Counts.

// countByWords is how often one server stands in a list.
func countByWords(list []api.Server, one api.Server) int {
	n := 0
	for _, s := range list {
		if s.Kind == one.Kind && s.Q == one.Q && s.T == one.T {
			n++
		}
	}
	return n
}

func holdCounts(t *testing.T, list []api.Server) {
	t.Helper()
	counts := Counts(list)
	all := 0
	for s, n := range counts {
		if want := countByWords(list, s); n != want || n == 0 {
			t.Fatalf("Counts of %v: %v %d times; want %d", list, s, n, want)
		}
		all += n
	}
	if all != len(list) {
		t.Fatalf("Counts of %v: %v: %d in all; want %d", list, counts, all, len(list))
	}
}

func TestCounts(t *testing.T) {
	if got := Counts(nil); len(got) != 0 {
		t.Fatalf("Counts of none: %v", got)
	}
	if got := Counts([]api.Server{}); len(got) != 0 {
		t.Fatalf("Counts of none: %v", got)
	}
	half := server(1, 1, 2)
	got := Counts([]api.Server{half, server(2, 1, 2), half, server(1, 2, 2), server(1, 1, 3), half})
	want := map[api.Server]int{half: 3, server(2, 1, 2): 1, server(1, 2, 2): 1, server(1, 1, 3): 1}
	if len(got) != len(want) {
		t.Fatalf("Counts: %v; want %v", got, want)
	}
	for s, n := range want {
		if got[s] != n {
			t.Fatalf("Counts: %v %d times; want %d", s, got[s], n)
		}
	}
	holdCounts(t, slices.Repeat([]api.Server{half}, 1000))
}

func TestCountsOfServersThatAreNotLegal(t *testing.T) {
	holdCounts(t, wrongServers())
	holdCounts(t, slices.Concat(wrongServers(), wrongServers()))
	if got := Counts([]api.Server{{}, {}}); got[api.Server{}] != 2 || len(got) != 1 {
		t.Fatalf("Counts of the whole twice: %v", got)
	}
}

func TestCountsOfMany(t *testing.T) {
	random := rand.New(rand.NewSource(90))
	for range 2000 {
		list := make([]api.Server, random.Intn(40))
		for i := range list {
			list[i] = server(random.Intn(3), random.Intn(3), random.Intn(3))
		}
		holdCounts(t, list)
	}
}

// P8.2: the share in any order, and with one more.

// compareShares compares two shares by exact numbers.
func compareShares(a, b api.Part) int {
	return new(big.Int).Mul(bigOf(a.N), bigOf(b.D)).Cmp(new(big.Int).Mul(bigOf(b.N), bigOf(a.D)))
}

func mustShare(t *testing.T, list []api.Server) api.Part {
	t.Helper()
	share, err := Servers(list)
	if err != nil || share.D == (api.Wide{}) {
		t.Fatalf("Servers of %v: %v, %v", list, share, err)
	}
	return share
}

func TestShareInEveryOrderOfFour(t *testing.T) {
	list := []api.Server{server(1, 1, 2), server(2, 3, 7), server(3, 255, 256), server(1, 1, 256)}
	want := mustShare(t, list)
	orders := 0
	everyOrder(list, 0, func(turned []api.Server) {
		orders++
		if share := mustShare(t, turned); compareShares(share, want) != 0 {
			t.Fatalf("Servers of %v: %v; of %v: %v", turned, share, list, want)
		}
	})
	if orders != 24 {
		t.Fatalf("%d orders", orders)
	}
}

// everyOrder tells each order of a list from a place on.
func everyOrder(list []api.Server, place int, tell func([]api.Server)) {
	if place == len(list) {
		tell(list)
		return
	}
	for i := place; i < len(list); i++ {
		turned := slices.Clone(list)
		turned[place], turned[i] = turned[i], turned[place]
		everyOrder(turned, place+1, tell)
	}
}

func TestShareInSeveralOrders(t *testing.T) {
	random := rand.New(rand.NewSource(91))
	for range 5000 {
		list := anyServers(random, random.Intn(api.MaxKids+1))
		want := mustShare(t, list)
		turned := slices.Clone(list)
		slices.Reverse(turned)
		if compareShares(mustShare(t, turned), want) != 0 {
			t.Fatalf("backwards, %v has another share", list)
		}
		random.Shuffle(len(turned), func(i, j int) { turned[i], turned[j] = turned[j], turned[i] })
		if compareShares(mustShare(t, turned), want) != 0 {
			t.Fatalf("%v and %v have two shares", list, turned)
		}
	}
}

func TestShareWithOneServerMore(t *testing.T) {
	random := rand.New(rand.NewSource(92))
	for range 5000 {
		list := anyServers(random, random.Intn(api.MaxKids))
		less := mustShare(t, list)
		for _, one := range []api.Server{anyServer(random), server(1, 1, 256), server(3, 256, 256)} {
			more := mustShare(t, slices.Insert(slices.Clone(list), random.Intn(len(list)+1), one))
			if compareShares(more, less) <= 0 {
				t.Fatalf("with %v, the share of %v isn't greater: %v, %v", one, list, less, more)
			}
		}
	}
}

// Rule 4: what is handed in is neither changed nor kept, and answers are new memory.

func TestListsOfServersAreLeftAlone(t *testing.T) {
	random := rand.New(rand.NewSource(93))
	for n := 0; n <= api.MaxKids+1; n++ {
		room := anyServers(random, n+3)
		was := slices.Clone(room)
		list := room[:n]
		share, err := Servers(list)
		counts := Counts(list)
		if !slices.Equal(room, was) {
			t.Fatalf("a list was changed: %v; want %v", room, was)
		}
		clear(room)
		again, fault := Servers(was[:n])
		if share != again || err != fault {
			t.Fatalf("the share hangs on what lies behind %v", was[:n])
		}
		for s, times := range counts {
			if countByWords(was[:n], s) != times {
				t.Fatalf("the counts of %v changed with the list: %v", was[:n], counts)
			}
		}
	}
}

func TestListsOfTasksAreLeftAlone(t *testing.T) {
	random := rand.New(rand.NewSource(94))
	for n := 0; n <= api.MaxTasks+1; n++ {
		room := append(anyTasks(random, n), api.Task{}, api.Task{})
		was := slices.Clone(room)
		list := room[:n]
		share, err := Tasks(list)
		fault := CheckGuest(api.PolicyOrder, list)
		if !slices.Equal(room, was) {
			t.Fatalf("a list was changed: %v; want %v", room, was)
		}
		tasksIs(t, was[:n:n], share, err)
		checkGuestIs(t, api.PolicyOrder, was[:n:n], fault)
	}
}

func TestCountsAreNewMemory(t *testing.T) {
	list := []api.Server{server(1, 1, 2), server(1, 1, 2)}
	first, second := Counts(list), Counts(list)
	first[list[0]] = 7
	first[server(3, 3, 3)] = 1
	if len(second) != 1 || second[list[0]] != 2 {
		t.Fatalf("two answers of Counts share memory: %v", second)
	}
	if third := Counts(list); len(third) != 1 || third[list[0]] != 2 {
		t.Fatalf("Counts kept what was done to its answer: %v", third)
	}
	none := Counts(nil)
	none[list[0]] = 1
	if got := Counts(nil); len(got) != 0 {
		t.Fatalf("Counts of none kept what was done to its answer: %v", got)
	}
}
