package admit

import (
	"math"
	"math/big"
	"math/rand"
	"slices"

	"almoner/api"
)

// The words of the chapter and of those below it, counted tick by tick, with their numbers written out.

// most is MaxTime.
const most = 1099511627776

// look is MaxLook.
const look = 4096

func server(kind, q, t int) api.Server { return api.Server{Kind: kind, Q: q, T: t} }

func task(c, p, d, s int) api.Task { return api.Task{C: c, P: p, D: d, S: s} }

// whole is the processor itself.
func whole() api.Server { return api.Server{} }

// begin is g: the ticks of a row's beginning.
func begin(s api.Server) int {
	switch s.Kind {
	case 3:
		return s.T - s.Q
	case 1, 2:
		return s.T - 1
	}
	return 0
}

// line is Q, T and d of a parent.
func line(s api.Server) (int, int, int) {
	if s.Kind == 0 {
		return 1, 1, 0
	}
	return s.Q, s.T, begin(s) + s.T - s.Q
}

// supplies is a parent's supply in 0, 1, .. n ticks.
func supplies(s api.Server, n int) []int {
	q, period, _ := line(s)
	sums := make([]int, n+1)
	for tick := range n {
		given := 0
		if tick >= begin(s) && (tick-begin(s))%period >= period-q {
			given = 1
		}
		sums[tick+1] = sums[tick] + given
	}
	return sums
}

// summed turns what is new at each length into what there is in all.
func summed(grown []int) []int {
	for l := 1; l < len(grown); l++ {
		grown[l] += grown[l-1]
	}
	return grown
}

// asks is the demand of servers in 0, 1, .. n ticks: of a deferrable one the first Q ticks of each period, as far as they are there, of the others Q at the end of each.
func asks(list []api.Server, n int) []int {
	grown := make([]int, n+1)
	for _, s := range list {
		if s.Kind == 3 {
			for tick := range n {
				if tick%s.T < s.Q {
					grown[tick+1]++
				}
			}
			continue
		}
		for end := s.T; end <= n; end += s.T {
			grown[end] += s.Q
		}
	}
	return summed(grown)
}

// wants is the request of servers in 0, 1, .. n ticks: Q of each period that has begun, and of a deferrable one a Q more.
func wants(list []api.Server, n int) []int {
	grown := make([]int, n+1)
	for _, s := range list {
		for begin := 0; begin < n; begin += s.T {
			grown[begin+1] += s.Q
		}
		if s.Kind == 3 && n > 0 {
			grown[1] += s.Q
		}
	}
	return summed(grown)
}

// tasksAsk is the demand of tasks in 0, 1, .. n ticks, C of each job whose deadline has come, and, unless that is 0, the greatest S - 1 of those whose D hasn't come.
func tasksAsk(list []api.Task, n int) []int {
	grown := make([]int, n+1)
	for _, k := range list {
		for end := k.D; end <= n; end += k.P {
			grown[end] += k.C
		}
	}
	sums := summed(grown)
	for l, asked := range sums {
		block := 0
		for _, k := range list {
			if k.D > l {
				block = max(block, k.S-1)
			}
		}
		if asked > 0 {
			sums[l] += block
		}
	}
	return sums
}

// tasksWant is the request of the tasks 0 to i in 0, 1, .. n ticks, C of each job that is released ahead of the end, and the greatest S - 1 of the tasks behind them.
func tasksWant(list []api.Task, i, n int) []int {
	grown := make([]int, n+1)
	for place, k := range list {
		if place > i {
			grown[0] = max(grown[0], k.S-1)
			continue
		}
		for begin := 0; begin < n; begin += k.P {
			grown[begin+1] += k.C
		}
	}
	return summed(grown)
}

// far is what is new in each period, counted near the beginning, at any length: every period more brings as much more, from the first on.
func far(l, period, each int, count func(l int) int) int {
	if l <= 4*period {
		return count(l)
	}
	times := l/period - 2
	return times*each + count(l-times*period)
}

func farSupply(s api.Server, l int) int {
	q, period, _ := line(s)
	return far(l, period, q, func(l int) int { return supplies(s, l)[l] })
}

func farAsks(list []api.Server, l int) int {
	n := 0
	for _, s := range list {
		n += far(l, s.T, s.Q, func(l int) int { return asks([]api.Server{s}, l)[l] })
	}
	return n
}

// farTasksAsk is asked beyond every D alone: there nothing may block any more.
func farTasksAsk(list []api.Task, l int) int {
	n := 0
	for _, k := range list {
		n += far(l, k.P, k.C, func(l int) int { return tasksAsk([]api.Task{k}, l)[l] })
	}
	return n
}

// What fits, and why the rest doesn't: the first of the chapter's three that is broken.

type verdict int

const (
	fits verdict = iota
	byShare
	byLine
	byDemand
)

func (v verdict) fault() error {
	if v == fits {
		return nil
	}
	return api.ErrTight
}

func ratio(a, b int) *big.Rat { return big.NewRat(int64(a), int64(b)) }

// above is how much the line of a share, from extra on, is above the parent's at MaxLook.
func above(parent api.Server, share *big.Rat, extra int) *big.Rat {
	q, period, d := line(parent)
	n := new(big.Rat).Mul(share, ratio(look, 1))
	n.Add(n, ratio(extra, 1))
	return n.Sub(n, ratio(q*(look-d), period))
}

func judge(parent api.Server, share *big.Rat, extra int, asked []int) verdict {
	q, period, _ := line(parent)
	if share.Cmp(ratio(q, period)) >= 0 {
		return byShare
	}
	if above(parent, share, extra).Sign() > 0 {
		return byLine
	}
	if len(passed(parent, asked)) > 0 {
		return byDemand
	}
	return fits
}

// passed are the lengths from 1 on at which what is asked is above the parent's supply.
func passed(parent api.Server, asked []int) []int {
	var at []int
	given := supplies(parent, len(asked)-1)
	for l := 1; l < len(asked); l++ {
		if asked[l] > given[l] {
			at = append(at, l)
		}
	}
	return at
}

// serversLine is the share of servers, and twice all their Qs.
func serversLine(list []api.Server) (*big.Rat, int) {
	share, extra := new(big.Rat), 0
	for _, s := range list {
		share.Add(share, ratio(s.Q, s.T))
		extra += 2 * s.Q
	}
	return share, extra
}

// tasksLine is the share of tasks, and all their Cs and the greatest S.
func tasksLine(list []api.Task) (*big.Rat, int) {
	share, extra, longest := new(big.Rat), 0, 0
	for _, k := range list {
		share.Add(share, ratio(k.C, k.P))
		extra += k.C
		longest = max(longest, k.S)
	}
	return share, extra + longest
}

func kidsByWords(parent api.Server, list []api.Server) verdict {
	share, extra := serversLine(list)
	return judge(parent, share, extra, asks(list, look))
}

func deadlineByWords(parent api.Server, tasks []api.Task) verdict {
	share, extra := tasksLine(tasks)
	return judge(parent, share, extra, tasksAsk(tasks, look))
}

// earliest is the least length from 1 to upTo at which what is asked is at most the parent's supply; 0, if there is none.
func earliest(parent api.Server, asked []int, upTo int) int {
	given := supplies(parent, upTo)
	for l := 1; l <= upTo; l++ {
		if asked[l] <= given[l] {
			return l
		}
	}
	return 0
}

func drainByWords(parent api.Server, list []api.Server) int {
	return earliest(parent, wants(list, look), look)
}

func responseByWords(parent api.Server, tasks []api.Task, i int) int {
	return earliest(parent, tasksWant(tasks, i, tasks[i].D), tasks[i].D)
}

// orderByWords tells whether each task has a response.
func orderByWords(parent api.Server, tasks []api.Task) bool {
	for i := range tasks {
		if responseByWords(parent, tasks, i) == 0 {
			return false
		}
	}
	return true
}

// Parents, lists and guests.

// edgeParents are the whole and, of each Kind, periods of 1, 2, 3 and the greatest with Q at its edges and in the middle.
func edgeParents() []api.Server {
	list := []api.Server{whole()}
	for kind := 1; kind <= 3; kind++ {
		for _, period := range []int{1, 2, 3, 10, 100, 255, 256} {
			qs := []int{1, period / 2, period - 1, period}
			slices.Sort(qs)
			for _, q := range slices.Compact(qs) {
				if q >= 1 {
					list = append(list, server(kind, q, period))
				}
			}
		}
	}
	return list
}

func anyParent(random *rand.Rand) api.Server {
	kind := random.Intn(4)
	if kind == 0 {
		return whole()
	}
	period := 1 + random.Intn([]int{4, 20, 256}[random.Intn(3)])
	// Most parents give much: below the others hardly anything fits.
	q := period - random.Intn(1+period/2)
	if random.Intn(4) == 0 {
		q = 1 + random.Intn(period)
	}
	return server(kind, q, period)
}

func anyPeriod(random *rand.Rand) int {
	if random.Intn(3) == 0 {
		return 1 + random.Intn(40)
	}
	return 100 + random.Intn(157)
}

// pieces are n numbers that come to all together.
func pieces(random *rand.Rand, n int, all float64) []float64 {
	list, sum := make([]float64, n), 0.0
	for i := range list {
		list[i] = 0.1 + random.Float64()
		sum += list[i]
	}
	for i := range list {
		list[i] *= all / sum
	}
	return list
}

// near is a part of a parent's share, or a little more than it.
func near(random *rand.Rand, parent api.Server) float64 {
	q, period, _ := line(parent)
	return float64(q) / float64(period) * (0.2 + 0.85*random.Float64())
}

// listFor are n servers with a share that is near to the parent's.
func listFor(random *rand.Rand, parent api.Server, n int) []api.Server {
	kinds := []int{1, 2, 1 + random.Intn(3)}
	list := make([]api.Server, n)
	for i, share := range pieces(random, n, near(random, parent)) {
		period := anyPeriod(random)
		q := min(period, max(1, int(share*float64(period))))
		list[i] = server(kinds[random.Intn(3)], q, period)
	}
	return list
}

// guestFor are n tasks with a share that is near to the parent's, or a part of it.
func guestFor(random *rand.Rand, parent api.Server, n int) []api.Task {
	list := make([]api.Task, n)
	part := []float64{1, 1, 0.3}[random.Intn(3)]
	for i, share := range pieces(random, n, part*near(random, parent)) {
		p := anyPeriod(random)
		c := min(p, max(1, int(share*float64(p))))
		d := p
		if random.Intn(2) == 0 {
			d = c + random.Intn(p-c+1)
		}
		s := []int{0, 1, c, random.Intn(c + 1)}[random.Intn(4)]
		list[i] = task(c, p, d, s)
	}
	return list
}

// Wrong inputs.

// ends are numbers far outside.
func ends() []int { return []int{math.MinInt, math.MinInt + 1, math.MaxInt - 1, math.MaxInt} }

// wrongServers are neither legal nor the whole, many of them beside one that is.
func wrongServers() []api.Server {
	list := []api.Server{
		server(0, 1, 1), server(0, 0, 1), server(0, 1, 0), server(0, -1, 0), server(0, 0, -1), server(0, 2, 5), server(0, 256, 256), server(0, math.MaxInt, math.MinInt),
		server(-1, 0, 0), server(4, 0, 0), server(-1, 2, 5), server(4, 2, 5), server(5, 1, 1), server(math.MinInt, 1, 1), server(math.MaxInt, 1, 1),
	}
	for kind := 1; kind <= 3; kind++ {
		list = append(list, server(kind, 0, 0), server(kind, 0, 1), server(kind, 1, 0), server(kind, 2, 1), server(kind, 6, 5), server(kind, 0, 5), server(kind, -1, 5))
		list = append(list, server(kind, -1, -1), server(kind, -5, -2), server(kind, 1, 257), server(kind, 257, 257), server(kind, 257, 256), server(kind, 0, 256))
		for _, end := range ends() {
			list = append(list, server(kind, end, 5), server(kind, 2, end), server(kind, end, end))
		}
	}
	return list
}

// wrongTasks aren't legal, many of them beside one that is.
func wrongTasks() []api.Task {
	list := []api.Task{
		task(0, 0, 0, 0), task(0, 10, 6, 0), task(-1, 10, 6, -1), task(7, 10, 6, 2), task(2, 10, 11, 2), task(2, 10, 1, 2), task(2, 10, 6, 3), task(2, 10, 6, -1),
		task(2, 5, 6, 2), task(2, 257, 6, 2), task(2, 257, 257, 2), task(2, 256, 257, 2), task(257, 256, 256, 2), task(1, 1, 1, 2), task(1, 1, 0, 0), task(1, 0, 1, 0), task(-2, -1, -1, 0),
	}
	for _, end := range ends() {
		list = append(list, task(end, 10, 6, 2), task(2, end, 6, 2), task(2, 10, end, 2), task(2, 10, 6, end), task(end, end, end, end))
	}
	return list
}

// wrongPolicies are none of the two.
func wrongPolicies() []int {
	return append(ends(), -2, -1, 0, 3, 4, 257)
}
