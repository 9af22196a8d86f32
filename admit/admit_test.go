package admit

import (
	"math"
	"math/big"
	"math/rand"
	"slices"
	"testing"

	"almoner/api"
)

// What a call must answer.

func kidsIs(t *testing.T, parent api.Server, list []api.Server, fault error) {
	t.Helper()
	if err := Kids(parent, list); err != fault {
		t.Fatalf("Kids of %v, %v: %v; want %v", parent, list, err, fault)
	}
}

func drainIs(t *testing.T, parent api.Server, list []api.Server, want int, fault error) {
	t.Helper()
	if got, err := Drain(parent, list); got != want || err != fault {
		t.Fatalf("Drain of %v, %v: %d, %v; want %d, %v", parent, list, got, err, want, fault)
	}
}

func guestIs(t *testing.T, parent api.Server, policy int, tasks []api.Task, fault error) {
	t.Helper()
	if err := Guest(parent, policy, tasks); err != fault {
		t.Fatalf("Guest of %v, %d, %v: %v; want %v", parent, policy, tasks, err, fault)
	}
}

func responseIs(t *testing.T, parent api.Server, tasks []api.Task, i, want int, fault error) {
	t.Helper()
	if got, err := Response(parent, tasks, i); got != want || err != fault {
		t.Fatalf("Response of %v, %v, %d: %d, %v; want %d, %v", parent, tasks, i, got, err, want, fault)
	}
}

// holdServers asks both calls of servers, and tells what the words say.
func holdServers(t *testing.T, parent api.Server, list []api.Server) verdict {
	t.Helper()
	v := kidsByWords(parent, list)
	kidsIs(t, parent, list, v.fault())
	if v != fits {
		drainIs(t, parent, list, 0, api.ErrTight)
		return v
	}
	drain := drainByWords(parent, list)
	if drain == 0 {
		t.Fatalf("%v fit below %v, and their requests are never given", list, parent)
	}
	drainIs(t, parent, list, drain, nil)
	return v
}

// holdDeadline asks for a guest under PolicyDeadline, and tells what the words say.
func holdDeadline(t *testing.T, parent api.Server, tasks []api.Task) verdict {
	t.Helper()
	v := deadlineByWords(parent, tasks)
	guestIs(t, parent, api.PolicyDeadline, tasks, v.fault())
	return v
}

// holdOrder asks for a guest under PolicyOrder and for the response of each task, and tells whether the words say that it fits.
func holdOrder(t *testing.T, parent api.Server, tasks []api.Task) bool {
	t.Helper()
	for i := range tasks {
		want := responseByWords(parent, tasks, i)
		if want == 0 {
			responseIs(t, parent, tasks, i, 0, api.ErrTight)
			continue
		}
		responseIs(t, parent, tasks, i, want, nil)
	}
	fit := orderByWords(parent, tasks)
	if fit {
		guestIs(t, parent, api.PolicyOrder, tasks, nil)
	} else {
		guestIs(t, parent, api.PolicyOrder, tasks, api.ErrTight)
	}
	return fit
}

// The test's own counts, against one another.

func TestCountsOfTheTest(t *testing.T) {
	random := rand.New(rand.NewSource(1201))
	for range 60 {
		parent := anyParent(random)
		list, tasks := listFor(random, parent, 1+random.Intn(8)), guestFor(random, parent, 1+random.Intn(8))
		given, asked, due := supplies(parent, look), asks(list, look), tasksAsk(tasks, look)
		for l := 300; l <= look; l += 1 + random.Intn(200) {
			if farSupply(parent, l) != given[l] || farAsks(list, l) != asked[l] || farTasksAsk(tasks, l) != due[l] {
				t.Fatalf("the far counts of %v, %v, %v in %d ticks aren't the near ones", parent, list, tasks, l)
			}
		}
	}
}

// P12.1: the chapter's examples, and those of the whole document and of the tree's chapter.

func TestExamples(t *testing.T) {
	kidsIs(t, whole(), []api.Server{server(1, 1, 2), server(1, 1, 3)}, nil)
	kidsIs(t, whole(), []api.Server{server(1, 1, 2), server(2, 1, 2)}, api.ErrTight)
	half := server(api.KindDeferrable, 5, 10)
	kidsIs(t, half, []api.Server{server(1, 1, 20)}, nil)
	kidsIs(t, server(1, 2, 10), []api.Server{server(1, 1, 10)}, api.ErrTight)
	tasks := []api.Task{task(1, 20, 20, 1)}
	guestIs(t, half, api.PolicyDeadline, tasks, nil)
	guestIs(t, half, api.PolicyOrder, tasks, nil)
	responseIs(t, half, tasks, 0, 11, nil)
}

func TestExamplesOfOthers(t *testing.T) {
	half := server(api.KindSporadic, 5, 10)
	kidsIs(t, whole(), []api.Server{half}, nil)
	kidsIs(t, half, []api.Server{server(1, 1, 40)}, nil)
	kidsIs(t, whole(), []api.Server{half, half}, api.ErrTight)
	late := []api.Task{task(1, 60, 60, 0)}
	guestIs(t, server(1, 1, 40), api.PolicyDeadline, late, api.ErrTight)
	guestIs(t, server(3, 5, 10), api.PolicyDeadline, late, nil)
	two := []api.Server{server(1, 2, 10)}
	drainIs(t, whole(), two, 2, nil)
	kidsIs(t, whole(), append(two, server(1, 9, 10)), api.ErrTight)
	kidsIs(t, whole(), []api.Server{server(1, 9, 10)}, nil)
}

// P12.1: many parents, lists and guests.

func TestManyLists(t *testing.T) {
	random := rand.New(rand.NewSource(1202))
	// By the parent's Kind, and by what the words say.
	counts := [4][4]int{}
	for range 12000 {
		parent := anyParent(random)
		counts[parent.Kind][holdServers(t, parent, listFor(random, parent, 1+random.Intn(8)))]++
	}
	for kind, of := range counts {
		// Below the whole those that aren't deferrable pass the supply nowhere: there are fewer of that.
		if of[fits] < 100 || of[byShare] < 50 || of[byLine] < 100 || of[byDemand] < 20 {
			t.Errorf("of lists below Kind %d these were asked: %v", kind, of)
		}
	}
}

func TestManyGuestsByDeadline(t *testing.T) {
	random := rand.New(rand.NewSource(1203))
	counts := [4][4]int{}
	for range 8000 {
		parent := anyParent(random)
		counts[parent.Kind][holdDeadline(t, parent, guestFor(random, parent, 1+random.Intn(8)))]++
	}
	for kind, of := range counts {
		if of[fits] < 50 || of[byShare] < 20 || of[byLine] < 30 || of[byDemand] < 100 {
			t.Errorf("of guests in Kind %d these were asked: %v", kind, of)
		}
	}
}

func TestManyGuestsByOrder(t *testing.T) {
	random := rand.New(rand.NewSource(1204))
	counts := [4][2]int{}
	for range 12000 {
		parent := anyParent(random)
		fit := 0
		if holdOrder(t, parent, guestFor(random, parent, 1+random.Intn(8))) {
			fit = 1
		}
		counts[parent.Kind][fit]++
	}
	for kind, of := range counts {
		if of[0] < 200 || of[1] < 100 {
			t.Errorf("of guests in Kind %d these were asked: %v", kind, of)
		}
	}
}

// smallServers are all servers of short periods.
func smallServers(longest int) []api.Server {
	var list []api.Server
	for kind := 1; kind <= 3; kind++ {
		for period := 1; period <= longest; period++ {
			for q := 1; q <= period; q++ {
				list = append(list, server(kind, q, period))
			}
		}
	}
	return list
}

func TestSmallServersBelowSmallServers(t *testing.T) {
	fitted := 0
	for _, parent := range append(smallServers(4), whole()) {
		for _, kid := range smallServers(7) {
			if holdServers(t, parent, []api.Server{kid}) == fits {
				fitted++
			}
		}
	}
	if fitted < 100 {
		t.Fatalf("only %d fit", fitted)
	}
}

func TestSmallTasks(t *testing.T) {
	fitted := [3]int{}
	for _, parent := range append(smallServers(3), whole(), server(3, 9, 10)) {
		for p := 1; p <= 9; p++ {
			for d := 1; d <= p; d++ {
				for c := 1; c <= d; c++ {
					// Behind another with S of 0, 1 and C, and ahead of it.
					for _, s := range []int{0, 1, c} {
						one := task(c, p, d, s)
						for _, tasks := range [][]api.Task{{one}, {one, task(1, 20, 6, 0)}, {task(1, 20, 6, 0), one}} {
							if holdOrder(t, parent, tasks) {
								fitted[2]++
							}
						}
						if holdDeadline(t, parent, []api.Task{one, task(1, 20, 6, 0)}) == fits {
							fitted[1]++
						}
					}
				}
			}
		}
	}
	if fitted[1] < 500 || fitted[2] < 1000 {
		t.Fatalf("only %v fit", fitted)
	}
}

// P12.1: shares that are the parent's, or nearly.

func TestShares(t *testing.T) {
	for _, parent := range edgeParents() {
		q, period, _ := line(parent)
		same := server(1, q, period)
		if holdServers(t, parent, []api.Server{same}) != byShare {
			t.Fatalf("the share of %v is that of %v", same, parent)
		}
		if holdDeadline(t, parent, []api.Task{task(q, period, period, 0)}) != byShare {
			t.Fatalf("the share of a task %d/%d is that of %v", q, period, parent)
		}
		for _, kid := range []api.Server{server(1, q, min(256, period+1)), server(2, max(1, q-1), period), server(3, min(q+1, period), period), server(1, 1, 1)} {
			holdServers(t, parent, []api.Server{kid})
			holdDeadline(t, parent, []api.Task{task(kid.Q, kid.T, kid.T, 1)})
		}
	}
}

func TestSharesBesideOne(t *testing.T) {
	kidsIs(t, whole(), []api.Server{server(1, 1, 2), server(2, 1, 3), server(1, 1, 6)}, api.ErrTight)
	kidsIs(t, whole(), []api.Server{server(1, 1, 2), server(2, 1, 3), server(1, 1, 7)}, nil)
	kidsIs(t, whole(), []api.Server{server(1, 1, 2), server(2, 1, 3), server(1, 1, 5)}, api.ErrTight)
	// 254/255 and 1/256 are a 65280th less than 1, and pass no supply; but twice 255 is more than is left at MaxLook.
	little := []api.Server{server(1, 254, 255), server(1, 1, 256)}
	if at := passed(whole(), asks(little, look)); len(at) != 0 {
		t.Fatalf("the demand passes the supply at %v", at)
	}
	kidsIs(t, whole(), little, api.ErrTight)
	kidsIs(t, whole(), []api.Server{server(1, 254, 255), server(1, 2, 256)}, api.ErrTight)
	guestIs(t, whole(), api.PolicyDeadline, []api.Task{task(254, 255, 255, 0), task(1, 256, 256, 0)}, api.ErrTight)
}

// Under PolicyOrder no share is asked for: a guest may take all of the parent.
func TestOrderTakesAll(t *testing.T) {
	guestIs(t, whole(), api.PolicyOrder, []api.Task{task(1, 2, 2, 0), task(2, 4, 4, 0)}, nil)
	responseIs(t, whole(), []api.Task{task(1, 2, 2, 0), task(2, 4, 4, 0)}, 1, 4, nil)
	guestIs(t, whole(), api.PolicyOrder, []api.Task{task(1, 1, 1, 1)}, nil)
	guestIs(t, whole(), api.PolicyOrder, []api.Task{task(256, 256, 256, 256)}, nil)
	guestIs(t, whole(), api.PolicyDeadline, []api.Task{task(1, 1, 1, 1)}, api.ErrTight)
	guestIs(t, whole(), api.PolicyOrder, []api.Task{task(1, 1, 1, 0), task(1, 256, 256, 0)}, api.ErrTight)
}

// P12.1: lines that meet at MaxLook, and that miss one another by the least.

// piece is a part q / t of a share.
type piece struct{ q, t int }

func inverse(n, of int) int {
	for i := 1; i < of; i++ {
		if n*i%of == 1 {
			return i
		}
	}
	return 0
}

// slivers are parts of odd prime periods whose line, from each q counted more times, is at MaxLook a whole number that more divides, and sign times the least: more over the product of the periods. (No line of such parts is nearer to such a number.) That number is told, and the least.
func slivers(primes []int, sign, more int) ([]piece, *big.Rat, *big.Rat) {
	product := 1
	for _, p := range primes {
		product *= p
	}
	least := ratio(sign*more, product)
	var list []piece
	sum := new(big.Rat).Neg(least)
	for _, p := range primes {
		q := more * inverse(look%p*(product/p%p)%p, p) % p
		if sign < 0 {
			q = p - q
		}
		list = append(list, piece{q, p})
		sum.Add(sum, ratio(q*(look+more*p), p))
	}
	return list, sum, least
}

// filled adds parts of periods of 256 and 128 whose line at MaxLook is just n.
func filled(list []piece, n, more int) ([]piece, bool) {
	for b := range 128 {
		a := (n - b*(32+more)) / (16 + more)
		if a < 0 || a > 255 || a*(16+more)+b*(32+more) != n {
			continue
		}
		for _, p := range []piece{{a, 256}, {b, 128}} {
			if p.q > 0 {
				list = append(list, p)
			}
		}
		return list, true
	}
	return nil, false
}

// bent is a list whose line misses the target by sign times the least at MaxLook, or false, if these primes make none.
func bent(random *rand.Rand, target, sign, more int) ([]piece, *big.Rat, bool) {
	if sign == 0 {
		some := piece{1 + random.Intn(10), 64}
		list, ok := filled([]piece{some}, target-some.q*(64+more), more)
		return list, new(big.Rat), ok
	}
	primes := []int{101, 103, 107, 109, 113, 127, 131, 137, 139, 149, 151, 157, 163, 167, 173, 179, 181, 191, 193, 197, 199, 211, 223, 227, 229, 233, 239, 241, 251}
	random.Shuffle(len(primes), func(i, j int) { primes[i], primes[j] = primes[j], primes[i] })
	primes = primes[:2+random.Intn(3)]
	list, sum, least := slivers(primes, sign, more)
	if !sum.IsInt() || sum.Cmp(ratio(target, 1)) > 0 {
		return nil, nil, false
	}
	list, ok := filled(list, target-int(sum.Num().Int64()), more)
	return list, least, ok
}

// meetingParents have a line that is a whole number at MaxLook, and even.
func meetingParents() []api.Server {
	return []api.Server{whole(), server(1, 1, 1), server(2, 1, 1), server(3, 1, 1), server(3, 7, 7), server(1, 3, 3), server(2, 5, 5), server(3, 2, 4), server(3, 12, 16)}
}

// findBent asks for lists that miss the target by sign times the least, till there are enough that hang on the line alone.
func findBent(t *testing.T, parent api.Server, sign, more, target int, hold func(list []piece, least *big.Rat) bool) {
	t.Helper()
	random := rand.New(rand.NewSource(1205))
	found := 0
	for tries := 0; tries < 40000 && found < 12; tries++ {
		if list, least, ok := bent(random, target, sign, more); ok && hold(list, least) {
			found++
		}
	}
	if found < 12 {
		t.Fatalf("only %d lists miss the line of %v by %d times the least", found, parent, sign)
	}
}

func TestLinesOfServers(t *testing.T) {
	for _, parent := range meetingParents() {
		q, period, d := line(parent)
		for sign := -1; sign <= 1; sign++ {
			findBent(t, parent, sign, 2, q*(look-d)/period, func(list []piece, least *big.Rat) bool {
				var kids []api.Server
				for i, p := range list {
					kids = append(kids, server(1+i%2, p.q, p.t))
				}
				share, extra := serversLine(kids)
				if above(parent, share, extra).Cmp(least) != 0 {
					t.Fatalf("the line of %v isn't %v above that of %v", kids, least, parent)
				}
				if len(passed(parent, asks(kids, look))) > 0 {
					return false
				}
				if v := holdServers(t, parent, kids); (v == fits) != (sign <= 0) {
					t.Fatalf("%v below %v: %v", kids, parent, v)
				}
				return true
			})
		}
	}
}

func TestLinesOfTasks(t *testing.T) {
	for _, parent := range meetingParents() {
		q, period, d := line(parent)
		for sign := -1; sign <= 1; sign++ {
			for _, longest := range []int{0, 1} {
				findBent(t, parent, sign, 1, q*(look-d)/period-longest, func(list []piece, least *big.Rat) bool {
					var tasks []api.Task
					for _, p := range list {
						tasks = append(tasks, task(p.q, p.t, p.t, 0))
					}
					tasks[len(tasks)-1].S = longest
					share, extra := tasksLine(tasks)
					if above(parent, share, extra).Cmp(least) != 0 {
						t.Fatalf("the line of %v isn't %v above that of %v", tasks, least, parent)
					}
					if len(passed(parent, tasksAsk(tasks, look))) > 0 {
						return false
					}
					if v := holdDeadline(t, parent, tasks); (v == fits) != (sign <= 0) {
						t.Fatalf("%v in %v: %v", tasks, parent, v)
					}
					return true
				})
			}
		}
	}
}

// fullBent are lists of MaxKids parts, found by a search, six of them slivers: above the line of the whole by the least, or below it, and by less than a float of that size can tell.
func fullBent(sign, more int) [][]piece {
	switch {
	case sign > 0 && more == 2:
		return [][]piece{{{22, 127}, {27, 103}, {3, 137}, {12, 167}, {2, 181}, {47, 193}, {31, 256}, {3, 128}}, {{39, 173}, {11, 101}, {6, 103}, {40, 131}, {1, 233}, {12, 239}, {31, 256}, {7, 128}}}
	case sign < 0 && more == 2:
		return [][]piece{{{7, 113}, {1, 173}, {10, 197}, {5, 137}, {39, 127}, {67, 251}, {36, 256}, {6, 128}}, {{20, 127}, {65, 181}, {11, 101}, {17, 211}, {13, 199}, {8, 197}, {26, 256}, {1, 128}}}
	case sign > 0:
		return [][]piece{{{3, 223}, {54, 167}, {13, 127}, {30, 241}, {32, 139}, {16, 199}, {8, 256}, {7, 128}}, {{10, 101}, {12, 167}, {10, 131}, {22, 173}, {47, 223}, {25, 127}, {16, 256}, {15, 128}}}
	}
	return [][]piece{{{1, 127}, {42, 223}, {20, 137}, {19, 139}, {52, 241}, {21, 193}, {13, 256}, {13, 128}}, {{26, 199}, {25, 241}, {30, 151}, {13, 149}, {30, 157}, {1, 163}, {51, 256}, {5, 128}}}
}

// missIs asks that a line misses that of the whole by sign times the least, but by a little.
func missIs(t *testing.T, list []piece, sign, more int, miss *big.Rat) {
	t.Helper()
	want := ratio(sign*more, 1)
	for _, p := range list[:6] {
		want.Quo(want, ratio(p.t, 1))
	}
	if miss.Cmp(want) != 0 || miss.Abs(miss).Cmp(ratio(1, 1<<40)) > 0 {
		t.Fatalf("%v misses the line by %v; want %v", list, miss, want)
	}
}

func TestLinesOfFullLists(t *testing.T) {
	for _, sign := range []int{-1, 1} {
		fault := error(nil)
		if sign > 0 {
			fault = api.ErrTight
		}
		for _, list := range fullBent(sign, 2) {
			var kids []api.Server
			for _, p := range list {
				kids = append(kids, server(2, p.q, p.t))
			}
			share, extra := serversLine(kids)
			missIs(t, list, sign, 2, above(whole(), share, extra))
			passedAt(t, whole(), asks(kids, look))
			kidsIs(t, whole(), kids, fault)
		}
		for _, list := range fullBent(sign, 1) {
			var tasks []api.Task
			for _, p := range list {
				tasks = append(tasks, task(p.q, p.t, p.t, 0))
			}
			share, extra := tasksLine(tasks)
			missIs(t, list, sign, 1, above(whole(), share, extra))
			passedAt(t, whole(), tasksAsk(tasks, look))
			guestIs(t, whole(), api.PolicyDeadline, tasks, fault)
		}
	}
}

func TestLinesThatMeet(t *testing.T) {
	// 2048 + 2, and 1984 + 62: 4096.
	kidsIs(t, whole(), []api.Server{server(1, 1, 2), server(1, 31, 64)}, nil)
	kidsIs(t, whole(), []api.Server{server(1, 1, 2), server(2, 31, 63)}, api.ErrTight)
	// 255/256 passes the supply of the whole nowhere; 4080 + 510 is above 4096.
	kidsIs(t, whole(), []api.Server{server(1, 255, 256)}, api.ErrTight)
	// 3792 + 237, and 64 + 2: 4095, and the greatest S, not all of them.
	for _, of := range []struct {
		one, two int
		fault    error
	}{{0, 0, nil}, {1, 0, nil}, {0, 1, nil}, {1, 1, nil}, {2, 0, api.ErrTight}, {0, 2, api.ErrTight}, {2, 1, api.ErrTight}, {237, 0, api.ErrTight}} {
		guestIs(t, whole(), api.PolicyDeadline, []api.Task{task(237, 256, 256, of.one), task(2, 128, 128, of.two)}, of.fault)
		guestIs(t, whole(), api.PolicyDeadline, []api.Task{task(2, 128, 128, of.two), task(237, 256, 256, of.one)}, of.fault)
	}
}

// P12.1: demands that are just the supply at a length, and above it by one.

func TestDemandsThatMeet(t *testing.T) {
	turned := [2]int{}
	for _, parent := range append(edgeParents(), smallServers(6)...) {
		given := supplies(parent, 256)
		for l := 1; l <= 256; l++ {
			if x := given[l]; x > 0 && x < l && (l < 30 || given[l-1] < x && l%3 == 0) {
				if holdServers(t, parent, []api.Server{server(1, x, l)}) == fits && holdServers(t, parent, []api.Server{server(2, x+1, l)}) == byDemand {
					turned[0]++
				}
				if holdDeadline(t, parent, []api.Task{task(x, 256, l, 0)}) == fits && holdDeadline(t, parent, []api.Task{task(x+1, 256, l, 0)}) == byDemand {
					turned[1]++
				}
			}
		}
	}
	if turned[0] < 100 || turned[1] < 100 {
		t.Fatalf("only %v turned on one tick", turned)
	}
}

func TestDemandsAtOneLength(t *testing.T) {
	// The supply of deferrable 5/10 is 0 in 10 ticks, 1 in 11, 2 in 12.
	half := server(3, 5, 10)
	kidsIs(t, half, []api.Server{server(1, 1, 11)}, nil)
	kidsIs(t, half, []api.Server{server(1, 1, 10)}, api.ErrTight)
	kidsIs(t, half, []api.Server{server(1, 2, 11)}, api.ErrTight)
	kidsIs(t, half, []api.Server{server(2, 2, 12)}, nil)
	kidsIs(t, half, []api.Server{server(1, 1, 11), server(2, 1, 12)}, nil)
	kidsIs(t, half, []api.Server{server(1, 1, 11), server(2, 1, 11)}, api.ErrTight)
	guestIs(t, half, api.PolicyDeadline, []api.Task{task(2, 50, 12, 2)}, nil)
	guestIs(t, half, api.PolicyDeadline, []api.Task{task(2, 50, 11, 2)}, api.ErrTight)
}

func passedAt(t *testing.T, parent api.Server, asked []int, want ...int) {
	t.Helper()
	if at := passed(parent, asked); !slices.Equal(at, want) {
		t.Fatalf("the supply of %v is passed at %v; want %v", parent, at, want)
	}
}

func TestDemandsThatPassAtOne(t *testing.T) {
	two := []api.Server{server(3, 1, 100), server(3, 1, 200)}
	passedAt(t, whole(), asks(two, look), 1)
	kidsIs(t, whole(), two, api.ErrTight)
	drainIs(t, whole(), two, 0, api.ErrTight)
	kidsIs(t, whole(), two[:1], nil)
	drainIs(t, whole(), two[:1], 2, nil)
	// A parent that may be silent for a tick gives nothing to one that may ask at once.
	kidsIs(t, server(3, 255, 256), []api.Server{server(3, 1, 256)}, api.ErrTight)
	kidsIs(t, server(3, 256, 256), []api.Server{server(3, 1, 256)}, nil)
	kidsIs(t, server(1, 1, 1), []api.Server{server(3, 1, 256)}, nil)
	kidsIs(t, server(1, 2, 2), []api.Server{server(3, 1, 256)}, api.ErrTight)
	tasks := []api.Task{task(1, 100, 1, 0), task(1, 100, 1, 0)}
	passedAt(t, whole(), tasksAsk(tasks, look), 1)
	guestIs(t, whole(), api.PolicyDeadline, tasks, api.ErrTight)
	guestIs(t, whole(), api.PolicyDeadline, tasks[:1], nil)
	guestIs(t, whole(), api.PolicyDeadline, []api.Task{tasks[0], task(2, 100, 100, 2)}, api.ErrTight)
	guestIs(t, whole(), api.PolicyDeadline, []api.Task{tasks[0], task(2, 100, 100, 1)}, nil)
}

func TestDemandsThatPassAtMaxLook(t *testing.T) {
	for _, p := range [][2]piece{{{122, 256}, {11, 21}}, {{44, 256}, {29, 35}}, {{138, 256}, {18, 39}}} {
		kids := []api.Server{server(1, p[0].q, p[0].t), server(2, p[1].q, p[1].t)}
		tasks := []api.Task{task(p[0].q, p[0].t, p[0].t, 1), task(p[1].q, p[1].t, p[1].t, 0)}
		passedAt(t, whole(), asks(kids, look), look)
		passedAt(t, whole(), tasksAsk(tasks, look), look)
		kidsIs(t, whole(), kids, api.ErrTight)
		drainIs(t, whole(), kids, 0, api.ErrTight)
		guestIs(t, whole(), api.PolicyDeadline, tasks, api.ErrTight)
	}
}

func TestDemandsThatPassInTheMiddleAlone(t *testing.T) {
	// Polling 128/256 may be silent for 383 ticks: nothing fits, however little it asks for.
	kidsIs(t, server(1, 128, 256), []api.Server{server(1, 1, 256)}, api.ErrTight)
	guestIs(t, server(1, 128, 256), api.PolicyDeadline, []api.Task{task(1, 256, 256, 0)}, api.ErrTight)
	guestIs(t, server(1, 128, 256), api.PolicyOrder, []api.Task{task(1, 256, 256, 0)}, api.ErrTight)
	random := rand.New(rand.NewSource(1206))
	alone := 0
	for range 3000 {
		parent := anyParent(random)
		list := listFor(random, parent, 2)
		at := passed(parent, asks(list, look))
		if len(at) != 1 || at[0] == 1 || at[0] == look {
			continue
		}
		if holdServers(t, parent, list) == byDemand {
			alone++
		}
	}
	if alone < 5 {
		t.Fatalf("only %d lists pass the supply at one length", alone)
	}
}

// P12.1: what may block.

func TestBlocking(t *testing.T) {
	// Of deferrable 8/10 the supply in 9 ticks is 5.
	parent := server(3, 8, 10)
	for s := range 8 {
		tasks := []api.Task{task(2, 100, 9, 0), task(7, 100, 100, s)}
		fault := error(nil)
		if 2+max(0, s-1) > 5 {
			fault = api.ErrTight
		}
		guestIs(t, parent, api.PolicyDeadline, tasks, fault)
		guestIs(t, parent, api.PolicyOrder, tasks, fault)
		// Under PolicyDeadline the place in the list is nothing; under PolicyOrder the first may run ahead, all of it.
		other := []api.Task{tasks[1], tasks[0]}
		guestIs(t, parent, api.PolicyDeadline, other, fault)
		guestIs(t, parent, api.PolicyOrder, other, api.ErrTight)
		responseIs(t, parent, other, 0, 11, nil)
		responseIs(t, parent, other, 1, 0, api.ErrTight)
	}
	responseIs(t, parent, []api.Task{task(2, 100, 9, 0), task(7, 100, 100, 4)}, 0, 9, nil)
	responseIs(t, parent, []api.Task{task(2, 100, 9, 0), task(7, 100, 100, 3)}, 0, 8, nil)
	responseIs(t, parent, []api.Task{task(2, 100, 9, 0), task(7, 100, 100, 1)}, 0, 6, nil)
	responseIs(t, parent, []api.Task{task(2, 100, 9, 0), task(7, 100, 100, 0)}, 0, 6, nil)
}

// P12.1: responses.

func TestResponsesAtTheDeadline(t *testing.T) {
	held := 0
	for _, parent := range append(edgeParents(), smallServers(6)...) {
		given := supplies(parent, 256)
		for l := 1; l <= 256; l++ {
			x := given[l]
			if x == given[l-1] || l > 60 && l%7 != 0 {
				continue
			}
			held++
			for _, s := range []int{0, 1, x} {
				responseIs(t, parent, []api.Task{task(x, 256, 256, s)}, 0, l, nil)
				responseIs(t, parent, []api.Task{task(x, 256, l, s)}, 0, l, nil)
				guestIs(t, parent, api.PolicyOrder, []api.Task{task(x, 256, l, s)}, nil)
				if x < l {
					responseIs(t, parent, []api.Task{task(x, 256, l-1, s)}, 0, 0, api.ErrTight)
					guestIs(t, parent, api.PolicyOrder, []api.Task{task(x, 256, l-1, s)}, api.ErrTight)
				}
			}
		}
	}
	if held < 1000 {
		t.Fatalf("only %d responses were asked for", held)
	}
}

func TestResponsesOfSome(t *testing.T) {
	three := []api.Task{task(1, 4, 4, 0), task(2, 6, 6, 0), task(3, 13, 13, 0)}
	responseIs(t, whole(), three, 0, 1, nil)
	responseIs(t, whole(), three, 1, 3, nil)
	responseIs(t, whole(), three, 2, 10, nil)
	guestIs(t, whole(), api.PolicyOrder, three, nil)
	// One task's response may be there, and another's not: the guest doesn't fit.
	three[1].D = 2
	responseIs(t, whole(), three, 0, 1, nil)
	responseIs(t, whole(), three, 1, 0, api.ErrTight)
	responseIs(t, whole(), three, 2, 10, nil)
	guestIs(t, whole(), api.PolicyOrder, three, api.ErrTight)
	three[1].D, three[2].D = 6, 9
	responseIs(t, whole(), three, 2, 0, api.ErrTight)
	guestIs(t, whole(), api.PolicyOrder, three, api.ErrTight)
	// Of the second the two ticks that it doesn't give up: the first may wait for one of them, and then is late.
	two := []api.Task{task(2, 4, 2, 0), task(2, 4, 4, 2)}
	responseIs(t, whole(), two, 0, 0, api.ErrTight)
	responseIs(t, whole(), two, 1, 4, nil)
	guestIs(t, whole(), api.PolicyOrder, two, api.ErrTight)
	two[1].S = 1
	responseIs(t, whole(), two, 0, 2, nil)
	guestIs(t, whole(), api.PolicyOrder, two, nil)
}

func TestEveryPlace(t *testing.T) {
	random := rand.New(rand.NewSource(1207))
	for n := 1; n <= 8; n++ {
		for range 20 {
			parent := anyParent(random)
			tasks := guestFor(random, parent, n)
			holdOrder(t, parent, tasks)
			for _, i := range append(ends(), -n-1, -n, -2, -1, n, n+1, 8, 9, 1<<32) {
				if i < 0 || i >= n {
					responseIs(t, parent, tasks, i, 0, api.ErrNumber)
				}
			}
		}
	}
}

// P12.1: empty lists, and those with MaxKids servers or MaxTasks tasks, and one more.

func TestEmptyLists(t *testing.T) {
	for _, parent := range append(edgeParents(), smallServers(12)...) {
		for _, list := range [][]api.Server{nil, {}, make([]api.Server, 0, 4)} {
			kidsIs(t, parent, list, nil)
			drainIs(t, parent, list, 1, nil)
		}
		for _, tasks := range [][]api.Task{nil, {}, make([]api.Task, 0, 4)} {
			for _, policy := range append(wrongPolicies(), 1, 2) {
				guestIs(t, parent, policy, tasks, api.ErrTask)
			}
			for _, i := range append(ends(), -1, 0, 1) {
				responseIs(t, parent, tasks, i, 0, api.ErrTask)
			}
		}
	}
}

func TestFullLists(t *testing.T) {
	small := server(2, 1, 256)
	for n := range 9 {
		kidsIs(t, whole(), slices.Repeat([]api.Server{small}, n), nil)
		drainIs(t, whole(), slices.Repeat([]api.Server{small}, n), max(1, n), nil)
	}
	for _, n := range []int{9, 10, 64, 300} {
		for _, parent := range edgeParents() {
			kidsIs(t, parent, slices.Repeat([]api.Server{small}, n), api.ErrFull)
			drainIs(t, parent, slices.Repeat([]api.Server{small}, n), 0, api.ErrFull)
			// They wouldn't fit either: ErrFull comes ahead.
			kidsIs(t, parent, slices.Repeat([]api.Server{server(1, 256, 256)}, n), api.ErrFull)
			drainIs(t, parent, slices.Repeat([]api.Server{server(1, 256, 256)}, n), 0, api.ErrFull)
		}
	}
}

func TestFullGuests(t *testing.T) {
	for n := 1; n <= 8; n++ {
		tasks := slices.Repeat([]api.Task{task(1, 256, 256, 1)}, n)
		guestIs(t, whole(), api.PolicyDeadline, tasks, nil)
		guestIs(t, whole(), api.PolicyOrder, tasks, nil)
		for i := range n {
			responseIs(t, whole(), tasks, i, i+1, nil)
		}
	}
	for _, n := range []int{9, 10, 64, 300} {
		tasks := slices.Repeat([]api.Task{task(1, 256, 256, 1)}, n)
		for _, parent := range edgeParents() {
			guestIs(t, parent, api.PolicyDeadline, tasks, api.ErrTask)
			guestIs(t, parent, api.PolicyOrder, tasks, api.ErrTask)
			for _, i := range []int{-1, 0, 7, 8, n - 1, n} {
				responseIs(t, parent, tasks, i, 0, api.ErrTask)
			}
		}
	}
}

// The greatest list: every number is as great as it may be.
func TestGreatest(t *testing.T) {
	for kind := 1; kind <= 3; kind++ {
		list := slices.Repeat([]api.Server{server(kind, 256, 256)}, 8)
		for _, parent := range edgeParents() {
			holdServers(t, parent, list)
			holdServers(t, parent, []api.Server{server(kind, 1, 256), server(kind, 1, 255), server(kind, 1, 253), server(kind, 1, 251), server(kind, 1, 247), server(kind, 1, 241), server(kind, 1, 239), server(kind, 1, 233)})
		}
	}
	for _, parent := range edgeParents() {
		holdDeadline(t, parent, slices.Repeat([]api.Task{task(256, 256, 256, 256)}, 8))
		holdOrder(t, parent, slices.Repeat([]api.Task{task(256, 256, 256, 256)}, 8))
		holdOrder(t, parent, slices.Repeat([]api.Task{task(1, 256, 256, 0)}, 8))
	}
}

// P12.1: wrong inputs.

func TestWrongParents(t *testing.T) {
	for _, parent := range wrongServers() {
		// Whatever else is wrong comes behind it.
		for _, list := range [][]api.Server{nil, {server(1, 1, 256)}, {server(1, 256, 256)}, {whole()}, {server(9, 9, 9)}, slices.Repeat([]api.Server{server(1, 1, 256)}, 9)} {
			kidsIs(t, parent, list, api.ErrServer)
			drainIs(t, parent, list, 0, api.ErrServer)
		}
		for _, tasks := range [][]api.Task{nil, {task(1, 256, 256, 0)}, {task(256, 256, 256, 0)}, {task(0, 0, 0, 0)}, slices.Repeat([]api.Task{task(1, 256, 256, 0)}, 9)} {
			for policy := range 4 {
				guestIs(t, parent, policy, tasks, api.ErrServer)
			}
			for _, i := range []int{math.MinInt, -1, 0, 1, math.MaxInt} {
				responseIs(t, parent, tasks, i, 0, api.ErrServer)
			}
		}
	}
}

func TestWrongServersAtEveryPlace(t *testing.T) {
	for _, parent := range []api.Server{whole(), server(1, 1, 1), server(2, 9, 10), server(3, 1, 256)} {
		for _, n := range []int{1, 2, 8, 9, 20} {
			for _, wrong := range append(wrongServers(), whole()) {
				for place := range n {
					list := slices.Repeat([]api.Server{server(1, 1, 256)}, n)
					list[place] = wrong
					kidsIs(t, parent, list, api.ErrServer)
					drainIs(t, parent, list, 0, api.ErrServer)
					// They wouldn't fit either: ErrServer comes ahead.
					list[(place+1)%n] = server(1, 256, 256)
					list[place] = wrong
					kidsIs(t, parent, list, api.ErrServer)
					drainIs(t, parent, list, 0, api.ErrServer)
				}
			}
		}
	}
}

func TestWrongTasksAtEveryPlace(t *testing.T) {
	for _, parent := range []api.Server{whole(), server(1, 1, 1), server(2, 9, 10), server(3, 1, 256)} {
		for _, n := range []int{1, 2, 8, 9} {
			for _, wrong := range wrongTasks() {
				for place := range n {
					tasks := slices.Repeat([]api.Task{task(1, 256, 256, 0)}, n)
					tasks[(place+1)%n] = task(256, 256, 1+255*(place%2), 0)
					tasks[place] = wrong
					guestIs(t, parent, api.PolicyDeadline, tasks, api.ErrTask)
					guestIs(t, parent, api.PolicyOrder, tasks, api.ErrTask)
					// A wrong task behind number i is one all the same, and comes ahead of a wrong i.
					for _, i := range []int{math.MinInt, -1, 0, place, n - 1, n, math.MaxInt} {
						responseIs(t, parent, tasks, i, 0, api.ErrTask)
					}
				}
			}
		}
	}
}

func TestWrongPolicies(t *testing.T) {
	for _, parent := range edgeParents() {
		for _, policy := range wrongPolicies() {
			guestIs(t, parent, policy, []api.Task{task(1, 256, 256, 0)}, api.ErrTask)
			guestIs(t, parent, policy, []api.Task{task(256, 256, 256, 0)}, api.ErrTask)
		}
	}
}

// A wrong number comes ahead of a guest that doesn't fit.
func TestNumberAheadOfTight(t *testing.T) {
	tasks := []api.Task{task(256, 256, 256, 0), task(256, 256, 256, 0)}
	for _, parent := range edgeParents() {
		for _, i := range append(ends(), -1, 2, 3) {
			responseIs(t, parent, tasks, i, 0, api.ErrNumber)
		}
	}
}

func TestServersAtEveryBound(t *testing.T) {
	numbers := []int{math.MinInt, -256, -1, 0, 1, 2, 3, 4, 255, 256, 257, math.MaxInt}
	right := 0
	for _, kind := range numbers {
		for _, q := range numbers {
			for _, period := range numbers {
				s := server(kind, q, period)
				if kind >= 1 && kind <= 3 && q >= 1 && q <= period && period <= 256 {
					right++
					holdServers(t, whole(), []api.Server{s})
					holdServers(t, s, []api.Server{server(1, 1, 200)})
					holdDeadline(t, s, []api.Task{task(1, 200, 200, 0)})
					holdOrder(t, s, []api.Task{task(1, 200, 200, 0)})
					continue
				}
				kidsIs(t, whole(), []api.Server{s}, api.ErrServer)
				if s != whole() {
					kidsIs(t, s, nil, api.ErrServer)
					guestIs(t, s, api.PolicyDeadline, []api.Task{task(1, 200, 200, 0)}, api.ErrServer)
					responseIs(t, s, []api.Task{task(1, 200, 200, 0)}, 0, 0, api.ErrServer)
				}
			}
		}
	}
	// Of the six numbers 1, 2, 3, 4, 255 and 256: Q <= T, of each of three Kinds.
	if right != 3*21 {
		t.Fatalf("%d servers were right", right)
	}
}

// P12.1: Drain's length has requests of at most the supply, and no shorter one has.

func TestDrains(t *testing.T) {
	drainIs(t, whole(), []api.Server{server(1, 1, 2), server(1, 1, 3)}, 2, nil)
	drainIs(t, whole(), []api.Server{server(1, 1, 2), server(1, 31, 64)}, 62, nil)
	// A Q more of a deferrable one, from the first tick on.
	drainIs(t, whole(), []api.Server{server(3, 2, 10)}, 4, nil)
	drainIs(t, whole(), []api.Server{server(3, 2, 10), server(1, 3, 10)}, 7, nil)
	drainIs(t, server(3, 5, 10), []api.Server{server(1, 1, 20)}, 11, nil)
	drainIs(t, server(2, 5, 10), []api.Server{server(1, 1, 40)}, 15, nil)
	random := rand.New(rand.NewSource(1208))
	longest, found := 0, 0
	for range 4000 {
		parent := anyParent(random)
		list := listFor(random, parent, 1+random.Intn(8))
		drain, err := Drain(parent, list)
		if err != nil {
			continue
		}
		found++
		longest = max(longest, drain)
		wanted, given := wants(list, look), supplies(parent, look)
		for l := 1; l < drain; l++ {
			if wanted[l] <= given[l] {
				t.Fatalf("Drain of %v, %v is %d; %d would do", parent, list, drain, l)
			}
		}
		if wanted[drain] > given[drain] {
			t.Fatalf("Drain of %v, %v is %d: %d wanted, %d given", parent, list, drain, wanted[drain], given[drain])
		}
	}
	if found < 500 || longest < 300 {
		t.Fatalf("%d drains, the longest of %d ticks", found, longest)
	}
}

// P12.2: of servers that fit fewer fit too; of a guest that fits under PolicyOrder its first tasks do.

func TestFewerServersFitToo(t *testing.T) {
	random := rand.New(rand.NewSource(1209))
	found := 0
	for found < 120 {
		parent := anyParent(random)
		list := listFor(random, parent, 1+random.Intn(8))
		if Kids(parent, list) != nil {
			continue
		}
		found++
		for chosen := range 1 << len(list) {
			var fewer []api.Server
			for i, s := range list {
				if chosen>>i&1 == 1 {
					fewer = append(fewer, s)
				}
			}
			kidsIs(t, parent, fewer, nil)
		}
	}
}

func TestFirstTasksFitToo(t *testing.T) {
	random := rand.New(rand.NewSource(1210))
	found := 0
	for found < 2000 {
		parent := anyParent(random)
		tasks := guestFor(random, parent, 2+random.Intn(7))
		if Guest(parent, api.PolicyOrder, tasks) != nil {
			continue
		}
		found++
		for n := 1; n <= len(tasks); n++ {
			guestIs(t, parent, api.PolicyOrder, tasks[:n], nil)
		}
	}
}

// P12.3: what fits has demands of at most the supply beyond MaxLook too.

// farLengths are lengths beyond MaxLook, MaxTime and those around periods' ends among them.
func farLengths(random *rand.Rand, parent api.Server, periods []int) []int {
	list := []int{look + 1, look + 2, 2 * look, 65536, 1<<31 - 1, 1 << 31, 1<<32 + 1, most - 1, most}
	_, period, d := line(parent)
	for _, p := range append(slices.Clone(periods), period) {
		for _, times := range []int{look/p + 1, look/p + 2, look/p + 3 + random.Intn(1000), random.Intn(most/p-5000) + 4097, most / p} {
			// The parent's supply is at its line just ahead of a tick that is given, d ticks behind a period's end.
			list = append(list, times*p, min(most, times*p+d))
		}
	}
	for range 10 {
		list = append(list, look+1+random.Intn(5000), look+1+random.Intn(most-look))
	}
	return list
}

func TestServersFitBeyondMaxLook(t *testing.T) {
	random := rand.New(rand.NewSource(1211))
	for found := 0; found < 300; {
		parent := anyParent(random)
		list := listFor(random, parent, 1+random.Intn(8))
		if Kids(parent, list) != nil {
			continue
		}
		found++
		var periods []int
		for _, s := range list {
			periods = append(periods, s.T)
		}
		for _, l := range farLengths(random, parent, periods) {
			if asked, given := farAsks(list, l), farSupply(parent, l); l > most || asked > given {
				t.Fatalf("%v fit below %v; in %d ticks they ask for %d of %d", list, parent, l, asked, given)
			}
		}
	}
}

func TestGuestsFitBeyondMaxLook(t *testing.T) {
	random := rand.New(rand.NewSource(1212))
	for found := 0; found < 300; {
		parent := anyParent(random)
		tasks := guestFor(random, parent, 1+random.Intn(8))
		if Guest(parent, api.PolicyDeadline, tasks) != nil {
			continue
		}
		found++
		var periods []int
		for _, k := range tasks {
			periods = append(periods, k.P)
		}
		for _, l := range farLengths(random, parent, periods) {
			if asked, given := farTasksAsk(tasks, l), farSupply(parent, l); l > most || asked > given {
				t.Fatalf("%v fit into %v; in %d ticks they ask for %d of %d", tasks, parent, l, asked, given)
			}
		}
	}
}

// What passes the supply only beyond MaxLook doesn't fit.
func TestDemandsThatPassBeyondMaxLook(t *testing.T) {
	// Shares of 1 and, of the product of both periods, one part more: at the product the demand is one above it, and not ahead of that.
	for _, p := range [][2]piece{{{1, 255}, {255, 256}}, {{169, 253}, {85, 256}}} {
		list := []api.Server{server(1, p[0].q, p[0].t), server(2, p[1].q, p[1].t)}
		tasks := []api.Task{task(p[0].q, p[0].t, p[0].t, 0), task(p[1].q, p[1].t, p[1].t, 0)}
		all := p[0].t * p[1].t
		if farAsks(list, all) != all+1 || farTasksAsk(tasks, all) != all+1 {
			t.Fatalf("in %d ticks %v ask for %d", all, list, farAsks(list, all))
		}
		passedAt(t, whole(), asks(list, look))
		passedAt(t, whole(), tasksAsk(tasks, look))
		kidsIs(t, whole(), list, api.ErrTight)
		guestIs(t, whole(), api.PolicyDeadline, tasks, api.ErrTight)
	}
}

// Rule 4: lists are neither changed nor kept, spare room included, and what lies behind them isn't read.

func TestListsAreLeftAlone(t *testing.T) {
	random := rand.New(rand.NewSource(1213))
	for range 200 {
		parent := anyParent(random)
		n := 1 + random.Intn(8)
		servers := append(listFor(random, parent, n), server(9, 9, 9), server(3, 256, 256))
		tasks := append(guestFor(random, parent, n), task(9, 9, 9, 99), task(256, 256, 256, 256))
		oldServers, oldTasks := slices.Clone(servers), slices.Clone(tasks)
		holdServers(t, parent, servers[:n])
		holdDeadline(t, parent, tasks[:n])
		holdOrder(t, parent, tasks[:n])
		Kids(parent, servers)
		Drain(parent, servers[:n+1])
		Guest(parent, api.PolicyOrder, tasks)
		Response(parent, tasks[:n+1], 0)
		Response(parent, tasks[:n], n)
		if !slices.Equal(servers, oldServers) || !slices.Equal(tasks, oldTasks) {
			t.Fatalf("a call changed its list: %v, %v; want %v, %v", servers, tasks, oldServers, oldTasks)
		}
	}
}

// Rule 7: an answer hangs on what was given, not on what was asked before.

func TestAnswersStay(t *testing.T) {
	list := []api.Server{server(1, 1, 2), server(1, 1, 3)}
	tasks := []api.Task{task(1, 20, 20, 1)}
	for _, other := range append(edgeParents(), wrongServers()...) {
		Kids(other, list)
		Drain(whole(), []api.Server{other, other})
		Guest(other, api.PolicyOrder, tasks)
		Response(other, tasks, 3)
		kidsIs(t, whole(), list, nil)
		drainIs(t, whole(), list, 2, nil)
		guestIs(t, whole(), api.PolicyDeadline, tasks, nil)
		responseIs(t, server(3, 5, 10), tasks, 0, 11, nil)
	}
}
