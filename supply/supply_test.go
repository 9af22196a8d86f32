package supply

import (
	"iter"
	"math"
	"math/big"
	"math/rand"
	"slices"
	"sort"
	"testing"

	"almoner/api"
)

func server(kind, q, t int) api.Server { return api.Server{Kind: kind, Q: q, T: t} }

// The chapter's words, line by line, with its numbers written out.

// most is MaxTime.
const most = 1099511627776

// begin is g: the ticks of the row's beginning.
func begin(s api.Server) int {
	switch s.Kind {
	case 3:
		return s.T - s.Q
	case 1, 2:
		return s.T - 1
	}
	return 0
}

// lay is the first n ticks of a server's row, laid one by one.
func lay(s api.Server, n int) []bool {
	row := make([]bool, 0, n+2*s.T+2)
	for range begin(s) {
		row = append(row, false)
	}
	for len(row) < n {
		if s.Kind == 0 {
			row = append(row, true)
		}
		for range s.T - s.Q {
			row = append(row, false)
		}
		for range s.Q {
			row = append(row, true)
		}
	}
	return row[:n]
}

// count is the supply in 0, 1, .. ticks of a row that was laid.
func count(row []bool) []int {
	sums := make([]int, 1, len(row)+1)
	for _, given := range row {
		n := sums[len(sums)-1]
		if given {
			n++
		}
		sums = append(sums, n)
	}
	return sums
}

// far is the supply in any number of ticks, counted in the row's beginning: behind its first g ticks every T ticks give Q.
func far(s api.Server, l int) int {
	if s.Kind == 0 {
		return l
	}
	near, periods := l, 0
	if l > begin(s)+2*s.T {
		periods = (l - begin(s)) / s.T
		near = l - periods*s.T
	}
	n := periods * s.Q
	for _, given := range lay(s, near) {
		if given {
			n++
		}
	}
	return n
}

// length is how much of a row is laid: its beginning, some whole periods, and a piece.
func length(s api.Server) int { return begin(s) + 4*s.T + 3 }

// smallServers are the whole and every server of short periods.
func smallServers(longest int) []api.Server {
	list := []api.Server{{}}
	for kind := 1; kind <= 3; kind++ {
		for period := 1; period <= longest; period++ {
			for q := 1; q <= period; q++ {
				list = append(list, server(kind, q, period))
			}
		}
	}
	return list
}

// edgeServers are the whole and, of each Kind, periods of 1, 2, 3 and the greatest with Q at its edges and in the middle.
func edgeServers() []api.Server {
	list := []api.Server{{}}
	for kind := 1; kind <= 3; kind++ {
		for _, period := range []int{1, 2, 3, 5, 10, 100, 127, 128, 129, 254, 255, 256} {
			qs := []int{1, 2, period / 3, period / 2, period/2 + 1, period - 2, period - 1, period}
			sort.Ints(qs)
			for _, q := range slices.Compact(qs) {
				if q >= 1 && q <= period {
					list = append(list, server(kind, q, period))
				}
			}
		}
	}
	return list
}

func everyServer() []api.Server { return smallServers(256) }

// wrongServers are those that are neither legal nor the whole, many of them beside one that is.
func wrongServers() []api.Server {
	list := []api.Server{
		server(0, 1, 1), server(0, 0, 1), server(0, 1, 0), server(0, -1, 0), server(0, 0, -1), server(0, 2, 5), server(0, 256, 256),
		server(-1, 0, 0), server(4, 0, 0), server(-1, 2, 5), server(4, 2, 5), server(5, 1, 1), server(math.MinInt, 1, 1), server(math.MaxInt, 1, 1),
	}
	ends := []int{math.MinInt, math.MinInt + 1, math.MaxInt - 1, math.MaxInt}
	for kind := 1; kind <= 3; kind++ {
		list = append(list, server(kind, 0, 0), server(kind, 0, 1), server(kind, 1, 0), server(kind, 2, 1), server(kind, 6, 5), server(kind, 0, 5), server(kind, -1, 5))
		list = append(list, server(kind, -1, -1), server(kind, -5, -2), server(kind, 1, 257), server(kind, 256, 257), server(kind, 257, 257), server(kind, 257, 256), server(kind, 0, 256))
		for _, end := range ends {
			list = append(list, server(kind, end, 5), server(kind, 2, end), server(kind, end, end), server(kind, end, math.MaxInt))
		}
	}
	return list
}

// wrongNumbers are no lengths and no amounts.
func wrongNumbers() []int {
	return []int{math.MinInt, math.MinInt + 1, -most - 1, -most, -257, -2, -1, most + 1, most + 2, 2 * most, math.MaxInt - 1, math.MaxInt}
}

// farNumbers are lengths and amounts up to MaxTime that are much longer than any period.
func farNumbers(s api.Server) []int {
	period := max(1, s.T)
	list := []int{most, most - 1, most - 2, most - period, most - period - 1, most - 2*period + 1, most / 2, most/2 + 1, most / 256, 1<<31 - 1, 1 << 31, 1<<32 - 1, 1 << 32, 1000000007}
	for _, times := range []int{1000, 1 << 20, most/period - 2} {
		end := begin(s) + times*period
		if end < most {
			list = append(list, end-1, end, end+1)
		}
	}
	return list
}

func boundIs(t *testing.T, s api.Server, l, want int, fault error) {
	t.Helper()
	if got, err := Bound(s, l); got != want || err != fault {
		t.Fatalf("Bound of %v, %d: %d, %v; want %d, %v", s, l, got, err, want, fault)
	}
}

func leastIs(t *testing.T, s api.Server, x, want int, fault error) {
	t.Helper()
	if got, err := Least(s, x); got != want || err != fault {
		t.Fatalf("Least of %v, %d: %d, %v; want %d, %v", s, x, got, err, want, fault)
	}
}

func silenceIs(t *testing.T, s api.Server, want int, fault error) {
	t.Helper()
	if got, err := Silence(s); got != want || err != fault {
		t.Fatalf("Silence of %v: %d, %v; want %d, %v", s, got, err, want, fault)
	}
}

func slopeIs(t *testing.T, s api.Server, q, period, d int, fault error) {
	t.Helper()
	a, b, c, err := Slope(s)
	if a != q || b != period || c != d || err != fault {
		t.Fatalf("Slope of %v: %d, %d, %d, %v; want %d, %d, %d, %v", s, a, b, c, err, q, period, d, fault)
	}
}

func rowIs(t *testing.T, s api.Server, want []bool) {
	t.Helper()
	if got := first(Row(s), len(want)); !slices.Equal(got, want) {
		t.Fatalf("Row of %v: %v; want %v", s, text(got), text(want))
	}
}

// first is the first n ticks of a row, or as many as it has.
func first(row iter.Seq[bool], n int) []bool {
	var list []bool
	if n == 0 {
		return list
	}
	for given := range row {
		list = append(list, given)
		if len(list) == n {
			break
		}
	}
	return list
}

// text is a row as the chapter writes it.
func text(row []bool) string {
	letters := make([]byte, len(row))
	for i, given := range row {
		letters[i] = '0'
		if given {
			letters[i] = '1'
		}
	}
	return string(letters)
}

func bound(t *testing.T, s api.Server, l int) int {
	t.Helper()
	n, err := Bound(s, l)
	if err != nil {
		t.Fatalf("Bound of %v, %d: %v", s, l, err)
	}
	return n
}

// The test's own row against the chapter's examples, and its far supply against its near one.

func TestLaidRows(t *testing.T) {
	rows := map[api.Server]string{
		server(3, 2, 5): "000000110001100011",
		server(1, 2, 5): "000000011000110001",
		server(2, 2, 5): "000000011000110001",
		server(1, 1, 1): "111",
		server(3, 1, 1): "111",
		server(1, 3, 3): "001111111",
		server(3, 3, 3): "111111",
		server(2, 1, 2): "0010101",
		server(3, 1, 2): "0010101",
		server(0, 0, 0): "11111",
	}
	for s, want := range rows {
		row := lay(s, len(want))
		if text(row) != want {
			t.Fatalf("the row of %v was laid as %s; want %s", s, text(row), want)
		}
		rowIs(t, s, row)
	}
	for _, s := range smallServers(7) {
		for l, want := range count(lay(s, 60)) {
			if got := far(s, l); got != want {
				t.Fatalf("the far supply of %v in %d ticks: %d; want %d", s, l, got, want)
			}
		}
	}
}

// P10.1: the chapter's examples.

func TestExamples(t *testing.T) {
	deferrable, polling := server(api.KindDeferrable, 2, 5), server(api.KindPolling, 2, 5)
	boundIs(t, deferrable, 8, 2, nil)
	boundIs(t, deferrable, 6, 0, nil)
	boundIs(t, deferrable, 7, 1, nil)
	boundIs(t, polling, 8, 1, nil)
	silenceIs(t, deferrable, 6, nil)
	silenceIs(t, polling, 7, nil)
	slopeIs(t, deferrable, 2, 5, 6, nil)
	boundIs(t, server(api.KindSporadic, 5, 10), 40, 15, nil)
	boundIs(t, server(api.KindPolling, 1, 40), 60, 0, nil)
	boundIs(t, server(api.KindDeferrable, 5, 10), 20, 5, nil)
	boundIs(t, server(api.KindDeferrable, 5, 10), 11, 1, nil)
	boundIs(t, server(api.KindPolling, 2, 10), 10, 0, nil)
}

// P10.1: Bound.

func TestBoundOfSmallServersAtEveryTick(t *testing.T) {
	for _, s := range smallServers(16) {
		for l, want := range count(lay(s, 2*length(s))) {
			boundIs(t, s, l, want, nil)
		}
	}
}

func TestBoundOfEdgeServersAtEveryTick(t *testing.T) {
	for _, s := range edgeServers() {
		for l, want := range count(lay(s, length(s))) {
			boundIs(t, s, l, want, nil)
		}
	}
}

// turns are the ticks at which something of a row begins or ends, and one to each side.
func turns(s api.Server) []int {
	list := []int{0, 1, 2, begin(s) - 1, begin(s), begin(s) + 1}
	for period := range 3 {
		end := begin(s) + (period+1)*s.T
		dry := end - s.Q
		list = append(list, dry-1, dry, dry+1, end-1, end, end+1)
	}
	return slices.DeleteFunc(list, func(l int) bool { return l < 0 })
}

func TestBoundOfEveryServerAtItsTurns(t *testing.T) {
	for _, s := range everyServer() {
		sums := count(lay(s, length(s)))
		for _, l := range turns(s) {
			boundIs(t, s, l, sums[l], nil)
		}
	}
}

func TestBoundAtTheEndOfTheSilence(t *testing.T) {
	for _, s := range edgeServers() {
		d := slices.Index(lay(s, length(s)), true)
		if d > 0 {
			boundIs(t, s, d-1, 0, nil)
		}
		boundIs(t, s, d, 0, nil)
		boundIs(t, s, d+1, 1, nil)
	}
}

func TestBoundFarAway(t *testing.T) {
	random := rand.New(rand.NewSource(101))
	for _, s := range edgeServers() {
		for _, l := range farNumbers(s) {
			boundIs(t, s, l, far(s, l), nil)
		}
		for range 50 {
			l := random.Intn(most + 1)
			boundIs(t, s, l, far(s, l), nil)
		}
	}
}

func TestBoundAtMaxTime(t *testing.T) {
	boundIs(t, server(0, 0, 0), most, most, nil)
	boundIs(t, server(1, 1, 1), most, most, nil)
	boundIs(t, server(3, 256, 256), most, most, nil)
	boundIs(t, server(2, 256, 256), most, most-255, nil)
	// 2^40 ticks are 255 silent ones, 2^32 - 1 periods of 256, and one tick more.
	boundIs(t, server(1, 1, 256), most, 1<<32-1, nil)
	boundIs(t, server(1, 255, 256), most, 255*(1<<32-1), nil)
	boundIs(t, server(3, 255, 256), most, 255*(1<<32-1)+254, nil)
}

func TestBoundOfWrongNumbers(t *testing.T) {
	for _, s := range edgeServers() {
		for _, l := range wrongNumbers() {
			boundIs(t, s, l, 0, api.ErrNumber)
		}
		boundIs(t, s, 0, 0, nil)
		boundIs(t, s, most, far(s, most), nil)
	}
}

// P10.1: Least.

// leastByWords is the least length with a supply of x or more, looked for among the counts.
func leastByWords(sums []int, x int) int {
	return slices.IndexFunc(sums, func(n int) bool { return n >= x })
}

func TestLeastOfSmallServersAtEveryAmount(t *testing.T) {
	for _, s := range smallServers(16) {
		sums := count(lay(s, 2*length(s)))
		for x := range sums[len(sums)-1] + 1 {
			leastIs(t, s, x, leastByWords(sums, x), nil)
		}
	}
}

func TestLeastOfEdgeServersAtEveryAmount(t *testing.T) {
	for _, s := range edgeServers() {
		sums := count(lay(s, length(s)))
		for x := range sums[len(sums)-1] + 1 {
			leastIs(t, s, x, leastByWords(sums, x), nil)
		}
	}
}

func TestLeastOfEveryServerAtItsTurns(t *testing.T) {
	for _, s := range everyServer() {
		sums := count(lay(s, length(s)))
		for _, x := range []int{0, 1, s.Q - 1, s.Q, s.Q + 1, 2 * s.Q, 2*s.Q + 1} {
			if x >= 0 {
				leastIs(t, s, x, leastByWords(sums, x), nil)
			}
		}
	}
}

// leastFar looks for the least length by halves; false, if it is above MaxTime.
func leastFar(s api.Server, x int) (int, bool) {
	l := sort.Search(most+1, func(l int) bool { return far(s, l) >= x })
	return l, l <= most
}

func holdLeastFar(t *testing.T, s api.Server, x int) {
	t.Helper()
	if l, there := leastFar(s, x); there {
		leastIs(t, s, x, l, nil)
	} else {
		leastIs(t, s, x, 0, api.ErrOver)
	}
}

func TestLeastFarAway(t *testing.T) {
	random := rand.New(rand.NewSource(102))
	for _, s := range edgeServers() {
		for _, x := range farNumbers(s) {
			holdLeastFar(t, s, x)
		}
		for range 5 {
			holdLeastFar(t, s, random.Intn(most+1))
			holdLeastFar(t, s, random.Intn(most>>random.Intn(20)+1))
		}
	}
}

func TestLeastOverMaxTime(t *testing.T) {
	over := 0
	for _, s := range edgeServers() {
		last := far(s, most)
		holdLeastFar(t, s, last-1)
		holdLeastFar(t, s, last)
		if l, err := Least(s, last); l < 1 || l > most || err != nil {
			t.Fatalf("Least of %v, %d: %d, %v; want a length", s, last, l, err)
		}
		if last == most {
			leastIs(t, s, last+1, 0, api.ErrNumber)
			continue
		}
		over++
		leastIs(t, s, last+1, 0, api.ErrOver)
		leastIs(t, s, most-1, leastOrNothing(s, most-1), overOrNil(s, most-1))
		leastIs(t, s, most, 0, api.ErrOver)
		leastIs(t, s, most+1, 0, api.ErrNumber)
	}
	if over < 200 {
		t.Fatalf("only %d servers give less than MaxTime in MaxTime", over)
	}
}

func leastOrNothing(s api.Server, x int) int {
	if l, there := leastFar(s, x); there {
		return l
	}
	return 0
}

func overOrNil(s api.Server, x int) error {
	if _, there := leastFar(s, x); there {
		return nil
	}
	return api.ErrOver
}

func TestLeastJustAtMaxTime(t *testing.T) {
	leastIs(t, server(0, 0, 0), most, most, nil)
	leastIs(t, server(2, 1, 1), most, most, nil)
	leastIs(t, server(3, 256, 256), most, most, nil)
	leastIs(t, server(1, 2, 2), most-1, most, nil)
	leastIs(t, server(1, 2, 2), most, 0, api.ErrOver)
	leastIs(t, server(1, 256, 256), most-255, most, nil)
	leastIs(t, server(1, 256, 256), most-254, 0, api.ErrOver)
	// Polling 1/3 gives its tick number x at the end of 2 + 3 x ticks: 2^40 is 1 more than a multiple of 3.
	leastIs(t, server(1, 1, 3), (most-4)/3, most-2, nil)
	leastIs(t, server(1, 1, 3), (most-1)/3, 0, api.ErrOver)
	// Sporadic 1/2 gives it at the end of 1 + 2 x ticks.
	leastIs(t, server(2, 1, 2), most/2-1, most-1, nil)
	leastIs(t, server(2, 1, 2), most/2, 0, api.ErrOver)
	// Of deferrable 255/256, MaxTime is one silent tick, 2^32 - 1 periods, and a period without its last tick.
	leastIs(t, server(3, 255, 256), 255*(1<<32-1)+254, most, nil)
	leastIs(t, server(3, 255, 256), 255*(1<<32-1)+255, 0, api.ErrOver)
}

func TestLeastOfWrongNumbers(t *testing.T) {
	for _, s := range edgeServers() {
		for _, x := range wrongNumbers() {
			leastIs(t, s, x, 0, api.ErrNumber)
		}
		leastIs(t, s, 0, 0, nil)
	}
}

// P10.1: Silence.

func TestSilenceOfEveryServer(t *testing.T) {
	for _, s := range everyServer() {
		silenceIs(t, s, slices.Index(lay(s, length(s)), true), nil)
	}
}

func TestSilenceEdges(t *testing.T) {
	silenceIs(t, server(0, 0, 0), 0, nil)
	for kind := 1; kind <= 2; kind++ {
		silenceIs(t, server(kind, 1, 1), 0, nil)
		silenceIs(t, server(kind, 1, 2), 2, nil)
		silenceIs(t, server(kind, 2, 2), 1, nil)
		silenceIs(t, server(kind, 1, 256), 510, nil)
		silenceIs(t, server(kind, 255, 256), 256, nil)
		silenceIs(t, server(kind, 256, 256), 255, nil)
	}
	silenceIs(t, server(3, 1, 1), 0, nil)
	silenceIs(t, server(3, 1, 2), 2, nil)
	silenceIs(t, server(3, 2, 2), 0, nil)
	silenceIs(t, server(3, 1, 256), 510, nil)
	silenceIs(t, server(3, 255, 256), 2, nil)
	silenceIs(t, server(3, 256, 256), 0, nil)
}

// P10.1: Slope.

func TestSlopeOfEveryServer(t *testing.T) {
	for _, s := range everyServer() {
		if s.Kind == api.KindWhole {
			slopeIs(t, s, 1, 1, 0, nil)
			continue
		}
		slopeIs(t, s, s.Q, s.T, begin(s)+s.T-s.Q, nil)
	}
}

// against compares the supply in l ticks with the line, by exact numbers: -1, 0 or 1, as it is below the line, on it, or above.
func against(t *testing.T, s api.Server, l int) int {
	t.Helper()
	q, period, d, err := Slope(s)
	if err != nil {
		t.Fatalf("Slope of %v: %v", s, err)
	}
	mine := new(big.Int).Mul(big.NewInt(int64(period)), big.NewInt(int64(bound(t, s, l))))
	its := new(big.Int).Mul(big.NewInt(int64(q)), big.NewInt(int64(l-d)))
	return mine.Cmp(its)
}

func TestSlopeIsNeverAboveAndJustMeets(t *testing.T) {
	for _, s := range append(edgeServers(), smallServers(8)...) {
		meets := 0
		for l := range length(s) + 1 {
			side := against(t, s, l)
			if side < 0 {
				t.Fatalf("the supply of %v in %d ticks is below its line", s, l)
			}
			if side == 0 {
				meets++
			}
		}
		if meets < 3 {
			t.Fatalf("the supply of %v meets its line %d times", s, meets)
		}
	}
}

func TestSlopeFarAway(t *testing.T) {
	random := rand.New(rand.NewSource(103))
	for _, s := range edgeServers() {
		for _, l := range farNumbers(s) {
			if against(t, s, l) < 0 {
				t.Fatalf("the supply of %v in %d ticks is below its line", s, l)
			}
		}
		_, period, d, _ := Slope(s)
		for range 20 {
			if against(t, s, random.Intn(most+1)) < 0 {
				t.Fatalf("the supply of %v is below its line", s)
			}
			if l := d + period*random.Intn(most/period-3); against(t, s, l) != 0 {
				t.Fatalf("the supply of %v in %d ticks doesn't meet its line", s, l)
			}
		}
	}
}

// P10.1: Row.

func TestRowOfMany(t *testing.T) {
	for _, s := range append(edgeServers(), smallServers(12)...) {
		rowIs(t, s, lay(s, length(s)))
	}
}

func TestRowOfEveryServer(t *testing.T) {
	for _, s := range everyServer() {
		rowIs(t, s, lay(s, begin(s)+s.T+1))
	}
}

func TestRowGoesOn(t *testing.T) {
	const long = 300000
	for _, s := range []api.Server{{}, server(1, 1, 1), server(1, 2, 5), server(2, 1, 256), server(3, 255, 256), server(3, 256, 256), server(1, 256, 256), server(3, 1, 2)} {
		rowIs(t, s, lay(s, long))
	}
}

func TestRowIsBound(t *testing.T) {
	for _, s := range edgeServers() {
		l, n := 0, 0
		for given := range Row(s) {
			boundIs(t, s, l, n, nil)
			l++
			if given {
				n++
			}
			boundIs(t, s, l, n, nil)
			if l == length(s) {
				break
			}
		}
	}
}

func TestRowStopsWhenTold(t *testing.T) {
	for _, s := range smallServers(6) {
		for stop := 1; stop <= length(s); stop++ {
			asked := 0
			Row(s)(func(bool) bool {
				asked++
				return asked < stop
			})
			if asked != stop {
				t.Fatalf("Row of %v told %d ticks; want %d", s, asked, stop)
			}
		}
	}
}

func TestRowBeginsAnew(t *testing.T) {
	for _, s := range edgeServers() {
		row := Row(s)
		want := lay(s, length(s))
		for _, n := range []int{1, begin(s) + 1, begin(s) + s.T + 1, length(s), 2, length(s)} {
			if got := first(row, n); !slices.Equal(got, want[:n]) {
				t.Fatalf("Row of %v, gone over again: %s; want %s", s, text(got), text(want[:n]))
			}
		}
	}
}

func TestRowInRow(t *testing.T) {
	for _, s := range smallServers(4) {
		row := Row(s)
		want := lay(s, length(s))
		var outer []bool
		for given := range row {
			outer = append(outer, given)
			if inner := first(row, len(outer)); !slices.Equal(inner, want[:len(outer)]) {
				t.Fatalf("Row of %v, gone over inside itself: %s; want %s", s, text(inner), text(want[:len(outer)]))
			}
			if len(outer) == len(want) {
				break
			}
		}
		if !slices.Equal(outer, want) {
			t.Fatalf("Row of %v, gone over around itself: %s; want %s", s, text(outer), text(want))
		}
	}
}

func TestRowsSideBySide(t *testing.T) {
	servers := []api.Server{server(1, 2, 5), server(3, 2, 5), {}, server(2, 3, 4), server(1, 0, 5)}
	var nexts []func() (bool, bool)
	for _, s := range servers {
		next, stop := iter.Pull(Row(s))
		defer stop()
		nexts = append(nexts, next)
	}
	for place := range 100 {
		for i, s := range servers[:4] {
			if given, ok := nexts[i](); !ok || given != lay(s, 100)[place] {
				t.Fatalf("Row of %v at %d beside others: %v, %v", s, place, given, ok)
			}
		}
		if given, ok := nexts[4](); given || ok {
			t.Fatalf("Row of %v: %v, %v; want nothing", servers[4], given, ok)
		}
	}
}

// P10.1: servers that are neither legal nor the whole.

func TestWrongServersAtEveryCall(t *testing.T) {
	numbers := append(wrongNumbers(), 0, 1, 2, 5, 8, 100, most-1, most)
	for _, s := range wrongServers() {
		for _, n := range numbers {
			boundIs(t, s, n, 0, api.ErrServer)
			leastIs(t, s, n, 0, api.ErrServer)
		}
		silenceIs(t, s, 0, api.ErrServer)
		slopeIs(t, s, 0, 0, 0, api.ErrServer)
		rowIsEmpty(t, s)
	}
}

func rowIsEmpty(t *testing.T, s api.Server) {
	t.Helper()
	row := Row(s)
	if row == nil {
		t.Fatalf("Row of %v is no iterator", s)
	}
	for range 2 {
		if got := first(row, 10); len(got) != 0 {
			t.Fatalf("Row of %v: %s; want nothing", s, text(got))
		}
	}
}

func TestServersAtEveryBound(t *testing.T) {
	numbers := []int{math.MinInt, -257, -256, -5, -1, 0, 1, 2, 3, 4, 5, 255, 256, 257, 258, math.MaxInt}
	right := 0
	for _, kind := range numbers {
		for _, q := range numbers {
			for _, period := range numbers {
				s := server(kind, q, period)
				legal := kind >= 1 && kind <= 3 && q >= 1 && q <= period && period <= 256
				if legal || kind == 0 && q == 0 && period == 0 {
					right++
					boundIs(t, s, 600, far(s, 600), nil)
					silenceIs(t, s, slices.Index(lay(s, 600), true), nil)
					continue
				}
				boundIs(t, s, 600, 0, api.ErrServer)
				leastIs(t, s, 1, 0, api.ErrServer)
				silenceIs(t, s, 0, api.ErrServer)
				slopeIs(t, s, 0, 0, 0, api.ErrServer)
				rowIsEmpty(t, s)
			}
		}
	}
	if right != 1+3*28 {
		t.Fatalf("%d servers were right", right)
	}
}

func TestPollingAndSporadicAreAlike(t *testing.T) {
	for _, s := range edgeServers() {
		if s.Kind != api.KindPolling {
			continue
		}
		other := server(api.KindSporadic, s.Q, s.T)
		for l := range length(s) {
			boundIs(t, other, l, bound(t, s, l), nil)
		}
		rowIs(t, other, first(Row(s), length(s)))
	}
}

// P10.2: the supply never falls, grows by 1 at most, and two intervals give at least both supplies.

func TestSupplyGrowsByOneAtMost(t *testing.T) {
	random := rand.New(rand.NewSource(104))
	for _, s := range append(edgeServers(), smallServers(8)...) {
		for l := range length(s) {
			holdGrowth(t, s, l)
		}
		for range 50 {
			holdGrowth(t, s, random.Intn(most))
		}
		holdGrowth(t, s, most-1)
	}
}

func holdGrowth(t *testing.T, s api.Server, l int) {
	t.Helper()
	if grown := bound(t, s, l+1) - bound(t, s, l); grown != 0 && grown != 1 {
		t.Fatalf("the supply of %v grows by %d at %d", s, grown, l)
	}
}

func holdTwoIntervals(t *testing.T, s api.Server, a, b int) {
	t.Helper()
	if both, one, other := bound(t, s, a+b), bound(t, s, a), bound(t, s, b); both < one+other {
		t.Fatalf("the supply of %v in %d and %d ticks is %d, less than %d and %d", s, a, b, both, one, other)
	}
}

func TestTwoIntervalsOfSmallServers(t *testing.T) {
	for _, s := range smallServers(9) {
		for a := range length(s) {
			for b := range length(s) {
				holdTwoIntervals(t, s, a, b)
			}
		}
	}
}

func TestTwoIntervalsOfEdgeServers(t *testing.T) {
	random := rand.New(rand.NewSource(105))
	for _, s := range edgeServers() {
		for _, a := range turns(s) {
			for _, b := range turns(s) {
				holdTwoIntervals(t, s, a, b)
			}
		}
		for range 200 {
			a := random.Intn(most + 1)
			holdTwoIntervals(t, s, a, random.Intn(most-a+1))
			holdTwoIntervals(t, s, a, most-a)
			holdTwoIntervals(t, s, random.Intn(2*length(s)), random.Intn(2*length(s)))
		}
	}
}

// P10.3: Least and Bound belong to one another.

func holdBoundOfLeast(t *testing.T, s api.Server, x int) {
	t.Helper()
	l, err := Least(s, x)
	if err == api.ErrOver {
		if n := bound(t, s, most); n >= x {
			t.Fatalf("Least of %v, %d is over; the supply in MaxTime is %d", s, x, n)
		}
		return
	}
	if err != nil {
		t.Fatalf("Least of %v, %d: %v", s, x, err)
	}
	boundIs(t, s, l, x, nil)
	if x == 0 {
		leastIs(t, s, x, 0, nil)
		return
	}
	if less := bound(t, s, l-1); less != x-1 {
		t.Fatalf("Bound of %v, one tick less than Least of %d: %d", s, x, less)
	}
}

func TestBoundOfLeast(t *testing.T) {
	random := rand.New(rand.NewSource(106))
	for _, s := range append(edgeServers(), smallServers(8)...) {
		for x := range 4*s.Q + 4 {
			holdBoundOfLeast(t, s, x)
		}
		last := bound(t, s, most)
		for range 50 {
			holdBoundOfLeast(t, s, random.Intn(last+1))
			holdBoundOfLeast(t, s, random.Intn(most+1))
		}
		holdBoundOfLeast(t, s, last-1)
		holdBoundOfLeast(t, s, last)
		holdBoundOfLeast(t, s, most)
	}
}

func TestLeastOfBound(t *testing.T) {
	random := rand.New(rand.NewSource(107))
	for _, s := range edgeServers() {
		lengths := append(turns(s), farNumbers(s)...)
		for range 50 {
			lengths = append(lengths, random.Intn(most+1))
		}
		for _, l := range lengths {
			x := bound(t, s, l)
			least, err := Least(s, x)
			if err != nil || least > l {
				t.Fatalf("Least of %v, %d: %d, %v; want %d at most", s, x, least, err, l)
			}
		}
	}
}

// Rule 7: an answer hangs on what was given, not on what was asked before.

func TestAnswersStay(t *testing.T) {
	s := server(3, 2, 5)
	row := Row(s)
	for _, other := range append(edgeServers(), wrongServers()...) {
		first(Row(other), 20)
		Bound(other, 100)
		Least(other, 100)
		boundIs(t, s, 8, 2, nil)
		leastIs(t, s, 2, 8, nil)
		silenceIs(t, s, 6, nil)
		slopeIs(t, s, 2, 5, 6, nil)
	}
	if got := text(first(row, 13)); got != "0000001100011" {
		t.Fatalf("a row changed with what was asked behind it: %s", got)
	}
}
