package queue

import (
	"math"
	"math/rand"
	"slices"
	"testing"

	"almoner/api"
)

// spare lies in the room behind the length of the lists that are handed in.
const spare = -987654321

// roomy is a list with spare room behind its length.
func roomy(numbers ...int) []int {
	list := slices.Concat(numbers, []int{spare, spare, spare})
	return list[:len(numbers)]
}

// untouched asks that a list that was made by roomy, and its spare room, are as they were.
func untouched(t *testing.T, list, want []int) {
	t.Helper()
	if !slices.Equal(list, want) {
		t.Fatalf("what was handed in was changed: %v; want %v", list, want)
	}
	for _, number := range list[len(list):cap(list)][:3] {
		if number != spare {
			t.Fatalf("the room behind %v was changed", list)
		}
	}
}

// plainLeast is Least by the chapter's words: again and again the first of the least that weren't taken.
func plainLeast(ranks []int, n int) []int {
	var places []int
	taken := make([]bool, len(ranks))
	for len(places) < n && len(places) < len(ranks) {
		best := -1
		for place, rank := range ranks {
			if !taken[place] && (best < 0 || rank < ranks[best]) {
				best = place
			}
		}
		taken[best] = true
		places = append(places, best)
	}
	return places
}

// plainMerge is Merge by the chapter's words.
func plainMerge(lists ...[]int) []int {
	var merged []int
	at := make([]int, len(lists))
	for {
		best := -1
		for i, list := range lists {
			if at[i] < len(list) && (best < 0 || list[at[i]] < lists[best][at[best]]) {
				best = i
			}
		}
		if best < 0 {
			return merged
		}
		merged = append(merged, lists[best][at[best]])
		at[best]++
	}
}

func leastIs(t *testing.T, ranks []int, n int, want ...int) {
	t.Helper()
	if got := Least(ranks, n); !slices.Equal(got, want) {
		t.Fatalf("Least of %v, %d: %v; want %v", ranks, n, got, want)
	}
}

func mergeIs(t *testing.T, lists [][]int, want ...int) {
	t.Helper()
	if got := Merge(lists...); !slices.Equal(got, want) {
		t.Fatalf("Merge of %v: %v; want %v", lists, got, want)
	}
}

// numbers is n numbers from a range, below 0 too.
func numbers(r *rand.Rand, n, span int) []int {
	list := make([]int, n)
	for i := range list {
		list[i] = r.Intn(span) - span/2
	}
	return list
}

// P7.1, of Least and Merge.

func TestTheExamplesOfLists(t *testing.T) {
	leastIs(t, []int{4, 1, 4, 0}, 3, 3, 1, 0)
	mergeIs(t, [][]int{{1, 5, 2}, {3, 3}}, 1, 3, 3, 5, 2)
}

func TestLeastAtItsEdges(t *testing.T) {
	ranks := []int{4, 1, 4, 0}
	for _, n := range []int{math.MinInt, -5, -1, 0} {
		leastIs(t, ranks, n)
		leastIs(t, nil, n)
		leastIs(t, []int{}, n)
	}
	leastIs(t, ranks, 1, 3)
	leastIs(t, ranks, 2, 3, 1)
	for _, n := range []int{4, 5, 6, 1000, math.MaxInt} {
		leastIs(t, ranks, n, 3, 1, 0, 2)
	}
	for _, n := range []int{1, 2, math.MaxInt} {
		leastIs(t, nil, n)
		leastIs(t, []int{}, n)
		leastIs(t, []int{9}, n, 0)
	}
	leastIs(t, []int{5, 5, 5, 5, 5}, 3, 0, 1, 2)
	leastIs(t, []int{5, 5, 5, 5, 5}, 9, 0, 1, 2, 3, 4)
	leastIs(t, []int{7, 5, 7, 5, 7}, 4, 1, 3, 0, 2)
	leastIs(t, []int{math.MaxInt, math.MinInt, 0, -1, math.MinInt, math.MaxInt}, 6, 1, 4, 3, 2, 0, 5)
}

func TestLeastOfManyRanks(t *testing.T) {
	r := rand.New(rand.NewSource(71))
	for range 1500 {
		size := r.Intn(60)
		ranks := numbers(r, size, 1+r.Intn(1+r.Intn(100)))
		n := r.Intn(size+6) - 2
		leastIs(t, ranks, n, plainLeast(ranks, n)...)
	}
	// More ranks than a queue holds things, with many that are equal.
	ranks := numbers(r, api.MaxQueue+500, 50)
	leastIs(t, ranks, 300, plainLeast(ranks, 300)...)
	if got := Least(ranks, len(ranks)); len(got) != len(ranks) {
		t.Fatalf("%d places of %d", len(got), len(ranks))
	}
}

func TestMergeAtItsEdges(t *testing.T) {
	mergeIs(t, nil)
	mergeIs(t, [][]int{})
	mergeIs(t, [][]int{nil})
	mergeIs(t, [][]int{nil, {}, nil})
	mergeIs(t, [][]int{{6}}, 6)
	mergeIs(t, [][]int{nil, {3, 4}, {}, {1}, nil}, 1, 3, 4)
	mergeIs(t, [][]int{{math.MaxInt}, {math.MinInt}, {0}, {-1, math.MaxInt}}, math.MinInt, -1, 0, math.MaxInt, math.MaxInt)
	mergeIs(t, [][]int{{math.MinInt, math.MinInt}, {math.MinInt}}, math.MinInt, math.MinInt, math.MinInt)
}

func TestMergeOfListsThatFall(t *testing.T) {
	mergeIs(t, [][]int{{3, 2, 1}}, 3, 2, 1)
	mergeIs(t, [][]int{{3, 2, 1}, {6, 5, 4}}, 3, 2, 1, 6, 5, 4)
	mergeIs(t, [][]int{{6, 5, 4}, {3, 2, 1}}, 3, 2, 1, 6, 5, 4)
	mergeIs(t, [][]int{{2, 9, 0}, {5, 1, 7}}, 2, 5, 1, 7, 9, 0)
	mergeIs(t, [][]int{{math.MaxInt, math.MinInt}, {0}}, 0, math.MaxInt, math.MinInt)
}

func TestMergeTakesOfEqualNumbersThatOfTheEarliestList(t *testing.T) {
	// What stands behind an equal number tells whose it is.
	mergeIs(t, [][]int{{5, 2}, {5, 1}}, 5, 2, 5, 1)
	mergeIs(t, [][]int{{5, 1}, {5, 2}}, 5, 1, 5, 2)
	mergeIs(t, [][]int{{5}, {5, 2}}, 5, 5, 2)
	mergeIs(t, [][]int{{5, 2}, {5}}, 5, 2, 5)
	mergeIs(t, [][]int{nil, {5, 4}, {5, 3}, {5, 2}, {5, 1}}, 5, 4, 5, 3, 5, 2, 5, 1)
	mergeIs(t, [][]int{{7, 4}, {5, 7, 3}, {6, 7, 2}}, 5, 6, 7, 4, 7, 3, 7, 2)
	for _, order := range orders(6) {
		var lists [][]int
		var want []int
		for _, i := range order {
			lists = append(lists, []int{9, i})
			want = append(want, 9, i)
		}
		mergeIs(t, lists, want...)
	}
}

func TestMergeOfManyLists(t *testing.T) {
	r := rand.New(rand.NewSource(73))
	for range 3000 {
		lists := make([][]int, r.Intn(12))
		span := 1 + r.Intn(20)
		for i := range lists {
			lists[i] = numbers(r, r.Intn(10), span)
			if r.Intn(3) == 0 {
				slices.Sort(lists[i])
			}
		}
		mergeIs(t, lists, plainMerge(lists...)...)
	}
	// More lists than a queue holds things.
	lists := make([][]int, api.MaxQueue+200)
	for i := range lists {
		lists[i] = numbers(r, r.Intn(3), 500)
	}
	mergeIs(t, lists, plainMerge(lists...)...)
}

func TestMergeOfOneListSeveralTimes(t *testing.T) {
	list := roomy(2, 4, 3)
	mergeIs(t, [][]int{list, list, list}, 2, 2, 2, 4, 3, 4, 3, 4, 3)
	untouched(t, list, []int{2, 4, 3})
	// Pieces of one list.
	whole := []int{1, 4, 2, 3}
	mergeIs(t, [][]int{whole[:2], whole[2:], whole[1:3]}, 1, 2, 3, 4, 4, 2)
}

func TestWhatIsHandedInIsNeitherChangedNorKept(t *testing.T) {
	ranks := roomy(4, 1, 4, 0)
	places := Least(ranks, 3)
	untouched(t, ranks, []int{4, 1, 4, 0})
	clear(ranks)
	if !slices.Equal(places, []int{3, 1, 0}) {
		t.Fatalf("the places change with the ranks: %v", places)
	}
	a, b := roomy(1, 5, 2), roomy(3, 3)
	lists := [][]int{a, b, {7}}[:2]
	merged := Merge(lists...)
	untouched(t, a, []int{1, 5, 2})
	untouched(t, b, []int{3, 3})
	untouched(t, lists[0], []int{1, 5, 2})
	untouched(t, lists[1], []int{3, 3})
	if all := lists[:3]; !slices.Equal(all[2], []int{7}) {
		t.Fatalf("the room behind the lists was changed: %v", all)
	}
	clear(a)
	clear(b)
	if !slices.Equal(merged, []int{1, 3, 3, 5, 2}) {
		t.Fatalf("what was merged changes with the lists: %v", merged)
	}
}

func TestListsThatAreAnsweredAreNewMemory(t *testing.T) {
	for _, given := range [][][]int{{roomy(1, 2, 3)}, {nil, roomy(1, 2, 3)}, {roomy(1, 2, 3), nil}, {roomy(1, 2, 3), {}, nil}} {
		first, second := Merge(given...), Merge(given...)
		clear(first)
		_ = append(first, 8, 8)
		for _, list := range given {
			if len(list) > 0 {
				untouched(t, list, []int{1, 2, 3})
			}
		}
		if !slices.Equal(second, []int{1, 2, 3}) {
			t.Fatalf("an answer changes with another one: %v", second)
		}
	}
	ranks := roomy(0, 1, 2)
	first, second := Least(ranks, 2), Least(ranks, 3)
	first[0], first[1] = 8, 8
	_ = append(first, 8)
	untouched(t, ranks, []int{0, 1, 2})
	if !slices.Equal(second, []int{0, 1, 2}) {
		t.Fatalf("an answer changes with another one: %v", second)
	}
}

func TestListsHandOutNothingBehindTheirLength(t *testing.T) {
	ranks := []int{3, 2, 1, 4, 5, 6, 7, 8, 9}
	for n := range len(ranks) + 2 {
		for _, list := range [][]int{Least(ranks, n), Merge(ranks[:min(n, len(ranks))])} {
			for _, number := range list[len(list):cap(list)] {
				if number != 0 {
					t.Fatalf("%d lies behind %v", number, list)
				}
			}
		}
	}
}

// P7.3: Merge of lists that don't fall doesn't fall, and has all their numbers. Least of n is the beginning of Least of more.

func TestMergeOfListsThatDoNotFall(t *testing.T) {
	r := rand.New(rand.NewSource(75))
	for range 2000 {
		var all []int
		lists := make([][]int, r.Intn(20))
		for i := range lists {
			lists[i] = numbers(r, r.Intn(15), 1+r.Intn(40))
			if r.Intn(4) == 0 {
				lists[i] = append(lists[i], math.MinInt, math.MaxInt)
			}
			slices.Sort(lists[i])
			all = append(all, lists[i]...)
		}
		slices.Sort(all)
		mergeIs(t, lists, all...)
	}
}

func TestLeastIsTheBeginningOfLeastOfMore(t *testing.T) {
	r := rand.New(rand.NewSource(74))
	for size := range 50 {
		ranks := numbers(r, size, 1+r.Intn(30))
		whole := Least(ranks, size)
		for n := -2; n < size+3; n++ {
			got := Least(ranks, n)
			if len(got) != max(0, min(n, size)) || !slices.Equal(got, whole[:len(got)]) {
				t.Fatalf("Least of %v, %d: %v; all: %v", ranks, n, got, whole)
			}
		}
	}
}
