package round

import (
	"slices"
	"testing"

	"almoner/api"
)

// P19.1: Missing goes over those that hadn't answered when it was called, in order, as often as it is gone over, and as far.

func TestMissing(t *testing.T) {
	p := newPair(t, 5, deletes(1, 1), false)
	p.misses()
	p.begins(nil, first)
	p.misses(0, 1, 2, 3, 4)
	p.promises(true, 3, first, none)
	p.misses(0, 1, 2, 4)
	p.promises(true, 0, first, none)
	p.misses(1, 2, 4)
	p.begins(nil, ballot(1, 1))
	p.misses(0, 1, 2, 3, 4)
	for _, from := range []int{4, 0, 2} {
		p.promises(true, from, ballot(1, 1), none)
	}
	p.misses(0, 1, 2, 3, 4)
	p.accepts(true, 4, ballot(1, 1))
	p.misses(0, 1, 2, 3)
	p.accepts(true, 1, ballot(1, 1))
	p.misses(0, 2, 3)
	p.accepts(true, 0, ballot(1, 1))
	p.misses()
}

func TestMissingOfEachNumberOfNodes(t *testing.T) {
	all := []int{0, 1, 2, 3, 4, 5, 6}
	for nodes := 1; nodes <= 7; nodes++ {
		want := [][]int{nil, all[:nodes], all[:nodes], nil, nil}
		for stage, p := range inEachStage(t, nodes, ballot(4, 0)) {
			p.misses(want[stage]...)
		}
	}
}

// firsts are at most so many of those that an iterator goes over.
func firsts(p *pair, count int) []int {
	var list []int
	for node := range p.r.Missing() {
		if len(list) == count {
			break
		}
		list = append(list, node)
	}
	return list
}

func TestMissingStoppedEarly(t *testing.T) {
	p := asks(t, 7, deletes(1, 1), false, first)
	p.promises(true, 2, first, none)
	want := []int{0, 1, 3, 4, 5, 6}
	for count := range 8 {
		if got := firsts(p, count); !slices.Equal(got, want[:min(count, 6)]) {
			t.Errorf("%d of the missing: %v", count, got)
		}
	}
	// The one that is stopped goes no farther.
	calls := 0
	p.r.Missing()(func(int) bool { calls++; return calls < 3 })
	if calls != 3 {
		t.Errorf("called %d times", calls)
	}
	p.misses(want...)
}

func TestMissingGoneOverTwice(t *testing.T) {
	p := asks(t, 5, deletes(1, 1), false, first)
	p.promises(true, 0, first, none)
	missing := p.r.Missing()
	for range 3 {
		for node := range missing {
			if node == 2 {
				break
			}
		}
		if got := slices.Collect(missing); !slices.Equal(got, []int{1, 2, 3, 4}) {
			t.Errorf("%v", got)
		}
	}
	// One within the other.
	pairs := 0
	for a := range missing {
		for b := range missing {
			if a > 0 && b > 0 {
				pairs++
			}
		}
	}
	if pairs != 16 {
		t.Errorf("%d pairs", pairs)
	}
}

// What stood when the call was made is gone over, whatever the round does then.
func TestMissingStaysAsItWas(t *testing.T) {
	p := newPair(t, 5, deletes(1, 1), false)
	type look struct {
		missing func(func(int) bool)
		want    []int
	}
	var looks []look
	see := func() {
		t.Helper()
		looks = append(looks, look{p.r.Missing(), p.k.missing()})
		for i, l := range looks {
			for range 2 {
				var got []int
				l.missing(func(node int) bool { got = append(got, node); return true })
				if !slices.Equal(got, l.want) {
					t.Fatalf("look %d behind %d: %v; want %v", i, len(looks), got, l.want)
				}
			}
		}
	}
	see()
	for i := range 4 {
		b := ballot(i+1, 0)
		p.begins(nil, b)
		see()
		for from := range 3 {
			p.promises(true, (from+i)%5, b, none)
			see()
		}
		for from := range min(i, 3) {
			p.accepts(true, (from+2*i)%5, b)
			see()
		}
	}
	p.stands(StageDone, 1)
}

// The round may go on while the missing ones are gone over.
func TestMissingWhileTheRoundGoesOn(t *testing.T) {
	p := asks(t, 5, deletes(1, 1), false, first)
	var seen []int
	for node := range p.r.Missing() {
		seen = append(seen, node)
		p.promise(node, first, none, nil)
	}
	for node := range p.r.Missing() {
		seen = append(seen, node)
		p.accepted(4-node, first)
	}
	if !slices.Equal(seen, []int{0, 1, 2, 3, 4, 0, 1, 2, 3, 4}) {
		t.Errorf("%v", seen)
	}
	p.stands(StageDone, 1)
}

// A round that reads misses as any.
func TestMissingOfARoundThatReads(t *testing.T) {
	p := asks(t, 2, api.Entry{}, true, first)
	p.misses(0, 1)
	p.promises(true, 1, first, ballot(1, 0), row(2)...)
	p.misses(0)
	p.promises(true, 0, first, none)
	p.misses(0, 1)
	p.accepts(true, 0, first)
	p.misses(1)
	p.accepts(true, 1, first)
	p.misses()
}
