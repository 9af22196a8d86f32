package net

import (
	"math"
	"math/rand"
	"strconv"
	"testing"

	"almoner/api"
)

// P17.1: rows of calls against the post, every short one and many long ones with fixed seeds.

func shortCalls(p *pair) []func() {
	return []func(){
		func() { _, _ = p.send(0, 1, "a") },
		func() { _, _ = p.send(1, 1, "") },
		func() { _, _ = p.send(1, 0, "b") },
		func() { _, _ = p.double(1) },
		func() { _, _ = p.double(3) },
		func() { _, _ = p.deliver(1) },
		func() { _, _ = p.deliver(2) },
		func() { _ = p.drop(3) },
		func() { p.lose(1) },
		func() { _, _ = p.send(7, 0, "c") },
	}
}

func TestEveryShortRow(t *testing.T) {
	const length, choices = 5, 10
	for row := range int(math.Pow(choices, length)) {
		p := newPair(t)
		calls := shortCalls(p)
		for range length {
			calls[row%choices]()
			row /= choices
		}
	}
}

// script is a pair under calls by chance.
type script struct {
	*pair
	random *rand.Rand
	wrong  float64        // how often a call is handed what is wrong
	more   float64        // how often a call is one that adds a letter
	came   map[string]int // how often a call came to an answer
}

func (s *script) bad() bool { return s.random.Float64() < s.wrong }

func (s *script) node() int {
	if s.bad() {
		return wrongNodes()[s.random.Intn(len(wrongNodes()))]
	}
	return s.random.Intn(7)
}

// number is mostly that of a letter that waits.
func (s *script) number() int {
	given := s.post.given
	if s.bad() || len(s.post.waits) == 0 {
		list := []int{math.MinInt, -1, 0, given + 1, given + 2, math.MaxInt, s.random.Intn(given + 1), s.random.Intn(given + 1)}
		return list[s.random.Intn(len(list))]
	}
	number, _ := nthOf(s.post.waiting(), s.random.Int())
	return number
}

func (s *script) text() string {
	b := make([]byte, s.random.Intn(6))
	s.random.Read(b)
	return string(b)
}

func (s *script) note(call string, err error) {
	if err != nil {
		call += " " + err.Error()
	}
	s.came[call]++
}

func (s *script) step() {
	s.t.Helper()
	if s.random.Float64() < s.more {
		s.adds()
		return
	}
	switch s.random.Intn(12) {
	case 0:
		lost := s.lose(s.node())
		s.note("lose "+strconv.FormatBool(lost > 0), nil)
	case 1:
		s.nth(s.post.waiting(), int(s.random.Uint64()))
	case 2, 3, 4:
		s.note("drop", s.drop(s.number()))
	default:
		_, err := s.deliver(s.number())
		s.note("deliver", err)
	}
}

func (s *script) adds() {
	s.t.Helper()
	if s.random.Intn(3) == 0 {
		_, err := s.double(s.number())
		s.note("copy", err)
		return
	}
	_, err := s.send(s.node(), s.node(), s.text())
	s.note("send", err)
}

// asked asks that each of these answers came often enough for the rows to be of use.
func asked(t *testing.T, came map[string]int, least int, calls ...string) {
	t.Helper()
	for _, call := range calls {
		if came[call] < least {
			t.Errorf("%s came only %d times", call, came[call])
		}
	}
}

// Many long rows on several nets, that share nothing.
func TestManyRows(t *testing.T) {
	random := rand.New(rand.NewSource(171))
	came := map[string]int{}
	for range 200 {
		var nets []*script
		for range 3 {
			s := &script{pair: newPair(t), random: random, came: came}
			s.wrong = []float64{0, 0.05, 0.3}[random.Intn(3)]
			s.more = []float64{0.4, 0.5, 0.6}[random.Intn(3)]
			nets = append(nets, s)
		}
		for range 300 {
			nets[random.Intn(3)].step()
			for _, s := range nets {
				s.same("a call of one of them")
			}
		}
	}
	number, gone := " "+api.ErrNumber.Error(), " "+api.ErrGone.Error()
	asked(t, came, 500, "send", "send"+number, "deliver", "deliver"+gone, "drop", "drop"+gone, "copy", "copy"+gone, "lose true", "lose false")
}

// Rows about the edge where a net is full.
func TestRowsOfAFullNet(t *testing.T) {
	random := rand.New(rand.NewSource(172))
	came := map[string]int{}
	for range 5 {
		s := &script{pair: newPair(t), random: random, wrong: 0.1, more: 0.75, came: came}
		s.fill(4090 + random.Intn(7))
		for range 200 {
			s.step()
			if len(s.post.waits) < 4000 {
				s.fill(4094)
			}
		}
	}
	full := " " + api.ErrFull.Error()
	asked(t, came, 20, "send", "send"+full, "copy", "copy"+full, "copy "+api.ErrGone.Error(), "send "+api.ErrNumber.Error(), "deliver")
}

// Two nets under the same calls answer the same, whatever a third one does.
func TestTwoNetsTellTheSame(t *testing.T) {
	for seed := range int64(10) {
		var two []*script
		for range 2 {
			two = append(two, &script{pair: newPair(t), random: rand.New(rand.NewSource(seed)), wrong: 0.1, more: 0.55, came: map[string]int{}})
		}
		other := &script{pair: newPair(t), random: rand.New(rand.NewSource(seed + 100)), wrong: 0.1, more: 0.55, came: map[string]int{}}
		for range 200 {
			two[0].step()
			other.step()
			two[1].step()
		}
		if two[0].post.given != two[1].post.given {
			t.Errorf("seed %d: %d and %d numbers given", seed, two[0].post.given, two[1].post.given)
		}
	}
}
