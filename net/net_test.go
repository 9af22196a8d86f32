package net

import (
	"math"
	"slices"
	"strings"
	"testing"

	"almoner/api"
)

// P17.1 and P17.2: what single calls answer, at the edges that the chapter names and at wrong inputs.

func TestExamplesOfNets(t *testing.T) {
	p := newPair(t)
	p.sends(answer{1, nil}, 0, 1, "a")
	p.doubles(answer{2, nil}, 1)
	p.delivers(1, 0, 1, "a")
	p.isGone(1)
	p.waits(2)
	if number, there := p.n.Nth(7); number != 2 || !there {
		t.Error(number, there)
	}
	p.loses(1, 1)
	p.waits()
}

func TestEmptyNet(t *testing.T) {
	p := newPair(t)
	if list := p.n.Waiting(); len(list) != 0 {
		t.Error(list)
	}
	for _, i := range []int{math.MinInt, -7, -1, 0, 1, 7, math.MaxInt} {
		if number, there := p.n.Nth(i); number != 0 || there {
			t.Errorf("Nth(%d) = %d, %v", i, number, there)
		}
		p.isGone(i)
		p.loses(0, i)
	}
	// All of these are gone behind letters, too.
	p.sends(answer{1, nil}, 3, 4, "x")
	p.delivers(1, 3, 4, "x")
	if number, there := p.n.Nth(0); number != 0 || there {
		t.Error(number, there)
	}
	p.waits()
}

func TestEverySenderAndReceiver(t *testing.T) {
	p := newPair(t)
	number := 0
	for from := range 7 {
		for to := range 7 {
			number++
			p.sends(answer{number, nil}, from, to, strings.Repeat("z", number))
		}
	}
	for number > 0 {
		p.delivers(number, (number-1)/7, (number-1)%7, strings.Repeat("z", number))
		number--
	}
	p.waits()
}

// wrongNodes are no numbers of replicas.
func wrongNodes() []int {
	return []int{math.MinInt, math.MinInt + 1, -7, -1, 7, 8, 4096, 1 << 32, 1<<32 + 3, math.MaxInt - 1, math.MaxInt}
}

func TestWrongSendersAndReceivers(t *testing.T) {
	p := newPair(t)
	p.sends(answer{1, nil}, 6, 0, "there")
	for _, wrong := range wrongNodes() {
		for right := range 7 {
			p.sends(answer{0, api.ErrNumber}, wrong, right, "w")
			p.sends(answer{0, api.ErrNumber}, right, wrong, "w")
		}
		for _, other := range wrongNodes() {
			p.sends(answer{0, api.ErrNumber}, wrong, other, "w")
		}
	}
	// What was refused took no number.
	p.sends(answer{2, nil}, 0, 6, "next")
	p.waits(1, 2)
}

func TestSendOfNoBytes(t *testing.T) {
	p := newPair(t)
	if number, err := p.n.Send(2, 5, nil); number != 1 || err != nil {
		t.Fatal(number, err)
	}
	if number, err := p.n.Send(2, 5, []byte("spare")[:0]); number != 2 || err != nil {
		t.Fatal(number, err)
	}
	for range 2 {
		_, _ = p.post.send(2, 5, "")
	}
	p.doubles(answer{3, nil}, 1)
	p.doubles(answer{4, nil}, 2)
	for number := 1; number <= 4; number++ {
		p.delivers(number, 2, 5, "")
	}
}

func TestBytesOfManySizes(t *testing.T) {
	p := newPair(t)
	var texts []string
	for _, size := range []int{1, 2, 31, 32, 33, 1000, api.MaxRecord, api.MaxRecord + 1, 200000} {
		texts = append(texts, strings.Repeat("\x00\x7f\x80\xff", size)[:size])
	}
	for i, text := range texts {
		p.sends(answer{2*i + 1, nil}, 1, 1, text)
		p.doubles(answer{2*i + 2, nil}, 2*i+1)
	}
	for i, text := range texts {
		p.delivers(2*i+2, 1, 1, text)
		p.delivers(2*i+1, 1, 1, text)
	}
}

// Numbers are never given again, not behind Deliver, Drop or Lose either, nor when the net is empty.
func TestNumbersAreNeverGivenAgain(t *testing.T) {
	p := newPair(t)
	next := 0
	for round := range 30 {
		for range 4 {
			next++
			p.sends(answer{next, nil}, round%7, 3, "s")
		}
		p.delivers(next, round%7, 3, "s")
		next++
		p.doubles(answer{next, nil}, next-2)
		if err := p.drop(next); err != nil {
			t.Fatal(err)
		}
		next++
		p.sends(answer{next, nil}, 0, 3, "")
		p.loses(4, 3)
		p.waits()
		for gone := 1; gone <= next; gone++ {
			p.isGone(gone)
		}
	}
}

func TestNumbersThatNoLetterHas(t *testing.T) {
	p := newPair(t)
	for number := 1; number <= 6; number++ {
		p.sends(answer{number, nil}, 0, number%2, "l")
	}
	p.delivers(2, 0, 0, "l")
	if err := p.drop(3); err != nil {
		t.Fatal(err)
	}
	p.loses(2, 0)
	p.waits(1, 5)
	for _, number := range []int{math.MinInt, -5, -1, 0, 2, 3, 4, 6, 7, 8, 4096, 1<<32 + 1, math.MaxInt} {
		p.isGone(number)
	}
	p.waits(1, 5)
	p.sends(answer{7, nil}, 0, 0, "l")
}

func TestNthCountsModulo(t *testing.T) {
	p := newPair(t)
	p.fill(9)
	for _, number := range []int{1, 4, 5, 9} {
		p.delivers(number, (number-1)%7, (number-1)/7%7, []string{"", "a", "two", "\x00\xff"}[(number-1)%4])
	}
	list := []int{2, 3, 6, 7, 8}
	p.waits(list...)
	for i := -20; i <= 20; i++ {
		want := list[(i+20)%5]
		if number, there := p.n.Nth(i); number != want || !there {
			t.Errorf("Nth(%d) = %d, %v; want %d", i, number, there, want)
		}
	}
	// 2^63 - 1 = 7 + 5 * some number; -2^63 = -8 - 5 * some number.
	for i, want := range map[int]int{math.MaxInt: 6, math.MinInt: 6, math.MaxInt - 2: 2, math.MinInt + 3: 2, 1 << 40: 3} {
		if number, there := p.n.Nth(i); number != want || !there {
			t.Errorf("Nth(%d) = %d, %v; want %d", i, number, there, want)
		}
	}
	// Asking took nothing.
	p.waits(list...)
}

func TestNthOfOneLetter(t *testing.T) {
	p := newPair(t)
	p.sends(answer{1, nil}, 0, 0, "")
	p.sends(answer{2, nil}, 0, 0, "")
	p.delivers(1, 0, 0, "")
	for _, i := range []int{math.MinInt, -2, -1, 0, 1, 2, math.MaxInt} {
		if number, there := p.n.Nth(i); number != 2 || !there {
			t.Errorf("Nth(%d) = %d, %v", i, number, there)
		}
	}
}

func TestLoseTakesLettersToANode(t *testing.T) {
	p := newPair(t)
	for from := range 3 {
		for to := range 3 {
			p.sends(answer{3*from + to + 1, nil}, from, to, "m")
		}
	}
	p.doubles(answer{10, nil}, 2)
	// Of a node without letters, and of such as can have none.
	p.loses(0, 3)
	p.loses(0, 6)
	for _, wrong := range wrongNodes() {
		p.loses(0, wrong)
	}
	p.waits(1, 2, 3, 4, 5, 6, 7, 8, 9, 10)
	// Letters from the node stay, but for the one that it sent to itself.
	p.loses(4, 1)
	p.waits(1, 3, 4, 6, 7, 9)
	p.loses(0, 1)
	p.loses(3, 0)
	p.waits(3, 6, 9)
	p.delivers(6, 1, 2, "m")
	p.loses(2, 2)
	p.waits()
	p.sends(answer{11, nil}, 1, 1, "m")
	p.loses(1, 1)
}

func TestCopyOfACopy(t *testing.T) {
	p := newPair(t)
	p.sends(answer{1, nil}, 5, 6, "one")
	p.sends(answer{2, nil}, 6, 5, "other")
	p.doubles(answer{3, nil}, 1)
	p.doubles(answer{4, nil}, 3)
	p.delivers(3, 5, 6, "one")
	p.doubles(answer{5, nil}, 4)
	p.delivers(1, 5, 6, "one")
	// The first letter and the first copy are gone; the copies are letters as good.
	p.isGone(1)
	p.isGone(3)
	p.doubles(answer{6, nil}, 5)
	p.waits(2, 4, 5, 6)
	p.delivers(5, 5, 6, "one")
	p.delivers(6, 5, 6, "one")
	p.delivers(2, 6, 5, "other")
	p.delivers(4, 5, 6, "one")
	p.waits()
}

func TestNetOfJustMaxLetters(t *testing.T) {
	if MaxLetters != 4096 {
		t.Fatal(MaxLetters)
	}
	p := newPair(t)
	p.fill(4095)
	p.sends(answer{4096, nil}, 1, 2, "last")
	for range 2 {
		p.sends(answer{0, api.ErrFull}, 1, 2, "more")
		p.sends(answer{0, api.ErrFull}, 6, 6, "")
		p.doubles(answer{0, api.ErrFull}, 1)
		p.doubles(answer{0, api.ErrFull}, 4096)
		// The errors that are named first.
		p.sends(answer{0, api.ErrNumber}, -1, 0, "more")
		p.sends(answer{0, api.ErrNumber}, 0, 7, "more")
		p.isGone(0)
		p.isGone(4097)
	}
	// One out, one in: what was refused took no number.
	p.delivers(4096, 1, 2, "last")
	p.doubles(answer{4097, nil}, 1)
	p.doubles(answer{0, api.ErrFull}, 2)
	p.sends(answer{0, api.ErrFull}, 1, 2, "")
	if err := p.drop(1); err != nil {
		t.Fatal(err)
	}
	p.sends(answer{4098, nil}, 0, 3, "in")
	p.isGone(4096)
	p.isGone(1)
	lost := p.lose(3)
	if lost < 500 {
		t.Fatal(lost)
	}
	for i := range lost {
		p.sends(answer{4099 + i, nil}, 4, 4, "")
	}
	p.sends(answer{0, api.ErrFull}, 4, 4, "")
	p.doubles(answer{0, api.ErrFull}, 4098+lost)
}

func TestNetFullOfCopies(t *testing.T) {
	p := newPair(t)
	p.sends(answer{1, nil}, 2, 0, "many")
	for made := 2; made <= 4096; made++ {
		if number, err := p.n.Copy(made / 2); number != made || err != nil {
			t.Fatal(number, err)
		}
		_, _ = p.post.double(made / 2)
	}
	p.doubles(answer{0, api.ErrFull}, 7)
	p.loses(0, 2)
	p.delivers(4000, 2, 0, "many")
	p.loses(4095, 0)
	p.waits()
	p.sends(answer{4097, nil}, 0, 2, "")
}

// A full net is no hindrance to another one.
func TestNetsShareNoRoomAndNoNumbers(t *testing.T) {
	full, other := newPair(t), newPair(t)
	full.fill(4096)
	other.sends(answer{1, nil}, 0, 1, "o")
	other.doubles(answer{2, nil}, 1)
	full.sends(answer{0, api.ErrFull}, 0, 1, "f")
	other.loses(2, 1)
	full.same("calls of another")
	if !slices.Equal(New().Waiting(), nil) {
		t.Error("a new net isn't empty")
	}
}
