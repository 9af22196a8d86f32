package round

import (
	"math/rand"
	"testing"

	"almoner/api"
)

// P19.3: rows of questions that are written out, on voters whose answers come at once.

// table is voters, and the ledgers of rounds that are done.
type table struct {
	t       *testing.T
	members []*member
	done    [][]api.Entry
}

func newTable(t *testing.T, nodes int) *table {
	t.Helper()
	b := &table{t: t}
	for number := range nodes {
		b.members = append(b.members, newMember(t, rand.New(rand.NewSource(1)), 20, number, map[string]int{}))
	}
	return b
}

// round is one with a ballot, that asks some voters.
func (b *table) round(e api.Entry, reads bool, own api.Ballot, voters ...int) *pair {
	b.t.Helper()
	r, err := New(len(b.members), e, reads)
	k, _ := newBook(len(b.members), e, reads)
	if err != nil || r.Begin(own) != nil || k.begin(own) != nil {
		b.t.Fatal(own, err)
	}
	p := &pair{b.t, r, k}
	b.asks(p, voters...)
	return p
}

func (b *table) asks(p *pair, voters ...int) {
	b.t.Helper()
	for _, from := range voters {
		if accepted, ledger, err := b.members[from].v.Prepare(p.k.ballot); err == nil {
			p.agree(p.r.Promise(from, p.k.ballot, accepted, ledger), p.k.promise(from, p.k.ballot, accepted, ledger))
		}
	}
}

// tells lets some voters accept what a round tells, if it does.
func (b *table) tells(p *pair, voters ...int) {
	b.t.Helper()
	for _, from := range voters {
		if p.r.Stage() != StageTell && p.r.Stage() != StageDone {
			return
		}
		if b.members[from].v.Accept(p.k.ballot, p.r.Ledger()) == nil {
			p.agree(p.r.Accepted(from, p.k.ballot), p.k.accept(from, p.k.ballot))
		}
	}
	if p.r.Stage() == StageDone {
		b.done = append(b.done, p.r.Ledger())
	}
}

// agreed asks that of any two ledgers that are done one is the beginning of the other.
func (b *table) agreed(what ...any) {
	b.t.Helper()
	for _, one := range b.done {
		for _, other := range b.done {
			if !isBeginning(one, other) && !isBeginning(other, one) {
				b.t.Fatalf("%v: %v and %v are both done", what, one, other)
			}
		}
	}
}

// Of one Round, the ballot with the greater Node is the newer one.
func TestBallotsOfOneRound(t *testing.T) {
	b := newTable(t, 3)
	one := b.round(deletes(1, 1), false, ballot(1, 0), 0, 1)
	b.tells(one, 0)
	two := b.round(deletes(2, 1), false, ballot(1, 1), 1, 2)
	b.tells(two, 1, 2)
	two.stands(StageDone, 1)
	three := b.round(deletes(3, 1), false, ballot(2, 0), 0, 1)
	b.tells(three, 0, 1)
	three.stands(StageDone, 2)
	three.tells(deletes(2, 1), deletes(3, 1))
	b.agreed("one Round")
}

// The newest ledger is gone on with, be it shorter than an older one.
func TestTheNewestIsShorter(t *testing.T) {
	b := newTable(t, 5)
	one := b.round(deletes(1, 1), false, ballot(1, 0), 0, 1, 2)
	b.tells(one, 0)
	two := b.round(deletes(2, 1), false, ballot(2, 0), 0, 1, 2)
	b.tells(two, 1)
	two.stands(StageTell, 2)
	three := b.round(deletes(3, 1), false, ballot(3, 0), 2, 3, 4)
	b.tells(three, 2, 3, 4)
	three.stands(StageDone, 1)
	four := b.round(deletes(4, 1), false, ballot(4, 0), 1, 2, 3)
	b.tells(four, 1, 2, 3)
	four.stands(StageDone, 2)
	four.tells(deletes(3, 1), deletes(4, 1))
	b.agreed("shorter")
}

// orders are those in which two rounds may ask (A, B) and tell (a, b).
var orders = []string{"AaBb", "ABab", "ABba", "BAab", "BAba", "BbAa"}

// Whoever promises to three rounds and accepts of them, in whatever order: all of it on three voters, the second round being of the same Round as the first one.
func TestThreeRoundsOnThreeVoters(t *testing.T) {
	pairs := [][]int{{0, 1}, {1, 2}, {2, 0}}
	sets := [][]int{{}, {0}, {1}, {2}, {0, 1}, {1, 2}, {2, 0}, {0, 1, 2}}
	lasts := [][]int{{0, 1}, {1, 0}, {1, 2}, {2, 1}, {0, 2}, {2, 0}}
	dones := 0
	for _, order := range orders {
		for _, a := range pairs {
			for _, b := range pairs {
				for i, accepting := range sets {
					for j, other := range sets {
						// By turns one of both orders of those who promise last.
						for k := (i + j) % 2; k < len(lasts); k += 2 {
							dones += threeRounds(t, order, [2][]int{a, b}, [2][]int{accepting, other}, lasts[k])
						}
					}
				}
			}
		}
	}
	if dones < 15000 {
		t.Errorf("only %d rounds were done", dones)
	}
}

// threeRounds makes two rounds in an order, and a third one behind them, and tells how many were done.
func threeRounds(t *testing.T, order string, asked, told [2][]int, last []int) int {
	t.Helper()
	b := newTable(t, 3)
	var two [2]*pair
	for _, c := range order {
		switch c {
		case 'A', 'B':
			i := int(c - 'A')
			two[i] = b.round(deletes(i, 1), false, ballot(1, i), asked[i]...)
		default:
			i := int(c - 'a')
			b.tells(two[i], told[i]...)
		}
	}
	three := b.round(deletes(3, 1), len(told[0]) == 1, ballot(2, 0), last...)
	b.tells(three, last...)
	// What comes late may still make one of them done, if the third one was told of it.
	b.tells(two[0], 0, 1, 2)
	b.tells(two[1], 0, 1, 2)
	three.stands(StageDone, len(three.r.Ledger()))
	b.agreed(order, asked, told, last)
	return len(b.done)
}
