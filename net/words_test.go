package net

import (
	"maps"
	"math"
	"math/big"
	"slices"
	"testing"

	"almoner/api"
)

// The words of the chapter about nets, kept by the test itself, with its numbers written out.

// parcel is a letter but for its number. Its bytes are a text, which nobody can write over.
type parcel struct {
	from, to int
	text     string
}

// post is a net as the chapter's words tell it.
type post struct {
	waits map[int]parcel // by number
	given int            // how many numbers were given out
}

func newPost() *post { return &post{waits: map[int]parcel{}} }

func (p *post) send(from, to int, text string) (int, error) {
	if from < 0 || from > 6 || to < 0 || to > 6 {
		return 0, api.ErrNumber
	}
	if len(p.waits) == 4096 {
		return 0, api.ErrFull
	}
	p.given++
	p.waits[p.given] = parcel{from, to, text}
	return p.given, nil
}

// take is Deliver, and Drop where the letter isn't asked for.
func (p *post) take(number int) (parcel, error) {
	one, there := p.waits[number]
	if !there {
		return parcel{}, api.ErrGone
	}
	delete(p.waits, number)
	return one, nil
}

func (p *post) double(number int) (int, error) {
	one, there := p.waits[number]
	if !there {
		return 0, api.ErrGone
	}
	return p.send(one.from, one.to, one.text)
}

func (p *post) waiting() []int { return slices.Sorted(maps.Keys(p.waits)) }

// nthOf takes the modulo, 0 or above, by numbers of any size.
func nthOf(list []int, i int) (int, bool) {
	if len(list) == 0 {
		return 0, false
	}
	at := new(big.Int).Mod(big.NewInt(int64(i)), big.NewInt(int64(len(list))))
	return list[at.Int64()], true
}

func (p *post) lose(node int) int {
	lost := 0
	for number, one := range p.waits {
		if one.to == node {
			delete(p.waits, number)
			lost++
		}
	}
	return lost
}

// pair is a net and the post that is kept beside it.
type pair struct {
	t    *testing.T
	n    *Net
	post *post
}

func newPair(t *testing.T) *pair {
	t.Helper()
	p := &pair{t: t, n: New(), post: newPost()}
	p.same("New")
	return p
}

func (p *pair) fails(call string, got, want any) {
	p.t.Helper()
	p.t.Fatalf("%s: %+v; want %+v; %d numbers given, %d letters wait", call, got, want, p.post.given, len(p.post.waits))
}

// places are those that Nth is asked for where count letters wait.
func places(count int) []int {
	return []int{math.MinInt, math.MinInt + 1, -3*count - 1, -count, -1, 0, 1, count - 1, count, 2*count + 1, 1 << 40, math.MaxInt}
}

// same holds all that the net tells against the post.
func (p *pair) same(behind string) {
	p.t.Helper()
	got, want := p.n.Waiting(), p.post.waiting()
	if !slices.Equal(got, want) {
		p.fails("Waiting behind "+behind, got, want)
	}
	for _, i := range places(len(want)) {
		p.nth(want, i)
	}
}

// nth holds Nth against the numbers of those that wait.
func (p *pair) nth(list []int, i int) {
	p.t.Helper()
	got, there := p.n.Nth(i)
	if want, wantThere := nthOf(list, i); got != want || there != wantThere {
		p.fails("Nth", []any{i, got, there}, []any{want, wantThere})
	}
}

// answer is a number beside an error.
type answer struct {
	number int
	err    error
}

func (p *pair) send(from, to int, text string) (int, error) {
	p.t.Helper()
	number, err := p.n.Send(from, to, []byte(text))
	want, wantErr := p.post.send(from, to, text)
	if number != want || err != wantErr {
		p.fails("Send", []any{from, to, text, answer{number, err}}, answer{want, wantErr})
	}
	p.same("Send")
	return number, err
}

func (p *pair) deliver(number int) (Letter, error) {
	p.t.Helper()
	letter, err := p.n.Deliver(number)
	want, wantErr := p.post.take(number)
	if err != wantErr || !isLetter(letter, number, want, wantErr) {
		p.fails("Deliver", []any{number, letter, err}, []any{want, wantErr})
	}
	p.same("Deliver")
	return letter, err
}

// isLetter tells whether a letter is the parcel with this number; beside an error, whether it is nothing.
func isLetter(l Letter, number int, one parcel, err error) bool {
	if err != nil {
		number = 0
	}
	return l.Number == number && l.From == one.from && l.To == one.to && string(l.Bytes) == one.text
}

func (p *pair) drop(number int) error {
	p.t.Helper()
	err := p.n.Drop(number)
	if _, want := p.post.take(number); err != want {
		p.fails("Drop", []any{number, err}, want)
	}
	p.same("Drop")
	return err
}

func (p *pair) double(number int) (int, error) {
	p.t.Helper()
	made, err := p.n.Copy(number)
	if want, wantErr := p.post.double(number); made != want || err != wantErr {
		p.fails("Copy", []any{number, answer{made, err}}, answer{want, wantErr})
	}
	p.same("Copy")
	return made, err
}

func (p *pair) lose(node int) int {
	p.t.Helper()
	lost := p.n.Lose(node)
	if want := p.post.lose(node); lost != want {
		p.fails("Lose", []any{node, lost}, want)
	}
	p.same("Lose")
	return lost
}

// fill sends until so many letters wait, without asking in between.
func (p *pair) fill(count int) {
	p.t.Helper()
	for len(p.post.waits) < count {
		from, to := p.post.given%7, p.post.given/7%7
		text := []string{"", "a", "two", "\x00\xff"}[p.post.given%4]
		number, err := p.n.Send(from, to, []byte(text))
		if want, wantErr := p.post.send(from, to, text); number != want || err != wantErr {
			p.fails("Send", answer{number, err}, answer{want, wantErr})
		}
	}
	p.same("filling")
}

// The calls with their answers written out, beside what the post says.

func (p *pair) sends(want answer, from, to int, text string) {
	p.t.Helper()
	if number, err := p.send(from, to, text); number != want.number || err != want.err {
		p.fails("Send", answer{number, err}, want)
	}
}

func (p *pair) doubles(want answer, number int) {
	p.t.Helper()
	if made, err := p.double(number); made != want.number || err != want.err {
		p.fails("Copy", answer{made, err}, want)
	}
}

func (p *pair) delivers(number, from, to int, text string) {
	p.t.Helper()
	letter, err := p.deliver(number)
	if err != nil || !isLetter(letter, number, parcel{from, to, text}, nil) {
		p.fails("Deliver", []any{letter, err}, parcel{from, to, text})
	}
}

// isGone asks that no call finds a letter.
func (p *pair) isGone(number int) {
	p.t.Helper()
	letter, err := p.deliver(number)
	if err != api.ErrGone || letter.Number != 0 || letter.From != 0 || letter.To != 0 || letter.Bytes != nil {
		p.fails("Deliver", []any{number, letter, err}, api.ErrGone)
	}
	if err := p.drop(number); err != api.ErrGone {
		p.fails("Drop", []any{number, err}, api.ErrGone)
	}
	p.doubles(answer{0, api.ErrGone}, number)
}

func (p *pair) loses(want, node int) {
	p.t.Helper()
	if lost := p.lose(node); lost != want {
		p.fails("Lose", []any{node, lost}, want)
	}
}

func (p *pair) waits(want ...int) {
	p.t.Helper()
	if got := p.n.Waiting(); !slices.Equal(got, want) {
		p.fails("Waiting", got, want)
	}
}
