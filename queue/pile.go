package queue

import (
	"cmp"

	"almoner/api"
)

// compare is below 0 if a stands ahead of b, above 0 if b stands ahead of a.
func compare(a, b api.Ranked) int {
	return cmp.Or(cmp.Compare(a.Rank, b.Rank), cmp.Compare(a.Id, b.Id))
}

func ahead(a, b api.Ranked) bool { return compare(a, b) < 0 }

// pile is things as a heap: the kids of the thing at place i are at 2i+1 and 2i+2, and none stands ahead of its parent. So the thing at place 0 stands ahead of all others.
type pile struct {
	things []api.Ranked
	places map[int]int // of each Id: a thing is turned and taken by it
}

func newPile() pile { return pile{places: map[int]int{}} }

func (p *pile) put(thing api.Ranked) {
	p.things = append(p.things, thing)
	p.settle(len(p.things)-1, thing)
}

// take takes the thing at a place out; the last one fills the gap.
func (p *pile) take(place int) {
	end := len(p.things) - 1
	last := p.things[end]
	delete(p.places, p.things[place].Id)
	p.things = p.things[:end]
	if place < end {
		p.settle(place, last)
	}
}

func (p *pile) turn(place, rank int) {
	p.settle(place, api.Ranked{Id: p.things[place].Id, Rank: rank})
}

// settle lays a thing down where it belongs, of the way up and the way down from a place whose own thing counts no more.
func (p *pile) settle(place int, thing api.Ranked) {
	place = p.rise(place, thing)
	place = p.sink(place, thing)
	p.lay(place, thing)
}

// rise moves the parents that a thing stands ahead of down by one, and answers the place that this frees.
func (p *pile) rise(place int, thing api.Ranked) int {
	for place > 0 {
		parent := (place - 1) / 2
		if !ahead(thing, p.things[parent]) {
			break
		}
		p.lay(place, p.things[parent])
		place = parent
	}
	return place
}

// sink moves the kids that stand ahead of a thing up by one, and answers the place that this frees.
func (p *pile) sink(place int, thing api.Ranked) int {
	for {
		kid := 2*place + 1
		if kid >= len(p.things) {
			return place
		}
		if kid+1 < len(p.things) && ahead(p.things[kid+1], p.things[kid]) {
			kid++
		}
		if !ahead(p.things[kid], thing) {
			return place
		}
		p.lay(place, p.things[kid])
		place = kid
	}
}

func (p *pile) lay(place int, thing api.Ranked) {
	p.things[place] = thing
	p.places[thing.Id] = place
}
