package tree

import (
	"testing"

	"almoner/api"
)

// P13.1: the chapter's examples, and those of the whole document.

func TestExamples(t *testing.T) {
	w := newWalk(t)
	if id := w.done(creates(0, polling(2, 10), 0)); id != 1 {
		t.Fatal(id)
	}
	w.is(creates(1, polling(1, 10), 0), api.CodeTight)
	w.done(deletes(1, 5))
	w.untils(7)
	w.is(creates(0, polling(9, 10), 6), api.CodeTight)
	if id := w.done(creates(0, polling(9, 10), 7)); id != 2 {
		t.Fatal(id)
	}
	w.untils()
	w.asksAll()
}

func TestExamplesOfTheWhole(t *testing.T) {
	w := newWalk(t)
	w.all(creates(0, sporadic(5, 10), 0), creates(1, polling(1, 40), 0))
	w.is(creates(0, sporadic(5, 10), 0), api.CodeTight)
	late := task(1, 60, 60, 0)
	w.is(binds(2, api.PolicyDeadline, 0, late), api.CodeTight)
	third := w.done(creates(0, deferrable(4, 10), 0))
	w.done(binds(third, api.PolicyDeadline, 0, late))
	w.is(deletes(1, 0), api.CodeKids)
	w.done(deletes(2, 3))
	w.is(deletes(1, w.tree.Ghosts[0].Until-1), api.CodeKids)
	w.done(deletes(1, w.tree.Ghosts[0].Until))
	w.asksAll()
}

// What a tree is, written out once, beside the book.
func TestTreeOfSomeOrders(t *testing.T) {
	w := newWalk(t)
	k := task(2, 50, 40, 1)
	w.all(creates(0, sporadic(5, 10), 3), creates(0, polling(2, 20), 3), creates(1, polling(1, 40), 4), binds(2, api.PolicyOrder, 9, k), deletes(3, 10))
	want := api.Tree{
		Nodes:  []api.Node{{Id: 1, Server: sporadic(5, 10)}, {Id: 2, Server: polling(2, 20), Policy: 2, Tasks: []api.Task{k}}},
		Ghosts: []api.Ghost{{Parent: 1, Server: polling(1, 40), Until: 25}},
		Last:   3,
		Now:    10,
	}
	if !equal(w.tree, want) {
		t.Errorf("%+v; want %+v", w.tree, want)
	}
	w.asksAll()
}

// At: less than Now, just Now, greater, at both ends of the time, and out of it.

// young is a tree at 100 with an order of each Kind that it takes, and one of each that it refuses.
func young(t *testing.T) (*walk, []api.Order, []api.Order) {
	w := newWalk(t)
	w.all(creates(0, sporadic(5, 10), 0), creates(0, sporadic(1, 10), 0), creates(1, polling(1, 40), 100))
	good := []api.Order{creates(1, polling(1, 50), 0), resizes(2, polling(1, 20), 0), deletes(3, 0), binds(2, 1, 0, task(1, 60, 60, 0))}
	bad := []api.Order{creates(0, polling(10, 10), 0), resizes(2, polling(5, 10), 0), deletes(1, 0), binds(2, 1, 0, task(30, 60, 60, 0))}
	return w, good, bad
}

func TestTimeGoesOnAndNeverBack(t *testing.T) {
	w, good, bad := young(t)
	for at, now := range map[int]int{0: 100, 1: 100, 99: 100, 100: 100, 101: 101, 5000: 5000, most - 1: most - 1, most: most} {
		for i := range good {
			good[i].At, bad[i].At = at, at
			done, refused := w.fork(), w.fork()
			done.done(good[i])
			if r := refused.step(bad[i]); r.Code == 0 || done.tree.Now != now || refused.tree.Now != now {
				t.Fatalf("%+v: %v, at %d and %d; want %d", bad[i], r, done.tree.Now, refused.tree.Now, now)
			}
		}
	}
}

func TestWrongTimesChangeNothing(t *testing.T) {
	w, good, bad := young(t)
	w.done(deletes(3, 100))
	for _, at := range wrongTimes() {
		for _, o := range append(good, bad...) {
			o.At = at
			f := w.fork()
			if r := f.step(o); r != (api.Result{Code: api.CodeServer}) || !equal(f.tree, w.tree) {
				t.Fatalf("%+v: %v, and %+v", o, r, f.tree)
			}
		}
	}
}

func TestOrdersOfNoKindChangeNothing(t *testing.T) {
	w, good, _ := young(t)
	w.done(deletes(3, 100))
	for _, kind := range wrongKinds() {
		for _, o := range good {
			for _, at := range []int{0, 100, 105, 100000, most, -1} {
				o.Kind, o.At = kind, at
				f := w.fork()
				if r := f.step(o); r != (api.Result{Code: api.CodeServer}) || !equal(f.tree, w.tree) {
					t.Fatalf("%+v: %v, and %+v", o, r, f.tree)
				}
			}
		}
	}
}

// At the end of the time ghosts stay for ever.
func TestTheEndOfTime(t *testing.T) {
	w := newWalk(t)
	w.all(creates(0, polling(2, 10), most), creates(0, polling(3, 10), 0), deletes(1, most), deletes(2, 7))
	w.untils(most+5, most+5)
	w.is(creates(0, polling(6, 10), most), api.CodeTight)
	w.done(creates(0, polling(1, 10), most))
	w.untils(most+6, most+6)
	w.asksAll()
}

// Ghosts whose Until is one more than Now, just Now, and one less.

func TestGhostsGoAtTheirTime(t *testing.T) {
	w := newWalk(t)
	w.all(creates(0, polling(2, 10), 0), creates(0, sporadic(1, 20), 0), deletes(1, 5), deletes(2, 6))
	w.untils(8, 9)
	for at, left := range map[int]int{0: 2, 6: 2, 7: 2, 8: 1, 9: 0, 10: 0, most: 0} {
		for _, o := range []api.Order{creates(0, sporadic(1, 200), at), creates(0, server(9, 9, 9), at), deletes(9, at), resizes(0, polling(1, 1), at), binds(1, 1, at, task(1, 9, 9, 0))} {
			f := w.fork()
			f.step(o)
			if len(f.tree.Ghosts) != left {
				t.Fatalf("%+v left %+v; want %d", o, f.tree.Ghosts, left)
			}
		}
	}
	w.is(creates(0, polling(19, 20), 7), api.CodeTight)
	w.is(creates(0, polling(19, 20), 8), api.CodeTight)
	w.is(creates(0, polling(19, 20), 9), api.CodeOK)
}

// Where orders go: below the root, below a node, below one that isn't there.

func TestOrdersOfTheRoot(t *testing.T) {
	for _, w := range []*walk{newWalk(t), crowd(t)} {
		w.is(resizes(0, polling(1, 200), 0), api.CodeGone)
		w.is(deletes(0, 0), api.CodeGone)
		w.is(binds(0, 1, 0, task(1, 200, 200, 0)), api.CodeGone)
		w.is(binds(0, 2, 0, task(1, 200, 200, 0)), api.CodeGone)
	}
	newWalk(t).is(creates(0, polling(1, 200), 0), api.CodeOK)
}

func TestNodesThatAreNotThere(t *testing.T) {
	w := newWalk(t)
	w.all(creates(0, sporadic(5, 10), 0), creates(0, sporadic(1, 10), 0), creates(1, polling(1, 40), 0), deletes(2, 0))
	for _, id := range append(ends(), -1, 2, 4, 5, 64, most) {
		w.is(creates(id, polling(1, 200), 1), api.CodeGone)
		w.is(resizes(id, polling(1, 200), 1), api.CodeGone)
		w.is(deletes(id, 1), api.CodeGone)
		w.is(binds(id, 1, 1, task(1, 200, 200, 0)), api.CodeGone)
	}
	w.asksAll()
}

func TestIdsAreNeverGivenAgain(t *testing.T) {
	w := newWalk(t)
	for id := 1; id <= 100; id++ {
		if got := w.done(creates(0, polling(1, 10), 10*id)); got != id || w.tree.Last != id {
			t.Fatalf("%d, and %d is the last; want %d", got, w.tree.Last, id)
		}
		w.is(creates(0, polling(10, 10), 10*id), api.CodeTight)
		w.done(deletes(id, 10*id))
	}
}

// How deep.

// chain is a node of each depth, 1 to 4, the last of which a small guest fits into.
func chain(t *testing.T) *walk {
	w := newWalk(t)
	w.all(creates(0, sporadic(9, 10), 0), creates(1, sporadic(9, 20), 0), creates(2, sporadic(16, 60), 0), creates(3, sporadic(8, 128), 0))
	return w
}

func small() api.Task { return task(1, 256, 256, 0) }

func TestDepths(t *testing.T) {
	w := chain(t)
	for id := 0; id <= 4; id++ {
		if got := Depth(w.tree, id); got != id {
			t.Errorf("Depth of %d: %d", id, got)
		}
	}
	w.is(creates(3, sporadic(1, 250), 0), api.CodeOK)
	w.is(creates(4, sporadic(1, 256), 0), api.CodeDeep)
	w.is(resizes(4, sporadic(7, 128), 0), api.CodeOK)
	w.is(binds(4, 1, 0, small()), api.CodeOK)
	w.is(deletes(4, 0), api.CodeOK)
	w.done(creates(3, sporadic(1, 250), 0))
	w.is(creates(5, sporadic(1, 256), 0), api.CodeDeep)
	w.asksAll()
}

// How many nodes.

// crowd is a tree of 64 nodes: 8 counted below the root and below 1, 2 to 4 in a chain down from there, 11 bound, and others.
func crowd(t *testing.T) *walk {
	w := newWalk(t)
	w.all(creates(0, sporadic(4, 8), 0), creates(1, sporadic(8, 32), 0), creates(2, sporadic(8, 96), 0), creates(3, sporadic(2, 200), 0))
	for range 7 {
		w.done(creates(0, sporadic(1, 20), 0))
	}
	w.done(binds(11, 1, 0, small()))
	for id := 5; id <= 10; id++ {
		for range 7 {
			w.done(creates(id, polling(1, 256), 0))
		}
	}
	for range 7 {
		w.done(creates(1, polling(1, 256), 0))
	}
	for range 4 {
		w.done(creates(2, polling(1, 256), 0))
	}
	return w
}

func TestMaxNodes(t *testing.T) {
	w := crowd(t)
	if len(w.tree.Nodes) != 64 {
		t.Fatalf("%d nodes", len(w.tree.Nodes))
	}
	more := creates(2, polling(1, 256), 1)
	w.is(more, api.CodeFull)
	w.is(creates(5, polling(1, 256), 1), api.CodeFull)
	w.is(resizes(64, polling(1, 255), 1), api.CodeOK)
	w.is(binds(4, 1, 1, small()), api.CodeTight)
	w.done(deletes(64, 1))
	if len(w.tree.Nodes) != 63 || len(w.tree.Ghosts) != 1 {
		t.Fatalf("%d nodes, and %d ghosts", len(w.tree.Nodes), len(w.tree.Ghosts))
	}
	if id := w.done(more); id != 65 {
		t.Error(id)
	}
	w.is(more, api.CodeFull)
	w.asksAll()
}

// How many are counted below one parent: by kids, by ghosts, by both; below the root and below a node.

func TestMaxKidsByKids(t *testing.T) {
	for _, parent := range []int{0, 1} {
		w := newWalk(t)
		w.done(creates(0, sporadic(5, 10), 0))
		first := len(Counted(w.tree, parent))
		for n := first; n < 8; n++ {
			w.done(creates(parent, polling(1, 200), 0))
		}
		w.is(creates(parent, polling(1, 200), 5000), api.CodeFull)
		w.is(resizes(w.tree.Last, polling(1, 250), 5000), api.CodeFull)
		w.is(binds(w.tree.Last, 1, 5000, small()), api.CodeTight)
		w.done(deletes(w.tree.Last, 5000))
		w.is(creates(parent, polling(1, 200), 5000), api.CodeFull)
		w.is(creates(parent, polling(1, 200), w.tree.Ghosts[0].Until-1), api.CodeFull)
		w.is(creates(parent, polling(1, 200), w.tree.Ghosts[0].Until), api.CodeOK)
	}
}

func TestMaxKidsByGhosts(t *testing.T) {
	for _, parent := range []int{0, 1} {
		w := newWalk(t)
		if parent == 1 {
			w.done(creates(0, sporadic(5, 10), 0))
		}
		last := w.tree.Last
		for range 8 {
			w.done(creates(parent, polling(1, 200), 0))
		}
		for n := 1; n <= 8; n++ {
			w.done(deletes(last+n, n))
		}
		if len(Kids(w.tree, parent)) != 0 || len(Counted(w.tree, parent)) != 8 {
			t.Fatalf("%+v", w.tree)
		}
		until := w.tree.Ghosts[0].Until
		w.is(creates(parent, polling(1, 200), until-1), api.CodeFull)
		w.is(creates(parent, polling(1, 200), until), api.CodeOK)
	}
}

func TestMaxKidsByBoth(t *testing.T) {
	w := newWalk(t)
	for range 4 {
		w.done(creates(0, polling(1, 200), 0))
	}
	for id := 1; id <= 4; id++ {
		w.done(resizes(id, polling(1, 100+id), id))
	}
	w.untils(12, 12, 12, 12)
	w.is(creates(0, polling(1, 200), 11), api.CodeFull)
	w.is(resizes(2, polling(1, 200), 11), api.CodeFull)
	w.is(creates(0, polling(1, 200), 12), api.CodeOK)
	w.is(resizes(2, polling(1, 200), 12), api.CodeOK)
	w.done(deletes(1, 4))
	w.is(creates(0, polling(1, 200), 11), api.CodeFull)
}

func TestGhostsOfOthersAreNotCounted(t *testing.T) {
	w := newWalk(t)
	w.all(creates(0, sporadic(5, 10), 0), creates(0, sporadic(3, 10), 0))
	for n := range 8 {
		w.all(creates(1, polling(1, 200), 0), deletes(3+n, 0))
	}
	w.is(creates(1, polling(1, 200), 0), api.CodeFull)
	for range 8 {
		w.done(creates(2, polling(1, 200), 0))
	}
	w.asksAll()
}

// What just fits, and what just doesn't: by the share, by the line, by the demand.

func TestJustFits(t *testing.T) {
	w := newWalk(t)
	w.is(creates(0, polling(256, 256), 0), api.CodeTight)
	w.is(creates(0, polling(227, 256), 0), api.CodeOK)
	w.is(creates(0, polling(228, 256), 0), api.CodeTight)
	w.all(creates(0, polling(2, 256), 0))
	w.is(creates(0, polling(225, 256), 0), api.CodeOK)
	w.is(creates(0, polling(226, 256), 0), api.CodeTight)
	w.done(creates(0, deferrable(2, 10), 0))
	w.is(creates(0, deferrable(1, 256), 0), api.CodeTight)
	w.is(creates(0, sporadic(1, 2), 0), api.CodeTight)
	w.is(creates(0, sporadic(5, 10), 0), api.CodeOK)
	w.is(creates(0, sporadic(8, 10), 0), api.CodeTight)
}

func TestJustFitsBelowANode(t *testing.T) {
	w := newWalk(t)
	w.done(creates(0, polling(2, 10), 0))
	w.is(creates(1, polling(1, 17), 0), api.CodeTight)
	w.is(creates(1, polling(2, 18), 0), api.CodeTight)
	w.is(creates(1, deferrable(1, 200), 0), api.CodeTight)
	w.done(creates(1, polling(1, 18), 0))
	w.is(creates(1, polling(1, 18), 0), api.CodeTight)
	w.is(creates(1, polling(1, 19), 0), api.CodeOK)
}

func TestGuestsThatJustFit(t *testing.T) {
	w := newWalk(t)
	w.done(creates(0, deferrable(5, 10), 0))
	for policy := 1; policy <= 2; policy++ {
		w.is(binds(1, policy, 0, task(1, 20, 11, 1)), api.CodeOK)
		w.is(binds(1, policy, 0, task(1, 20, 10, 1)), api.CodeTight)
		w.is(binds(1, policy, 0, task(5, 20, 15, 0)), api.CodeOK)
		w.is(binds(1, policy, 0, task(6, 20, 15, 0)), api.CodeTight)
	}
	// By deadlines the second may wait for the first ones; by order it may not.
	two := []api.Task{task(4, 100, 100, 0), task(1, 100, 11, 0)}
	w.is(binds(1, 1, 0, two...), api.CodeOK)
	w.is(binds(1, 2, 0, two...), api.CodeTight)
}

// Resizes.

func TestResizes(t *testing.T) {
	w := newWalk(t)
	w.all(creates(0, sporadic(4, 10), 0), creates(0, polling(1, 10), 2))
	for _, s := range []api.Server{sporadic(2, 10), polling(3, 10), sporadic(4, 10), polling(4, 10), sporadic(1, 100), deferrable(3, 10)} {
		f := w.fork()
		if id := f.done(resizes(1, s, 3)); id != 1 {
			t.Errorf("Id %d", id)
		}
		got, _ := Find(f.tree, 1)
		if got.Server != s || len(f.tree.Ghosts) != 1 || f.tree.Ghosts[0].Server != sporadic(4, 10) || f.tree.Ghosts[0].Parent != 0 {
			t.Errorf("%+v", f.tree)
		}
		if len(f.tree.Nodes) != 2 || f.tree.Last != 2 {
			t.Errorf("%+v", f.tree)
		}
	}
	// Alone it would fit; beside the old one it doesn't.
	w.is(resizes(1, sporadic(6, 10), 3), api.CodeTight)
	w.is(resizes(1, sporadic(5, 10), 3), api.CodeTight)
	w.is(resizes(1, sporadic(4, 10), 3), api.CodeOK)
}

func TestResizesBesideTheirGhosts(t *testing.T) {
	w := newWalk(t)
	w.all(creates(0, sporadic(4, 10), 0), resizes(1, sporadic(3, 10), 0))
	w.untils(7)
	w.is(resizes(1, sporadic(3, 10), 6), api.CodeTight)
	w.is(resizes(1, sporadic(6, 10), 7), api.CodeOK)
	w.done(resizes(1, sporadic(2, 10), 6))
	w.untils(15, 15)
	w.is(resizes(1, sporadic(1, 100), 14), api.CodeOK)
	w.is(resizes(1, sporadic(7, 10), 14), api.CodeTight)
	w.done(resizes(1, sporadic(7, 10), 15))
	w.untils(24)
	w.asksAll()
}

func TestResizesOfNodesWithSomethingBelow(t *testing.T) {
	w := newWalk(t)
	w.all(creates(0, sporadic(4, 10), 0), creates(1, polling(1, 100), 0))
	w.is(resizes(1, sporadic(5, 10), 0), api.CodeKids)
	w.done(deletes(2, 0))
	until := w.tree.Ghosts[0].Until
	w.is(resizes(1, sporadic(5, 10), until-1), api.CodeKids)
	w.is(resizes(1, sporadic(5, 10), until), api.CodeOK)
	w.done(binds(1, 1, until, small()))
	w.is(resizes(1, sporadic(5, 10), until), api.CodeBound)
}

// Deletes.

func TestDeletes(t *testing.T) {
	w := newWalk(t)
	w.all(creates(0, sporadic(4, 10), 0), creates(1, polling(1, 100), 0), creates(1, polling(1, 90), 0), creates(0, polling(1, 5), 0))
	w.is(deletes(1, 0), api.CodeKids)
	w.all(deletes(2, 0))
	w.is(deletes(1, 5000), api.CodeKids)
	w.all(deletes(3, 1))
	until := w.tree.Ghosts[1].Until
	w.is(deletes(1, until-1), api.CodeKids)
	if id := w.done(deletes(1, until)); id != 1 {
		t.Errorf("Id %d", id)
	}
	if len(w.tree.Nodes) != 1 || len(w.tree.Ghosts) != 1 || w.tree.Last != 4 {
		t.Errorf("%+v", w.tree)
	}
	w.is(deletes(1, until), api.CodeGone)
	w.asksAll()
}

func TestDeletesOfBoundNodes(t *testing.T) {
	for policy := 1; policy <= 2; policy++ {
		w := newWalk(t)
		w.all(creates(0, sporadic(4, 10), 0), binds(1, policy, 0, small(), small()), deletes(1, 3))
		w.untils(7)
		if len(w.tree.Nodes) != 0 {
			t.Errorf("%+v", w.tree)
		}
		w.is(creates(0, sporadic(4, 10), 3), api.CodeOK)
	}
}

// Binds.

func TestBinds(t *testing.T) {
	for policy := 1; policy <= 2; policy++ {
		w := newWalk(t)
		w.all(creates(0, sporadic(5, 10), 0), creates(1, polling(1, 50), 0), creates(0, sporadic(3, 10), 0))
		tasks := []api.Task{task(2, 60, 60, 1), task(1, 200, 100, 0)}
		w.is(binds(1, policy, 0, tasks...), api.CodeKids)
		if id := w.done(binds(3, policy, 0, tasks...)); id != 3 {
			t.Errorf("Id %d", id)
		}
		got, ok := Find(w.tree, 3)
		if !ok || got.Policy != policy || !equalTasks(got.Tasks, tasks) || got.Server != sporadic(3, 10) || len(w.tree.Ghosts) != 0 {
			t.Errorf("%+v", w.tree)
		}
		for again := 1; again <= 2; again++ {
			w.is(binds(3, again, 0, small()), api.CodeBound)
		}
		w.is(creates(3, polling(1, 200), 0), api.CodeBound)
		w.is(resizes(3, sporadic(1, 10), 0), api.CodeBound)
		w.is(creates(1, polling(1, 200), 0), api.CodeOK)
		w.done(deletes(2, 0))
		until := w.tree.Ghosts[0].Until
		w.is(binds(1, policy, until-1, tasks...), api.CodeKids)
		w.is(binds(1, policy, until, tasks...), api.CodeOK)
		w.asksAll()
	}
}

// Fields that aren't of an order's Kind say nothing.
func TestFieldsOfOtherKinds(t *testing.T) {
	w, good, bad := young(t)
	for i, o := range append(good, bad...) {
		odd := o
		if o.Kind == 1 || o.Kind == 2 {
			odd.Policy, odd.Tasks = -1, []api.Task{{C: -1}}
		} else {
			odd.Server = server(-1, 300, 200)
		}
		if o.Kind == 3 {
			odd.Policy, odd.Tasks = 9, []api.Task{{}}
		}
		a, b := w.fork(), w.fork()
		if x, y := a.step(o), b.step(odd); x != y || !equal(a.tree, b.tree) || (x.Code == 0) != (i < len(good)) {
			t.Errorf("%+v: %v, and %v of %+v", o, x, y, odd)
		}
	}
}

// P13.4: how long what is gone is counted.

func TestUntilsBehindCreates(t *testing.T) {
	w := newWalk(t)
	w.all(creates(0, polling(2, 10), 0), creates(0, sporadic(3, 10), 0), creates(2, polling(1, 100), 0), deletes(3, 0), deletes(1, 5))
	// Below 2 nothing is given ahead of the 17th tick.
	w.untils(17, 10)
	// What is refused, and what is created elsewhere, puts nothing off.
	w.is(creates(0, polling(8, 10), 6), api.CodeTight)
	side := w.fork()
	side.step(creates(0, polling(8, 10), 6))
	side.untils(17, 10)
	side.done(creates(2, polling(1, 100), 6))
	side.untils(6+18, 10)
	w.done(creates(0, polling(4, 10), 6))
	w.untils(17, 6+9)
	w.done(creates(0, polling(1, 100), 7))
	w.untils(17, 7+10)
}

// A ghost that was left by a crowd stays, when fewer are counted beside a new one.
func TestUntilsNeverFall(t *testing.T) {
	w := newWalk(t)
	w.all(creates(0, polling(1, 10), 0), creates(0, polling(100, 256), 0), deletes(2, 0), deletes(1, 50))
	w.untils(112, 162)
	created, resized := w.fork(), w.fork()
	created.done(creates(0, polling(1, 10), 112))
	created.untils(162)
	resized.all(creates(0, polling(1, 10), 112), resizes(3, polling(1, 20), 113))
	resized.untils(162, 116)
	created.all(deletes(3, 114))
	created.untils(162, 116)
}

func TestUntilsBehindDeletes(t *testing.T) {
	w := newWalk(t)
	w.all(creates(0, polling(2, 10), 0), creates(0, sporadic(3, 10), 0), creates(0, polling(1, 10), 0), deletes(1, 0))
	w.untils(6)
	w.done(deletes(2, 4))
	w.untils(6, 10)
	w.done(deletes(3, 6))
	w.untils(10, 10)
	w.done(creates(0, deferrable(2, 10), 7))
	w.untils(15, 15)
}

func TestUntilsBehindResizes(t *testing.T) {
	w := newWalk(t)
	w.all(creates(0, polling(2, 10), 0), creates(0, sporadic(3, 10), 0), deletes(1, 1))
	w.untils(6)
	w.done(resizes(2, polling(1, 10), 3))
	w.untils(9, 9)
	w.is(resizes(2, polling(4, 10), 8), api.CodeTight)
	w.done(resizes(2, polling(2, 10), 8))
	w.untils(16, 16, 16)
}

func TestUntilsBelowANode(t *testing.T) {
	w := newWalk(t)
	w.all(creates(0, deferrable(5, 10), 0), creates(1, polling(1, 20), 0), creates(1, polling(2, 40), 0))
	// The row of the parent: 5 ticks that aren't given, then 5 that aren't and 5 that are, again and again.
	w.done(deletes(2, 100))
	w.untils(113)
	w.done(resizes(3, sporadic(1, 60), 101))
	w.untils(101+14, 101+14)
	w.all(creates(0, polling(1, 20), 102), deletes(4, 102))
	w.untils(101+14, 101+14, 102+16)
	w.done(deletes(3, 104))
	w.untils(101+14, 101+14, 102+16, 104+14)
}

// Wrong inputs.

func TestServersThatAreNotLegal(t *testing.T) {
	w := newWalk(t)
	w.all(creates(0, sporadic(5, 10), 0), deletes(1, 0), creates(0, sporadic(1, 10), 0))
	for _, s := range wrongServers() {
		w.is(creates(0, s, 1), api.CodeServer)
		w.is(creates(2, s, 9), api.CodeServer)
		w.is(resizes(2, s, 9), api.CodeServer)
	}
	for kind := 1; kind <= 3; kind++ {
		w.is(creates(0, server(kind, 1, 256), 9), api.CodeOK)
		w.is(resizes(2, server(kind, 1, 256), 9), api.CodeOK)
		w.is(creates(0, server(kind, 1, 1), 9), api.CodeTight)
		w.is(resizes(2, server(kind, 256, 256), 9), api.CodeTight)
	}
}

func TestGuestsThatAreNotLegal(t *testing.T) {
	w := newWalk(t)
	w.done(creates(0, sporadic(5, 10), 0))
	good := task(1, 60, 60, 0)
	for policy := 1; policy <= 2; policy++ {
		for _, k := range wrongTasks() {
			w.is(binds(1, policy, 0, k), api.CodeTask)
			w.is(binds(1, policy, 0, good, k), api.CodeTask)
			w.is(binds(1, policy, 0, k, good), api.CodeTask)
		}
		w.is(binds(1, policy, 0), api.CodeTask)
		eight := []api.Task{good, good, good, good, good, good, good, good}
		w.is(binds(1, policy, 0, eight...), api.CodeOK)
		w.is(binds(1, policy, 0, append(eight, good)...), api.CodeTask)
	}
	for _, policy := range wrongPolicies() {
		w.is(binds(1, policy, 0, good), api.CodeTask)
	}
}

// Two codes at once: the one that the chapter names first.

func TestFirstCodesOfCreates(t *testing.T) {
	w, huge, wrong := crowd(t), polling(256, 256), polling(0, 256)
	for _, id := range []int{999, 11, 4, 2, 1, 0} {
		w.is(creates(id, wrong, 0), api.CodeServer)
	}
	w.is(creates(999, huge, 0), api.CodeGone)
	w.is(creates(11, huge, 0), api.CodeBound)
	w.is(creates(4, huge, 0), api.CodeDeep)
	for _, id := range []int{0, 1, 2, 3, 5} {
		w.is(creates(id, huge, 0), api.CodeFull)
	}
	deep := chain(t)
	deep.is(creates(4, huge, 0), api.CodeDeep)
	deep.done(binds(4, 1, 0, small()))
	deep.is(creates(4, huge, 0), api.CodeBound)
	deep.is(creates(4, wrong, 0), api.CodeServer)
	deep.is(creates(3, huge, 0), api.CodeTight)
}

func TestFirstCodesOfResizes(t *testing.T) {
	w, huge, wrong := crowd(t), polling(256, 256), polling(0, 256)
	for _, id := range []int{999, 0, 1, 11, 54, 64} {
		w.is(resizes(id, wrong, 0), api.CodeServer)
	}
	w.is(resizes(999, huge, 0), api.CodeGone)
	w.is(resizes(0, huge, 0), api.CodeGone)
	for _, id := range []int{1, 2, 3, 5} {
		w.is(resizes(id, huge, 0), api.CodeKids)
	}
	w.is(resizes(11, huge, 0), api.CodeBound)
	w.is(resizes(54, huge, 0), api.CodeFull)
	w.is(resizes(64, huge, 0), api.CodeTight)
	deep := chain(t)
	deep.done(binds(4, 1, 0, small()))
	deep.is(resizes(4, huge, 0), api.CodeBound)
}

func TestFirstCodesOfBinds(t *testing.T) {
	w, huge, wrong := crowd(t), task(256, 256, 256, 0), task(0, 256, 256, 0)
	for _, id := range []int{999, 0, 1, 11, 64} {
		w.is(binds(id, 1, 0, wrong), api.CodeTask)
		w.is(binds(id, 3, 0, small()), api.CodeTask)
	}
	w.is(binds(999, 1, 0, huge), api.CodeGone)
	w.is(binds(0, 1, 0, huge), api.CodeGone)
	w.is(binds(1, 1, 0, huge), api.CodeKids)
	w.is(binds(11, 1, 0, huge), api.CodeBound)
	w.is(binds(64, 1, 0, huge), api.CodeTight)
}

func TestWrongTimesComeFirst(t *testing.T) {
	w := crowd(t)
	for _, o := range []api.Order{creates(999, polling(1, 10), -1), resizes(1, polling(1, 10), -1), deletes(999, -1), deletes(1, most+1), binds(11, 9, most+1)} {
		w.is(o, api.CodeServer)
	}
}

// Asked of the empty tree, with nil lists and with empty ones.
func TestEmptyTrees(t *testing.T) {
	newWalk(t).asksAll()
	empty := api.Tree{Nodes: []api.Node{}, Ghosts: []api.Ghost{}}
	if _, ok := Find(empty, 0); ok || len(Kids(empty, 0))+len(Counted(empty, 0)) > 0 || Depth(empty, 0) != 0 || Depth(empty, 1) != -1 {
		t.Error("the empty tree has something")
	}
	after, r := Apply(empty, creates(0, polling(1, 10), 4))
	if r != (api.Result{Id: 1}) || !equal(after, api.Tree{Nodes: []api.Node{{Id: 1, Server: polling(1, 10)}}, Last: 1, Now: 4}) {
		t.Errorf("%+v, %v", after, r)
	}
}

// Trees that orders don't make are promised nothing but an end.
func TestOtherTreesEnd(t *testing.T) {
	ring := api.Tree{Nodes: []api.Node{{Id: 1, Parent: 2, Server: polling(1, 10)}, {Id: 2, Parent: 1}, {Id: 0, Parent: 0}, {Id: 3, Parent: 3, Tasks: []api.Task{{}}}}}
	for range 20 {
		ring.Ghosts = append(ring.Ghosts, api.Ghost{Parent: 3, Until: 1 << 62}, api.Ghost{Parent: 0, Server: server(9, -1, 0), Until: 1 << 62})
	}
	for id := -1; id <= 4; id++ {
		Depth(ring, id)
		Kids(ring, id)
		Server(ring, id)
		for kind := 1; kind <= 4; kind++ {
			Apply(ring, api.Order{Kind: kind, Id: id, Server: polling(1, 10), Policy: 1, Tasks: []api.Task{small()}})
		}
	}
}
