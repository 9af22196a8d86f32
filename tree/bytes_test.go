package tree

import (
	"bytes"
	"math"
	"math/rand"
	"slices"
	"testing"

	"almoner/api"
)

// The bytes of trees, by the chapter's words.

// cell is a number of a tree's bytes, and the greatest that may stand there.
type cell struct {
	n, upTo int
	count   bool // it counts what follows
}

func plainCells(list ...int) []cell {
	var cells []cell
	for _, n := range list {
		cells = append(cells, cell{n: n, upTo: most})
	}
	return cells
}

// cellsOf are a tree's numbers, in their order.
func cellsOf(t api.Tree) []cell {
	cells := append(plainCells(t.Last, t.Now), cell{len(t.Nodes), 64, true})
	for _, n := range t.Nodes {
		cells = append(cells, plainCells(n.Id, n.Parent, n.Server.Kind, n.Server.Q, n.Server.T, n.Policy)...)
		cells = append(cells, cell{len(n.Tasks), 8, true})
		for _, k := range n.Tasks {
			cells = append(cells, plainCells(k.C, k.P, k.D, k.S)...)
		}
	}
	cells = append(cells, cell{len(t.Ghosts), 512, true})
	for _, g := range t.Ghosts {
		cells = append(cells, plainCells(g.Parent, g.Server.Kind, g.Server.Q, g.Server.T)...)
		cells = append(cells, cell{n: g.Until, upTo: most + look})
	}
	return cells
}

// num is a number's bytes, by dividing.
func num(n uint64) []byte {
	if n < 128 {
		return []byte{byte(n)}
	}
	return append([]byte{byte(128 + n%128)}, num(n/128)...)
}

func bytesOf(cells []cell) []byte {
	var all []byte
	for _, c := range cells {
		all = append(all, num(uint64(c.n))...)
	}
	return all
}

// plain reads numbers: bytes up to one below 128, if they are a number's shortest form and that is small enough.
type plain struct {
	rest []byte
	bad  bool
}

func (p *plain) num(upTo int) int {
	end := slices.IndexFunc(p.rest, func(c byte) bool { return c < 128 }) + 1
	if p.bad || end == 0 || end > 9 {
		p.bad = true
		return 0
	}
	n := uint64(0)
	for i := end - 1; i >= 0; i-- {
		n = n*128 + uint64(p.rest[i]%128)
	}
	p.bad = !bytes.Equal(num(n), p.rest[:end]) || n > uint64(upTo)
	p.rest = p.rest[end:]
	return int(n)
}

func (p *plain) into(places ...*int) {
	for _, to := range places {
		*to = p.num(most)
	}
}

func (p *plain) node() api.Node {
	var n api.Node
	p.into(&n.Id, &n.Parent, &n.Server.Kind, &n.Server.Q, &n.Server.T, &n.Policy)
	for i := p.num(8); i > 0 && !p.bad; i-- {
		var k api.Task
		p.into(&k.C, &k.P, &k.D, &k.S)
		n.Tasks = append(n.Tasks, k)
	}
	return n
}

// plainTree is the tree of bytes, and whether there is one.
func plainTree(b []byte) (api.Tree, bool) {
	p := plain{rest: b}
	var t api.Tree
	p.into(&t.Last, &t.Now)
	for i := p.num(64); i > 0 && !p.bad; i-- {
		t.Nodes = append(t.Nodes, p.node())
	}
	for i := p.num(512); i > 0 && !p.bad; i-- {
		var g api.Ghost
		p.into(&g.Parent, &g.Server.Kind, &g.Server.Q, &g.Server.T)
		g.Until = p.num(most + look)
		t.Ghosts = append(t.Ghosts, g)
	}
	if p.bad || len(p.rest) > 0 {
		return api.Tree{}, false
	}
	return t, true
}

// What calls must answer.

// putIs asks for a tree's bytes, and that the tree stays.
func putIs(t *testing.T, tree api.Tree, want []byte, fault error) {
	t.Helper()
	given := roomy(tree)
	got, err := Put(given)
	if !bytes.Equal(got, want) || err != fault || fault != nil && got != nil {
		t.Fatalf("Put of %+v: % x, %v; want % x, %v", tree, got, err, want, fault)
	}
	if !intact(given, tree) {
		t.Fatalf("Put of %+v made it %+v", tree, given)
	}
}

// getIs asks for the tree of bytes, by the words; that the bytes stay, and that nothing is shared.
func getIs(t *testing.T, b []byte) bool {
	t.Helper()
	want, ok := plainTree(b)
	given := append(append([]byte(nil), b...), 0, 0, 0)[:len(b)]
	got, err := Get(given)
	if ok && err != nil || !ok && err != api.ErrBytes || !equal(got, want) {
		t.Fatalf("Get of % x: %+v, %v; want %+v, %v", b, got, err, want, ok)
	}
	clear(given)
	if !equal(got, want) || !spoil(got.Nodes, got.Ghosts) {
		t.Fatalf("the tree of % x shares memory with it, or has lists that share some: %+v", b, got)
	}
	return ok
}

// Get leaves the bytes as they are, the room behind them too.
func TestGetKeepsTheBytes(t *testing.T) {
	b := append(bytesOf(cellsOf(crowd(t).tree)), 7, 8, 9)
	was := bytes.Clone(b)
	if _, err := Get(b[:len(b)-3]); err != nil || !bytes.Equal(b, was) {
		t.Errorf("%v, and % x", err, b)
	}
	if _, err := Get(b); err != api.ErrBytes || !bytes.Equal(b, was) {
		t.Errorf("%v, and % x", err, b)
	}
}

// readsBack asks for a tree's bytes, and for the tree of them.
func readsBack(t *testing.T, tree api.Tree) {
	t.Helper()
	b := bytesOf(cellsOf(tree))
	putIs(t, tree, b, nil)
	if !getIs(t, b) {
		t.Fatalf("% x of %+v are refused", b, tree)
	}
	if back, err := Get(b); err != nil || !equal(back, tree) || !Same(back, tree) || !Same(tree, back) {
		t.Fatalf("Get of % x: %+v, %v; want %+v", b, back, err, tree)
	}
}

// rich is a tree with all that a tree may have: nodes of both policies, and without one, and ghosts.
func rich(t *testing.T) api.Tree {
	w := newWalk(t)
	w.all(creates(0, sporadic(4, 10), 130), creates(1, polling(1, 40), 0), creates(0, deferrable(2, 10), 0), creates(0, polling(1, 50), 0))
	w.all(binds(3, 1, 140, task(1, 200, 150, 0), small()), creates(0, sporadic(1, 10), 0), binds(5, 2, 0, task(2, 128, 127, 1)))
	w.all(deletes(4, 150), creates(1, polling(2, 70), 0), resizes(6, sporadic(1, 80), 151))
	return w.tree
}

// trees are that, the empty one, a great one, and one at the end of the time.
func trees(t *testing.T) []api.Tree {
	w := newWalk(t)
	w.all(creates(0, polling(100, 256), most), deletes(1, most))
	return []api.Tree{rich(t), {}, {Now: 300}, crowd(t).tree, w.tree}
}

func TestBytesOfATree(t *testing.T) {
	putIs(t, api.Tree{}, []byte{0, 0, 0, 0}, nil)
	w := newWalk(t)
	w.all(creates(0, sporadic(5, 10), 0), creates(0, polling(2, 20), 3), creates(2, polling(1, 255), 4))
	w.all(binds(1, 2, 130, task(2, 60, 50, 1)), deletes(3, 130))
	until := w.tree.Ghosts[0].Until
	putIs(t, w.tree, slices.Concat(
		[]byte{3, 130, 1, 2},
		[]byte{1, 0, 2, 5, 10, 2, 1, 2, 60, 50, 1},
		[]byte{2, 0, 1, 2, 20, 0, 0},
		[]byte{1, 2, 1, 1, 255, 1, byte(until%128) + 128, byte(until / 128)},
	), nil)
}

func TestTreesAreReadBack(t *testing.T) {
	for _, tree := range trees(t) {
		readsBack(t, tree)
	}
}

// anyNumber is one that a byte holds, or a great one.
func anyNumber(random *rand.Rand, upTo int) int {
	return pick(random, 0, 1, 127, 128, upTo, upTo-1, random.Intn(100), random.Intn(upTo+1))
}

// anyTree has any numbers in the form: whether orders could make it isn't asked.
func anyTree(random *rand.Rand, nodes, tasks, ghosts int) api.Tree {
	n := func() int { return anyNumber(random, most) }
	s := func() api.Server { return server(n(), n(), n()) }
	t := api.Tree{Last: n(), Now: n()}
	for range nodes {
		node := api.Node{Id: n(), Parent: n(), Server: s(), Policy: n()}
		for range tasks {
			node.Tasks = append(node.Tasks, task(n(), n(), n(), n()))
		}
		t.Nodes = append(t.Nodes, node)
	}
	for range ghosts {
		t.Ghosts = append(t.Ghosts, api.Ghost{Parent: n(), Server: s(), Until: anyNumber(random, most+look)})
	}
	return t
}

func TestAnyNumbersAreReadBack(t *testing.T) {
	random := rand.New(rand.NewSource(1304))
	for range 300 {
		readsBack(t, anyTree(random, random.Intn(6), random.Intn(9), random.Intn(20)))
	}
}

func TestTooMany(t *testing.T) {
	random := rand.New(rand.NewSource(1305))
	for _, x := range []struct {
		nodes, tasks, ghosts int
		fits                 bool
	}{
		{64, 8, 512, true}, {65, 8, 512, false}, {64, 9, 512, false}, {64, 8, 513, false}, {65, 0, 0, false}, {1, 9, 0, false}, {0, 0, 513, false}, {64, 0, 0, true}, {1, 8, 0, true}, {0, 0, 512, true},
	} {
		tree := anyTree(random, x.nodes, x.tasks, x.ghosts)
		b := bytesOf(cellsOf(tree))
		putIs(t, tree, b, nil)
		if got := getIs(t, b); got != x.fits {
			t.Errorf("%+v: %v", x, got)
		}
	}
}

func TestCutAndLongerBytes(t *testing.T) {
	for _, tree := range trees(t) {
		b := bytesOf(cellsOf(tree))
		for size := range b {
			if getIs(t, b[:size:size]) {
				t.Fatalf("%d of %d bytes are a tree", size, len(b))
			}
		}
		for _, more := range [][]byte{{0}, {1}, {128}, {255}, b} {
			if getIs(t, slices.Concat(b, more)) {
				t.Fatalf("% x behind the tree are taken", more)
			}
		}
	}
	if got, err := Get(nil); err != api.ErrBytes || !equal(got, api.Tree{}) {
		t.Error(got, err)
	}
}

// Each number in turn: the greatest that may stand there, one more, and others that are greater.
func TestNumbersOutOfTheirRange(t *testing.T) {
	for _, tree := range trees(t)[:2] {
		cells := cellsOf(tree)
		for i, c := range cells {
			for _, n := range []int{c.upTo, c.upTo - 1, c.upTo + 1, c.upTo + 2, 2 * c.upTo, most + 1, most + look + 1, math.MaxInt - 1, math.MaxInt} {
				changed := slices.Clone(cells)
				changed[i].n = n
				ok := getIs(t, bytesOf(changed))
				if n > c.upTo && ok {
					t.Fatalf("%d as number %d of %+v is taken", n, i, tree)
				}
				if n <= c.upTo && !c.count && !ok {
					t.Fatalf("%d as number %d of %+v is refused", n, i, tree)
				}
			}
		}
	}
}

// Most counts that are off leave bytes that are no tree's; by chance some are another tree's.
func TestCountsThatAreOff(t *testing.T) {
	cells, refused := cellsOf(rich(t)), 0
	for i, c := range cells {
		for _, by := range []int{-2, -1, 1, 2} {
			changed := slices.Clone(cells)
			changed[i].n = c.n + by
			if c.count && changed[i].n >= 0 && !getIs(t, bytesOf(changed)) {
				refused++
			}
		}
	}
	if refused < 10 {
		t.Errorf("only %d were refused", refused)
	}
}

func TestNumbersNotInTheirShortestForm(t *testing.T) {
	cells := cellsOf(rich(t))
	for i := range cells {
		long := num(uint64(cells[i].n))
		long[len(long)-1] |= 128
		b := slices.Concat(bytesOf(cells[:i]), long, []byte{0}, bytesOf(cells[i+1:]))
		if getIs(t, b) {
			t.Errorf("number %d in a longer form is taken", i)
		}
	}
}

func TestBytesThatAreChanged(t *testing.T) {
	random := rand.New(rand.NewSource(1306))
	taken := 0
	for range 20000 {
		b := bytesOf(cellsOf(pick(random, smallTrees(random)...)))
		for range 1 + random.Intn(3) {
			switch i := random.Intn(len(b)); random.Intn(4) {
			case 0:
				b = slices.Delete(b, i, i+1)
				b = append(b, byte(random.Intn(3)))
			case 1:
				b = slices.Insert(b, i, byte(random.Intn(256)))
			default:
				b[i] = byte(random.Intn(256))
			}
		}
		if getIs(t, b) {
			taken++
		}
	}
	if taken < 500 || taken > 19500 {
		t.Errorf("%d were taken", taken)
	}
}

func smallTrees(random *rand.Rand) []api.Tree {
	return []api.Tree{{}, anyTree(random, 1, 1, 1), anyTree(random, 2, 0, 1), anyTree(random, 0, 0, 3)}
}

// Put refuses each number in turn that is below 0.

// placesOf are where a tree's numbers stand.
func placesOf(t *api.Tree) []*int {
	list := []*int{&t.Last, &t.Now}
	for i := range t.Nodes {
		n := &t.Nodes[i]
		list = append(list, &n.Id, &n.Parent, &n.Server.Kind, &n.Server.Q, &n.Server.T, &n.Policy)
		for k := range n.Tasks {
			list = append(list, &n.Tasks[k].C, &n.Tasks[k].P, &n.Tasks[k].D, &n.Tasks[k].S)
		}
	}
	for i := range t.Ghosts {
		g := &t.Ghosts[i]
		list = append(list, &g.Parent, &g.Server.Kind, &g.Server.Q, &g.Server.T, &g.Until)
	}
	return list
}

func TestNumbersBelowZero(t *testing.T) {
	for _, tree := range trees(t) {
		for i := range placesOf(&tree) {
			for _, n := range []int{-1, -2, -most, math.MinInt + 1, math.MinInt} {
				changed := copyTree(tree)
				*placesOf(&changed)[i] = n
				putIs(t, changed, nil, api.ErrNumber)
			}
		}
	}
}

// Numbers above those that Get takes are written all the same.
func TestGreatNumbersAreWritten(t *testing.T) {
	tree := rich(t)
	for i := range placesOf(&tree) {
		for _, n := range []int{0, most, most + 1, most + look + 1, math.MaxInt} {
			changed := copyTree(tree)
			*placesOf(&changed)[i] = n
			putIs(t, changed, bytesOf(cellsOf(changed)), nil)
		}
	}
}

// Same.

func sameIs(t *testing.T, a, b api.Tree, want bool) {
	t.Helper()
	x, y := roomy(a), roomy(b)
	if Same(x, y) != want || Same(y, x) != want {
		t.Fatalf("%+v, and %+v: want %v", a, b, want)
	}
	if !intact(x, a) || !intact(y, b) {
		t.Fatalf("%+v, and %+v were changed", a, b)
	}
}

func TestTreesThatDifferInOneNumber(t *testing.T) {
	for _, tree := range trees(t) {
		sameIs(t, tree, copyTree(tree), true)
		for i := range placesOf(&tree) {
			for _, by := range []int{1, -1, 1 << 40, math.MinInt} {
				changed := copyTree(tree)
				*placesOf(&changed)[i] += by
				sameIs(t, tree, changed, false)
			}
		}
	}
}

func TestTreesThatDifferInOneList(t *testing.T) {
	tree := rich(t)
	for i := range tree.Nodes {
		less, more := copyTree(tree), copyTree(tree)
		less.Nodes = slices.Delete(less.Nodes, i, i+1)
		more.Nodes = slices.Insert(more.Nodes, i, copyNode(more.Nodes[i]))
		sameIs(t, tree, less, false)
		sameIs(t, tree, more, false)
		longer, none := copyTree(tree), copyTree(tree)
		longer.Nodes[i].Tasks = append(longer.Nodes[i].Tasks, api.Task{})
		sameIs(t, tree, longer, false)
		none.Nodes[i].Tasks = nil
		sameIs(t, tree, none, len(tree.Nodes[i].Tasks) == 0)
	}
	for i := range tree.Ghosts {
		less, more := copyTree(tree), copyTree(tree)
		less.Ghosts = slices.Delete(less.Ghosts, i, i+1)
		more.Ghosts = slices.Insert(more.Ghosts, i, more.Ghosts[i])
		sameIs(t, tree, less, false)
		sameIs(t, tree, more, false)
	}
}

func TestTheOrderOfListsTells(t *testing.T) {
	tree := rich(t)
	nodes, ghosts, tasks := copyTree(tree), copyTree(tree), copyTree(tree)
	slices.Reverse(nodes.Nodes)
	slices.Reverse(ghosts.Ghosts)
	i := slices.IndexFunc(tasks.Nodes, func(n api.Node) bool { return len(n.Tasks) == 2 })
	slices.Reverse(tasks.Nodes[i].Tasks)
	for _, other := range []api.Tree{nodes, ghosts, tasks} {
		sameIs(t, tree, other, false)
	}
}

func TestNilAndEmptyListsAreTheSame(t *testing.T) {
	empty := api.Tree{Nodes: []api.Node{}, Ghosts: []api.Ghost{}}
	if !Same(empty, api.Tree{}) || !Same(api.Tree{}, empty) {
		t.Error("an empty tree isn't one")
	}
	a := api.Tree{Nodes: []api.Node{{Id: 1, Tasks: []api.Task{}}}}
	b := api.Tree{Nodes: []api.Node{{Id: 1}}}
	if !Same(a, b) || !Same(b, a) {
		t.Error("a node with no tasks isn't one without")
	}
	x, _ := Put(a)
	if y, err := Put(b); err != nil || !bytes.Equal(x, y) {
		t.Errorf("% x, and % x, %v", x, y, err)
	}
}
