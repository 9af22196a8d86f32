package tree

import (
	"math"
	"slices"
	"testing"

	"almoner/admit"
	"almoner/api"
)

// The words of the chapter, kept by the test itself, with their numbers written out.

const (
	most = 1099511627776 // MaxTime
	look = 4096          // MaxLook
)

// book is a tree as the chapter's words tell it: its nodes by their ids.
type book struct {
	nodes     map[int]api.Node
	ghosts    []api.Ghost
	last, now int
}

func (b *book) copy() book {
	to := book{nodes: map[int]api.Node{}, ghosts: append([]api.Ghost(nil), b.ghosts...), last: b.last, now: b.now}
	for id, n := range b.nodes {
		to.nodes[id] = copyNode(n)
	}
	return to
}

// ids are those of all nodes, rising.
func (b *book) ids() []int {
	var list []int
	for id := range b.nodes {
		list = append(list, id)
	}
	slices.Sort(list)
	return list
}

// tree is the book as a tree.
func (b *book) tree() api.Tree {
	t := api.Tree{Last: b.last, Now: b.now, Ghosts: append([]api.Ghost(nil), b.ghosts...)}
	for _, id := range b.ids() {
		t.Nodes = append(t.Nodes, copyNode(b.nodes[id]))
	}
	return t
}

func (b *book) kids(id int) []api.Node {
	var list []api.Node
	for _, n := range b.tree().Nodes {
		if n.Parent == id {
			list = append(list, n)
		}
	}
	return list
}

// counted are the servers of the kids, then those of the ghosts.
func (b *book) counted(id int) []api.Server {
	var list []api.Server
	for _, n := range b.kids(id) {
		list = append(list, n.Server)
	}
	for _, g := range b.ghosts {
		if g.Parent == id {
			list = append(list, g.Server)
		}
	}
	return list
}

// depth goes up from a node to the root.
func (b *book) depth(id int) int {
	if id == 0 {
		return 0
	}
	n, there := b.nodes[id]
	if !there {
		return -1
	}
	return 1 + b.depth(n.Parent)
}

// server is that of a node, and of the root the whole.
func (b *book) server(id int) api.Server { return b.nodes[id].Server }

// freed is the time now and the drain of what is counted below a node, with the drain counted tick by tick.
func (b *book) freed(id int) int { return b.now + drained(b.server(id), b.counted(id)) }

// begin is how many ticks of a server's row aren't given ahead of its first period.
func begin(s api.Server) int {
	switch s.Kind {
	case 3:
		return s.T - s.Q
	case 1, 2:
		return s.T - 1
	}
	return 0
}

// gives tells whether a tick of a parent's row is given.
func gives(parent api.Server, tick int) bool {
	if parent.Kind == 0 {
		return true
	}
	at := tick - begin(parent)
	return at >= 0 && at%parent.T >= parent.T-parent.Q
}

// drained is the least number of ticks, from 1 on, in which the parent gives all that may be requested in them: Q at the beginning of each period, of a deferrable server twice at the first.
func drained(parent api.Server, list []api.Server) int {
	open := 0
	for tick := range look {
		for _, s := range list {
			if tick%s.T == 0 {
				open += s.Q
			}
			if tick == 0 && s.Kind == 3 {
				open += s.Q
			}
		}
		if gives(parent, tick) {
			open--
		}
		if open <= 0 {
			return tick + 1
		}
	}
	return 0
}

func legalServer(s api.Server) bool {
	return s.Kind >= 1 && s.Kind <= 3 && s.Q >= 1 && s.Q <= s.T && s.T <= 256
}

func legalGuest(policy int, tasks []api.Task) bool {
	if policy != 1 && policy != 2 || len(tasks) < 1 || len(tasks) > 8 {
		return false
	}
	for _, k := range tasks {
		if k.C < 1 || k.C > k.D || k.D > k.P || k.P > 256 || k.S < 0 || k.S > k.C {
			return false
		}
	}
	return true
}

// ask is one line of the chapter's table: a code, and whether it applies.
type ask struct {
	applies bool
	code    int
}

// firstOf is the code of the first line that applies.
func firstOf(list ...ask) int {
	for _, a := range list {
		if a.applies {
			return a.code
		}
	}
	return 0
}

// code is what an order comes to, the time being told already.
func (b *book) code(o api.Order) int {
	n, there := b.nodes[o.Id]
	busy, isBound := len(b.counted(o.Id)) > 0, n.Policy != 0
	illegal := !legalServer(o.Server)
	switch o.Kind {
	case 1:
		crowded := len(b.nodes) >= 64 || len(b.counted(o.Id)) >= 8
		return firstOf(ask{illegal, 7}, ask{o.Id != 0 && !there, 1}, ask{isBound, 3}, ask{b.depth(o.Id) == 4, 6}, ask{crowded, 5}, ask{b.tight(o.Id, o.Server), 4})
	case 2:
		crowded := len(b.counted(n.Parent)) >= 8
		return firstOf(ask{illegal, 7}, ask{!there, 1}, ask{busy, 2}, ask{isBound, 3}, ask{crowded, 5}, ask{b.tight(n.Parent, o.Server), 4})
	case 3:
		return firstOf(ask{!there, 1}, ask{busy, 2})
	case 4:
		misfit := admit.Guest(n.Server, o.Policy, o.Tasks) != nil
		return firstOf(ask{!legalGuest(o.Policy, o.Tasks), 8}, ask{!there, 1}, ask{busy, 2}, ask{isBound, 3}, ask{misfit, 4})
	}
	return 7
}

// tight tells whether a server more doesn't fit below a node or the root.
func (b *book) tight(id int, more api.Server) bool {
	return admit.Kids(b.server(id), append(b.counted(id), more)) != nil
}

// apply does an order to the book, line by line of the chapter's table.
func (b *book) apply(o api.Order) api.Result {
	if o.Kind < 1 || o.Kind > 4 || o.At < 0 || o.At > most {
		return api.Result{Code: 7}
	}
	b.pass(o.At)
	if code := b.code(o); code != 0 {
		return api.Result{Code: code}
	}
	n := b.nodes[o.Id]
	switch o.Kind {
	case 1:
		b.last++
		b.nodes[b.last] = api.Node{Id: b.last, Parent: o.Id, Server: o.Server}
		b.raise(o.Id)
		return api.Result{Id: b.last}
	case 2:
		b.ghosts = append(b.ghosts, api.Ghost{Parent: n.Parent, Server: n.Server, Until: 0})
		n.Server = o.Server
		b.nodes[o.Id] = n
		b.raise(n.Parent)
	case 3:
		delete(b.nodes, o.Id)
		b.ghosts = append(b.ghosts, api.Ghost{Parent: n.Parent, Server: n.Server})
		b.ghosts[len(b.ghosts)-1].Until = b.freed(n.Parent)
	case 4:
		n.Policy, n.Tasks = o.Policy, append([]api.Task(nil), o.Tasks...)
		b.nodes[o.Id] = n
	}
	return api.Result{Id: o.Id}
}

// pass makes a time that is greater the time now; then every ghost whose Until isn't above it is gone.
func (b *book) pass(at int) {
	if at > b.now {
		b.now = at
	}
	var left []api.Ghost
	for _, g := range b.ghosts {
		if g.Until > b.now {
			left = append(left, g)
		}
	}
	b.ghosts = left
}

// raise makes the Until of each ghost below a node the greater of its own and what is freed there.
func (b *book) raise(id int) {
	until := b.freed(id)
	for i := range b.ghosts {
		if b.ghosts[i].Parent == id && b.ghosts[i].Until < until {
			b.ghosts[i].Until = until
		}
	}
}

// Trees and their copies.

func copyNode(n api.Node) api.Node {
	n.Tasks = append([]api.Task(nil), n.Tasks...)
	return n
}

func copyTree(t api.Tree) api.Tree {
	to := api.Tree{Last: t.Last, Now: t.Now, Ghosts: append([]api.Ghost(nil), t.Ghosts...)}
	for _, n := range t.Nodes {
		to.Nodes = append(to.Nodes, copyNode(n))
	}
	return to
}

func equalTasks(a, b []api.Task) bool {
	if len(a) != len(b) {
		return false
	}
	for i := range a {
		if a[i].C != b[i].C || a[i].P != b[i].P || a[i].D != b[i].D || a[i].S != b[i].S {
			return false
		}
	}
	return true
}

func equalServers(a, b api.Server) bool { return a.Kind == b.Kind && a.Q == b.Q && a.T == b.T }

func equalNodes(a, b []api.Node) bool {
	if len(a) != len(b) {
		return false
	}
	for i := range a {
		if a[i].Id != b[i].Id || a[i].Parent != b[i].Parent || a[i].Policy != b[i].Policy {
			return false
		}
		if !equalServers(a[i].Server, b[i].Server) || !equalTasks(a[i].Tasks, b[i].Tasks) {
			return false
		}
	}
	return true
}

func equalGhosts(a, b []api.Ghost) bool {
	if len(a) != len(b) {
		return false
	}
	for i := range a {
		if a[i].Parent != b[i].Parent || !equalServers(a[i].Server, b[i].Server) || a[i].Until != b[i].Until {
			return false
		}
	}
	return true
}

// equal holds trees against one another, field by field.
func equal(a, b api.Tree) bool {
	return a.Last == b.Last && a.Now == b.Now && equalNodes(a.Nodes, b.Nodes) && equalGhosts(a.Ghosts, b.Ghosts)
}

// What is handed in, with spare room behind each list.

const junk = 77

func junkTask() api.Task   { return api.Task{C: junk, P: junk, D: junk, S: junk} }
func junkGhost() api.Ghost { return api.Ghost{Parent: junk, Until: junk} }

func roomyTasks(list []api.Task) []api.Task {
	return append(append([]api.Task(nil), list...), junkTask(), junkTask())[:len(list)]
}

func roomy(t api.Tree) api.Tree {
	var nodes []api.Node
	for _, n := range t.Nodes {
		n.Tasks = roomyTasks(n.Tasks)
		nodes = append(nodes, n)
	}
	more := api.Node{Id: junk, Tasks: []api.Task{junkTask()}}
	t.Nodes = append(nodes, more, more)[:len(t.Nodes)]
	t.Ghosts = append(append([]api.Ghost(nil), t.Ghosts...), junkGhost(), junkGhost())[:len(t.Ghosts)]
	return t
}

func roomyOrder(o api.Order) api.Order {
	o.Tasks = roomyTasks(o.Tasks)
	return o
}

// intactTasks asks that what was made roomy is as it was, the room behind it too.
func intactTasks(list, was []api.Task) bool {
	room := list[len(list) : len(list)+2]
	return equalTasks(list, was) && room[0] == junkTask() && room[1] == junkTask()
}

func intact(t, was api.Tree) bool {
	for i, n := range t.Nodes {
		if !intactTasks(n.Tasks, was.Nodes[i].Tasks) {
			return false
		}
	}
	for _, n := range t.Nodes[len(t.Nodes) : len(t.Nodes)+2] {
		if n.Id != junk || len(n.Tasks) != 1 || n.Tasks[0] != junkTask() {
			return false
		}
	}
	room := t.Ghosts[len(t.Ghosts) : len(t.Ghosts)+2]
	return equal(t, was) && room[0] == junkGhost() && room[1] == junkGhost()
}

// spoil writes over all of an answer's memory, spare room too, and tells whether each list has its own.
func spoil(nodes []api.Node, ghosts []api.Ghost) bool {
	nodes = nodes[:cap(nodes)]
	for i := range nodes {
		list := nodes[i].Tasks[:cap(nodes[i].Tasks)]
		for k := range list {
			list[k] = api.Task{C: -i - 1}
		}
	}
	own := true
	for i := range nodes {
		for _, k := range nodes[i].Tasks[:cap(nodes[i].Tasks)] {
			own = own && k.C == -i-1
		}
		nodes[i] = api.Node{Id: -1}
	}
	ghosts = ghosts[:cap(ghosts)]
	for i := range ghosts {
		ghosts[i] = api.Ghost{Parent: -1}
	}
	return own
}

// Orders.

func server(kind, q, t int) api.Server { return api.Server{Kind: kind, Q: q, T: t} }
func polling(q, t int) api.Server      { return server(1, q, t) }
func sporadic(q, t int) api.Server     { return server(2, q, t) }
func deferrable(q, t int) api.Server   { return server(3, q, t) }

func task(c, p, d, s int) api.Task { return api.Task{C: c, P: p, D: d, S: s} }

func creates(id int, s api.Server, at int) api.Order {
	return api.Order{Kind: 1, Id: id, Server: s, At: at}
}

func resizes(id int, s api.Server, at int) api.Order {
	return api.Order{Kind: 2, Id: id, Server: s, At: at}
}

func deletes(id, at int) api.Order { return api.Order{Kind: 3, Id: id, At: at} }

func binds(id, policy int, at int, tasks ...api.Task) api.Order {
	return api.Order{Kind: 4, Id: id, Policy: policy, Tasks: tasks, At: at}
}

// A walk: a tree that orders make, beside the book of it.

type walk struct {
	t    *testing.T
	tree api.Tree
	book book
	due  []int // of each ghost the time ahead of which it may not go
}

func newWalk(t *testing.T) *walk {
	return &walk{t: t, book: book{nodes: map[int]api.Node{}}}
}

// fork is a walk that goes on from here by itself.
func (w *walk) fork() *walk {
	return &walk{t: w.t, tree: copyTree(w.tree), book: w.book.copy(), due: append([]int(nil), w.due...)}
}

// step applies an order, and holds what comes of it against the book and the promises.
func (w *walk) step(o api.Order) api.Result {
	w.t.Helper()
	before := copyTree(w.tree)
	got := w.apply(o)
	want := w.book.apply(o)
	if got != want || !equal(w.tree, w.book.tree()) {
		w.t.Fatalf("%+v of %+v:\n%+v, %v; want\n%+v, %v", o, before, w.tree, got, w.book.tree(), want)
	}
	if got.Code != 0 {
		w.refused(before, o, got)
	}
	w.counts(before, o, got)
	w.shares()
	for _, id := range []int{0, o.Id, got.Id} {
		w.asks(id)
	}
	return got
}

// apply hands in a copy with spare room, and takes a copy of the answer; then nothing may be shared among them.
func (w *walk) apply(o api.Order) api.Result {
	w.t.Helper()
	tree, order := roomy(w.tree), roomyOrder(o)
	after, got := Apply(tree, order)
	was := w.tree
	w.tree = copyTree(after)
	own := spoil(after.Nodes, after.Ghosts)
	if !own || !intact(tree, was) || !intactTasks(order.Tasks, o.Tasks) {
		w.t.Fatalf("%+v of %+v: lists of the answer share memory, or what was handed in was changed: %+v, %+v", o, was, tree, order)
	}
	return got
}

// refused is P13.3: at most Now and what ghosts there are has changed.
func (w *walk) refused(before api.Tree, o api.Order, got api.Result) {
	w.t.Helper()
	if got.Id != 0 || w.tree.Last != before.Last || !equalNodes(w.tree.Nodes, before.Nodes) {
		w.t.Fatalf("%+v of %+v was refused by %v, and made it %+v", o, before, got, w.tree)
	}
	if !equalGhosts(w.tree.Ghosts, staying(before.Ghosts, w.tree.Now)) {
		w.t.Fatalf("%+v of %+v was refused by %v, and left these ghosts: %+v", o, before, got, w.tree.Ghosts)
	}
}

func staying(list []api.Ghost, now int) []api.Ghost {
	var left []api.Ghost
	for _, g := range list {
		if g.Until > now {
			left = append(left, g)
		}
	}
	return left
}

// counts is P13.4: no ghost goes ahead of its time, which is put off whenever more is counted beside it.
func (w *walk) counts(before api.Tree, o api.Order, got api.Result) {
	w.t.Helper()
	var due []int
	var left []api.Ghost
	for i, g := range before.Ghosts {
		if w.tree.Now < w.due[i] {
			due, left = append(due, w.due[i]), append(left, g)
		}
	}
	if got.Code == 0 && (o.Kind == 2 || o.Kind == 3) {
		n := before.Nodes[slices.IndexFunc(before.Nodes, func(n api.Node) bool { return n.Id == o.Id })]
		due, left = append(due, 0), append(left, api.Ghost{Parent: n.Parent, Server: n.Server})
	}
	if len(left) != len(w.tree.Ghosts) {
		w.t.Fatalf("%+v of %+v left these ghosts: %+v; want %+v", o, before, w.tree.Ghosts, left)
	}
	for i, g := range w.tree.Ghosts {
		grew := got.Code == 0 && (o.Kind == 1 || o.Kind == 2)
		if until := w.book.freed(g.Parent); due[i] == 0 || grew && g.Parent == w.grown(o) {
			due[i] = max(due[i], until)
		}
		if g.Parent != left[i].Parent || g.Server != left[i].Server || g.Until < left[i].Until || g.Until < due[i] {
			w.t.Fatalf("%+v of %+v made of the ghost %+v, which is due at %d, this: %+v", o, before, left[i], due[i], g)
		}
	}
	w.due = due
}

// grown is the node below which an order that was done has put a server more.
func (w *walk) grown(o api.Order) int {
	if o.Kind == 1 {
		return o.Id
	}
	return w.book.nodes[o.Id].Parent
}

// shares is P13.2: what is counted fits below every node and the root, and each guest fits into its node.
func (w *walk) shares() {
	w.t.Helper()
	below := map[int][]api.Server{}
	servers := map[int]api.Server{0: {}}
	for _, n := range w.tree.Nodes {
		below[n.Parent] = append(below[n.Parent], n.Server)
		servers[n.Id] = n.Server
		if n.Policy != 0 && admit.Guest(n.Server, n.Policy, n.Tasks) != nil {
			w.t.Fatalf("the guest of %+v doesn't fit", n)
		}
		if n.Policy == 0 && len(n.Tasks) > 0 {
			w.t.Fatalf("%+v isn't bound and has tasks", n)
		}
	}
	for _, g := range w.tree.Ghosts {
		below[g.Parent] = append(below[g.Parent], g.Server)
	}
	for id, list := range below {
		parent, there := servers[id]
		if err := admit.Kids(parent, list); !there || err != nil {
			w.t.Fatalf("%v don't fit below %d, %v: %v", list, id, parent, err)
		}
	}
}

// done is a step that must be done, and the id that it answers.
func (w *walk) done(o api.Order) int {
	w.t.Helper()
	r := w.step(o)
	if r.Code != 0 {
		w.t.Fatalf("%+v of %+v: %v", o, w.tree, r)
	}
	return r.Id
}

// all are steps that must be done.
func (w *walk) all(list ...api.Order) {
	w.t.Helper()
	for _, o := range list {
		w.done(o)
	}
}

// is tries an order on the side: the walk itself stays where it is.
func (w *walk) is(o api.Order, code int) {
	w.t.Helper()
	if r := w.fork().step(o); r.Code != code {
		w.t.Fatalf("%+v of %+v: %v; want the code %d", o, w.tree, r, code)
	}
}

// untils asks for those of all ghosts, in their order.
func (w *walk) untils(want ...int) {
	w.t.Helper()
	var got []int
	for _, g := range w.tree.Ghosts {
		got = append(got, g.Until)
	}
	if !slices.Equal(got, want) {
		w.t.Fatalf("at %d the ghosts are counted until %v; want %v", w.tree.Now, got, want)
	}
}

// asks holds Find, Kids, Counted, Depth and Server of an id against the book.
func (w *walk) asks(id int) {
	w.t.Helper()
	n, there := w.book.nodes[id]
	tree := roomy(w.tree)
	found, ok := Find(tree, id)
	if ok != there || !equalNodes([]api.Node{found}, []api.Node{n}) {
		w.t.Fatalf("Find of %d: %+v, %v; want %+v, %v", id, found, ok, n, there)
	}
	kids := Kids(tree, id)
	if !equalNodes(kids, w.book.kids(id)) {
		w.t.Fatalf("Kids of %d: %+v; want %+v", id, kids, w.book.kids(id))
	}
	counted := Counted(tree, id)
	if !slices.Equal(counted, w.book.counted(id)) {
		w.t.Fatalf("Counted of %d: %v; want %v", id, counted, w.book.counted(id))
	}
	if got := Depth(tree, id); got != w.book.depth(id) {
		w.t.Fatalf("Depth of %d: %d; want %d", id, got, w.book.depth(id))
	}
	if s, ok := Server(tree, id); ok != (there || id == 0) || s != n.Server {
		w.t.Fatalf("Server of %d: %v, %v", id, s, ok)
	}
	clear(counted[:cap(counted)])
	own := spoil([]api.Node{found}, nil) && spoil(kids, nil)
	if !own || !intact(tree, w.tree) {
		w.t.Fatalf("what is told of %d shares memory, or the tree was changed: %+v", id, tree)
	}
}

// asksAll asks for all ids up to one behind the last, and for some that no node ever has.
func (w *walk) asksAll() {
	w.t.Helper()
	for id := -2; id <= w.tree.Last+2; id++ {
		w.asks(id)
	}
	for _, id := range []int{math.MinInt, math.MinInt + 1, -most, most, most + 1, math.MaxInt - 1, math.MaxInt} {
		w.asks(id)
	}
}

// Wrong inputs.

// ends are numbers far outside.
func ends() []int { return []int{math.MinInt, math.MinInt + 1, -most, math.MaxInt - 1, math.MaxInt} }

// wrongTimes are below 0 or above MaxTime.
func wrongTimes() []int { return append(ends(), -2, -1, most+1, most+2) }

// wrongKinds are none of the four.
func wrongKinds() []int { return append(ends(), -1, 0, 5, 6, 7, 257) }

// wrongServers aren't legal, many of them beside one that is.
func wrongServers() []api.Server {
	list := []api.Server{{}, server(0, 1, 1), server(0, 0, 10), server(0, 1, 10), server(-1, 1, 10), server(4, 1, 10)}
	for _, end := range ends() {
		list = append(list, server(end, 1, 10))
	}
	for kind := 1; kind <= 3; kind++ {
		list = append(list, server(kind, 0, 0), server(kind, 0, 10), server(kind, -1, 10), server(kind, 11, 10), server(kind, 1, 0), server(kind, -2, -1), server(kind, 1, 257), server(kind, 257, 257))
		for _, end := range ends() {
			list = append(list, server(kind, end, 10), server(kind, 1, end), server(kind, end, end))
		}
	}
	return list
}

// wrongTasks aren't legal, many of them beside one that is.
func wrongTasks() []api.Task {
	list := []api.Task{
		{}, task(0, 60, 60, 0), task(-1, 60, 60, -1), task(61, 60, 60, 0), task(3, 60, 2, 0), task(1, 60, 61, 0), task(1, 59, 60, 0),
		task(1, 60, 60, 2), task(1, 60, 60, -1), task(1, 257, 257, 0), task(1, 257, 60, 0), task(1, 60, 0, 0), task(1, 0, 0, 0),
	}
	for _, end := range ends() {
		list = append(list, task(end, 60, 60, 0), task(1, end, 60, 0), task(1, 60, end, 0), task(1, 60, 60, end))
	}
	return list
}

// wrongPolicies are none of the two.
func wrongPolicies() []int { return append(ends(), -1, 0, 3, 4) }
