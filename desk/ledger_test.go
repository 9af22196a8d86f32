package desk

import (
	"bytes"
	"math"
	"math/rand"
	"slices"
	"testing"

	"almoner/api"
	"almoner/tree"
)

// P20.1 and P20.3: folds and results of ledgers, and what a ledger answers.

// foldsRight holds Fold and Results of a ledger against layer 13's Apply, order by order.
func foldsRight(t *testing.T, ledger []api.Entry) []api.Result {
	t.Helper()
	want, wantResults := done(ledger)
	if got := Fold(ledger); !sameTree(got, want) {
		t.Fatalf("Fold(%+v) = %+v, want %+v", ledger, got, want)
	}
	got := Results(ledger)
	if !slices.Equal(got, wantResults) {
		t.Fatalf("Results(%+v) = %+v, want %+v", ledger, got, wantResults)
	}
	return got
}

// answerIs holds Answer against one that is written out.
func answerIs(t *testing.T, ledger []api.Entry, a api.Ask, want api.Reply, wantOk bool) {
	t.Helper()
	got, ok := Answer(ledger, a)
	if !sameReply(got, want) || ok != wantOk || got.Tree == nil != (len(want.Tree) == 0) {
		t.Fatalf("Answer(%+v, %+v) = %+v, %v; want %+v, %v", ledger, a, got, ok, want, wantOk)
	}
}

// answersAs holds Answer against the words.
func answersAs(t *testing.T, ledger []api.Entry, a api.Ask) (api.Reply, bool) {
	t.Helper()
	want, ok := told(ledger, a)
	answerIs(t, ledger, a, want, ok)
	return want, ok
}

// written is a ledger whose results and fold are written out.
func written() []api.Entry {
	return []api.Entry{
		entry(1, 1, creates(0, server(1, 2, 10), 0)),
		entry(1, 2, creates(1, server(1, 1, 10), 0)), // its parent may be silent too long
		entry(2, 7, deletes(1, 5)),                   // its ghost stays until 7
		entry(1, 3, creates(0, server(1, 9, 10), 6)),
		entry(1, 5, creates(0, server(1, 9, 10), 7)),
		entry(0, 9, binds(2, 3, 8, task(1, 60, 60, 0))), // no such policy
		entry(3, 1, binds(2, 1, 9, task(2, 100, 90, 1))),
	}
}

func TestLedgerWrittenOut(t *testing.T) {
	ledger := written()
	want := []api.Result{{Id: 1}, {Code: 4}, {Id: 1}, {Code: 4}, {Id: 2}, {Code: 8}, {Id: 2}}
	if got := foldsRight(t, ledger); !slices.Equal(got, want) {
		t.Fatalf("%+v, want %+v", got, want)
	}
	last := Fold(ledger)
	if len(last.Nodes) != 1 || len(last.Ghosts) != 0 || last.Last != 2 || last.Now != 9 {
		t.Errorf("%+v", last)
	}
	bytesOfTree := unhex(t, "02 09 01 02 00 01 09 0a 01 01 02 64 5a 01 00")
	for place, e := range ledger {
		reply := api.Reply{Client: e.Client, Number: e.Number, Code: want[place].Code, Id: want[place].Id}
		answerIs(t, ledger, asks(e.Client, e.Number, e.Order), reply, true)
		answerIs(t, ledger, asksForTree(e.Client, e.Number), api.Reply{Client: e.Client, Number: e.Number, Tree: bytesOfTree}, true)
	}
	answerIs(t, ledger, asks(1, 4, deletes(1, 1)), api.Reply{Client: 1, Number: 4, Code: 102}, true)
	answerIs(t, ledger, asks(1, 6, deletes(1, 1)), api.Reply{}, false)
	answerIs(t, ledger, asks(0, 8, deletes(1, 1)), api.Reply{Client: 0, Number: 8, Code: 102}, true)
	answerIs(t, ledger, asks(0, 10, deletes(1, 1)), api.Reply{}, false)
	answerIs(t, ledger, asks(4, 1, deletes(1, 1)), api.Reply{}, false)
	answerIs(t, ledger[:2], asksForTree(5, 5), api.Reply{Client: 5, Number: 5, Tree: unhex(t, "01 00 01 01 00 01 02 0a 00 00 00")}, true)
	answerIs(t, ledger[:3], asksForTree(5, 5), api.Reply{Client: 5, Number: 5, Tree: unhex(t, "01 05 00 01 00 01 02 0a 07")}, true)
}

// The chapter's examples.
func TestExamplesOfAnswers(t *testing.T) {
	a := asks(1, 4, creates(0, server(1, 1, 4), 0))
	answerIs(t, nil, a, api.Reply{}, false)
	ledger := []api.Entry{entry(1, 5, a.Order)}
	answerIs(t, ledger, a, api.Reply{Client: 1, Number: 4, Code: 102}, true)
	a.Number = 5
	answerIs(t, ledger, a, api.Reply{Client: 1, Number: 5, Id: 1}, true)
	a.Number = 6
	answerIs(t, ledger, a, api.Reply{}, false)
}

func TestEmptyLedger(t *testing.T) {
	for _, ledger := range [][]api.Entry{nil, {}, written()[:0]} {
		if got := Fold(ledger); !sameTree(got, api.Tree{}) {
			t.Errorf("%+v", got)
		}
		if got := Results(ledger); len(got) != 0 {
			t.Errorf("%+v", got)
		}
		for client := range 16 {
			for _, number := range []int{1, 2, farthest} {
				answerIs(t, ledger, asks(client, number, deletes(1, 1)), api.Reply{}, false)
				answerIs(t, ledger, asksForTree(client, number), api.Reply{Client: client, Number: number, Tree: []byte{0, 0, 0, 0}}, true)
			}
		}
	}
}

// near are questions of every client, of the numbers that its entries have, of one less and of one more.
func near(ledger []api.Entry) []api.Ask {
	o := creates(0, server(1, 1, 9), 1)
	list := []api.Ask{asksForTree(0, 1), asksForTree(15, farthest)}
	for client := range 16 {
		list = append(list, asks(client, 1, o), asks(client, farthest, o))
	}
	for _, e := range ledger {
		for _, number := range []int{e.Number - 1, e.Number, e.Number + 1} {
			for client := range 6 {
				list = append(list, asks(client, number, o))
			}
		}
	}
	return list
}

func TestManyLedgers(t *testing.T) {
	random := rand.New(rand.NewSource(2005))
	var codes [9]int
	var old, by, nothing int
	for i := range 200 {
		m := newMaker(random, i%2 == 0)
		ledger := m.goesOn(nil, pick(random, 1, 2, 3, 8, 20, 40, 64))
		for _, r := range foldsRight(t, ledger) {
			codes[r.Code]++
		}
		questions := near(ledger)
		random.Shuffle(len(questions), func(i, j int) { questions[i], questions[j] = questions[j], questions[i] })
		for _, a := range questions[:20] {
			switch r, ok := answersAs(t, ledger, a); {
			case !ok:
				nothing++
			case r.Code == 102:
				old++
			case a.Kind == 1:
				by++
			}
		}
		answersAs(t, ledger, asksForTree(i%16, i+1))
	}
	for _, code := range []int{0, 1, 2, 3, 4, 5, 7} {
		if codes[code] < 20 {
			t.Errorf("the code %d came only %d times", code, codes[code])
		}
	}
	if old < 200 || by < 200 || nothing < 200 {
		t.Errorf("of little use: %d old, %d by an entry, %d nothing", old, by, nothing)
	}
}

// Every question near every entry of some ledgers.
func TestQuestionsNearEveryEntry(t *testing.T) {
	random := rand.New(rand.NewSource(2006))
	for _, rising := range []bool{true, false} {
		for _, size := range []int{1, 2, 5, 9} {
			ledger := newMaker(random, rising).goesOn(nil, size)
			for _, a := range near(ledger) {
				answersAs(t, ledger, a)
			}
		}
	}
}

// A full ledger, and longer ones.
func TestFullLedgers(t *testing.T) {
	random := rand.New(rand.NewSource(2007))
	for _, size := range []int{63, 64, 65, 130} {
		ledger := newMaker(random, true).goesOn(nil, size)
		if got := foldsRight(t, ledger); len(got) != size {
			t.Fatalf("%d results of %d entries", len(got), size)
		}
		for _, e := range []api.Entry{ledger[0], ledger[size/2], ledger[size-1]} {
			for number := e.Number - 1; number <= e.Number+1; number++ {
				answersAs(t, ledger, asks(e.Client, number, e.Order))
			}
		}
	}
}

// Of a Kind that is none, nothing, whatever else the question has.
func TestKindsThatAreNone(t *testing.T) {
	for _, ledger := range [][]api.Entry{nil, written()} {
		for _, kind := range []int{math.MinInt, -2, -1, 0, 3, 4, 5, 257, math.MaxInt} {
			for _, number := range []int{0, 1, 2, 4} {
				answerIs(t, ledger, api.Ask{Kind: kind, Client: 1, Number: number, Order: deletes(1, 1)}, api.Reply{}, false)
			}
		}
	}
}

// Only Kind, Client and Number are asked, in form or not; and so of the ledger's entries.
func TestQuestionsAndLedgersOutOfForm(t *testing.T) {
	ledger := append(written(), entry(-1, -5, api.Order{}), entry(99, 0, deletes(-1, -1)), entry(1, farthest+1, deletes(1, farthest+1)))
	foldsRight(t, ledger)
	for _, client := range []int{math.MinInt, -1, 0, 1, 16, 99, math.MaxInt} {
		for _, number := range []int{math.MinInt, -6, -5, -4, -1, 0, 1, 2, farthest, farthest + 1, farthest + 2, math.MaxInt} {
			for _, o := range []api.Order{{}, deletes(5, 5), {Kind: 9, Id: -1}} {
				answersAs(t, ledger, asks(client, number, o))
				answersAs(t, nil, asks(client, number, o))
			}
			a := asksForTree(client, number)
			a.Order = deletes(1, 1)
			answersAs(t, ledger, a)
		}
	}
	answerIs(t, ledger, asks(-1, -6, api.Order{}), api.Reply{Client: -1, Number: -6, Code: 102}, true)
	answerIs(t, ledger, asks(-1, -4, api.Order{}), api.Reply{}, false)
	answerIs(t, ledger, asks(99, 0, api.Order{}), api.Reply{Client: 99, Code: 7}, true)
	// One without an entry of its own has none with a greater Number, however low its own.
	answerIs(t, ledger, asks(7, -1, api.Order{}), api.Reply{}, false)
}

// Of several entries of one Client and Number the first one answers; all are done.
func TestEntriesThatComeTwice(t *testing.T) {
	ledger := []api.Entry{
		entry(1, 1, creates(0, server(2, 1, 10), 0)),
		entry(1, 1, creates(0, server(2, 1, 10), 0)),
		entry(1, 1, creates(0, server(2, 0, 10), 0)),
		entry(2, 1, creates(0, server(2, 2, 10), 0)),
	}
	if got := foldsRight(t, ledger); !slices.Equal(got, []api.Result{{Id: 1}, {Id: 2}, {Code: 7}, {Id: 3}}) {
		t.Errorf("%+v", got)
	}
	for first := range ledger {
		answersAs(t, ledger[first:], asks(1, 1, api.Order{}))
		answersAs(t, ledger[first:], asks(2, 1, api.Order{}))
	}
	answerIs(t, ledger, asks(1, 1, deletes(9, 9)), api.Reply{Client: 1, Number: 1, Id: 1}, true)
	answerIs(t, ledger[2:], asks(1, 1, deletes(9, 9)), api.Reply{Client: 1, Number: 1, Code: 7}, true)
	answerIs(t, ledger, asks(2, 1, deletes(9, 9)), api.Reply{Client: 2, Number: 1, Id: 3}, true)
}

// The bytes of a tree that is answered are those of the fold, and a frame has room for them.
func TestAnsweredTreesAreFramed(t *testing.T) {
	random := rand.New(rand.NewSource(2008))
	for range 30 {
		ledger := newMaker(random, true).goesOn(nil, 64)
		reply, ok := Answer(ledger, asksForTree(3, 4))
		got, err := tree.Get(reply.Tree)
		if !ok || err != nil || !sameTree(got, Fold(ledger)) {
			t.Fatalf("%+v, %v: %+v, %v", reply, ok, got, err)
		}
		answersRight(t, reply)
		if !replyFits(reply) {
			t.Fatalf("a tree of %d bytes", len(reply.Tree))
		}
	}
}

// wide is a ledger that makes a great tree: guests of many tasks, and nodes with as many kids as there may be.
func wide() []api.Entry {
	var ledger []api.Entry
	add := func(o api.Order) { ledger = append(ledger, entry(1, len(ledger)+1, o)) }
	tasks := slices.Repeat([]api.Task{task(1, 250, 250, 1)}, 8)
	for range 7 {
		add(creates(0, server(2, 10, 80), farthest-2))
	}
	for range 8 {
		add(creates(6, server(2, 1, 250), farthest-1))
		add(creates(7, server(2, 1, 250), farthest-1))
	}
	for id := range 5 {
		add(binds(1+id, 1, farthest-1, tasks...))
	}
	for id := range 8 {
		add(deletes(8+id, farthest))
	}
	return ledger
}

func TestGreatTree(t *testing.T) {
	ledger := wide()
	for i, r := range foldsRight(t, ledger) {
		if r.Code != 0 {
			t.Errorf("the code of entry %d: %d", i, r.Code)
		}
	}
	reply, ok := answersAs(t, ledger, asksForTree(1, 1))
	if !ok || len(reply.Tree) < 400 || !answersRight(t, reply) {
		t.Errorf("%d bytes, %v", len(reply.Tree), ok)
	}
}

func TestRefuse(t *testing.T) {
	list := append(goodAsks(), api.Ask{}, asks(-1, -1, deletes(0, 0)), asksForTree(math.MaxInt, math.MinInt), api.Ask{Kind: 9, Client: 3, Number: 4})
	for _, a := range list {
		for _, code := range []int{math.MinInt, -1, 0, 1, 8, 100, 101, 102, 103, farthest, math.MaxInt} {
			want := api.Reply{Client: a.Client, Number: a.Number, Code: code}
			if got := Refuse(a, code); !sameReply(got, want) || got.Tree != nil {
				t.Errorf("Refuse(%+v, %d) = %+v", a, code, got)
			}
		}
	}
}

// P20.3: what a ledger answers to an order, longer ones answer too. Where each client's numbers rise, that is so of all answers.
func TestLongerLedgersAnswerTheSame(t *testing.T) {
	random := rand.New(rand.NewSource(2009))
	var by, old, nothing int
	for range 60 {
		m := newMaker(random, true)
		short := m.goesOn(nil, random.Intn(12))
		long := m.goesOn(short, 1+random.Intn(20))
		for _, a := range near(short) {
			if a.Kind != 1 {
				continue
			}
			first, ok := Answer(short, a)
			if !ok {
				nothing++
				continue
			}
			for _, size := range []int{len(short) + 1, len(long)} {
				answerIs(t, long[:size], a, first, true)
			}
			if first.Code == 102 {
				old++
			} else {
				by++
			}
		}
	}
	if by < 300 || old < 300 || nothing < 300 {
		t.Errorf("of little use: %d by an entry, %d old, %d nothing", by, old, nothing)
	}
}

// Whatever stands behind: any numbers, entries that come again, such as aren't in form. Only an entry of just the number that was too old makes an answer other than what it was: the words ask for the entry first.
func TestAnswersWhateverStandsBehind(t *testing.T) {
	random := rand.New(rand.NewSource(2010))
	var by, old, came int
	for range 60 {
		short := newMaker(random, false).goesOn(nil, 1+random.Intn(10))
		long := newMaker(random, false).goesOn(short, 1+random.Intn(20))
		long = append(long, entry(1, -5, deletes(-1, -1)), entry(-1, 3, api.Order{}), copied(short[0]))
		for _, a := range near(short) {
			first, ok := Answer(short, a)
			if a.Kind != 1 || !ok {
				continue
			}
			own := slices.ContainsFunc(long, func(e api.Entry) bool { return e.Client == a.Client && e.Number == a.Number })
			switch {
			case first.Code != 102:
				by++
				answerIs(t, long, a, first, true)
			case !own:
				old++
				answerIs(t, long, a, first, true)
			default:
				came++
				answersAs(t, long, a)
			}
		}
	}
	if by < 300 || old < 300 || came < 100 {
		t.Errorf("of little use: %d by an entry, %d old, %d came behind", by, old, came)
	}
}

// An older number that stands behind a greater one has an entry, and so has its result.
func TestOlderNumberBehindAGreaterOne(t *testing.T) {
	o := creates(0, server(1, 1, 4), 0)
	ledger := []api.Entry{entry(1, 5, o), entry(1, 4, o)}
	answerIs(t, ledger[:1], asks(1, 4, o), api.Reply{Client: 1, Number: 4, Code: 102}, true)
	answerIs(t, ledger, asks(1, 4, o), api.Reply{Client: 1, Number: 4, Id: 2}, true)
	answerIs(t, ledger, asks(1, 3, o), api.Reply{Client: 1, Number: 3, Code: 102}, true)
	answerIs(t, ledger, asks(1, 5, o), api.Reply{Client: 1, Number: 5, Id: 1}, true)
}

// The tree that is answered is that of the whole ledger.
func TestTreeOfEveryBeginning(t *testing.T) {
	ledger := written()
	var before []byte
	for size := range len(ledger) + 1 {
		r, ok := answersAs(t, ledger[:size], asksForTree(1, 1))
		if !ok || bytes.Equal(r.Tree, before) && size != 2 {
			t.Errorf("%d entries: %x", size, r.Tree)
		}
		before = r.Tree
	}
}
