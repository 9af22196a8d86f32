package desk

import (
	"bytes"
	"slices"
	"testing"

	"almoner/api"
)

// Nothing that is handed in is changed or kept, and what is answered is new memory.

// smear writes over all of a list of bytes, its spare room too.
func smear(b []byte) {
	b = b[:cap(b)]
	for i := range b {
		b[i] ^= 0xa5
	}
}

func smearTasks(list []api.Task) {
	list = list[:cap(list)]
	for i := range list {
		list[i] = task(-9, -9, -9, -9)
	}
}

func smearLedger(list []api.Entry) {
	for i := range list {
		smearTasks(list[i].Order.Tasks)
		list[i] = entry(-9, -9, api.Order{Kind: -9})
	}
}

func TestPutAskKeepsNothing(t *testing.T) {
	spare := task(-7, -7, -7, -7)
	one := task(1, 60, 60, 0)
	room := []api.Task{one, one, spare}
	a := asks(1, 2, binds(3, 1, 4, room[:2]...))
	want := framed(askBytes(a))
	first, err := PutAsk(a)
	second, _ := PutAsk(a)
	if err != nil || !slices.Equal(room, []api.Task{one, one, spare}) || len(a.Order.Tasks) != 2 {
		t.Fatalf("%v, %+v", err, room)
	}
	smear(first)
	smearTasks(room)
	if !bytes.Equal(second, want) {
		t.Errorf("%x, want %x", second, want)
	}
	// A question that is refused stays too.
	a = asksForTree(1, 2)
	a.Order.Tasks = []api.Task{one}
	if _, err := PutAsk(a); err != api.ErrState || a.Order.Tasks[0] != one {
		t.Errorf("%v, %+v", err, a)
	}
}

func TestGetAskKeepsNothing(t *testing.T) {
	want := asks(1, 2, binds(3, 1, 4, task(1, 60, 60, 0), task(2, 70, 65, 1)))
	b := framed(askBytes(want))
	room := append(bytes.Clone(b), "spare"...)
	first, err := GetAsk(room[:len(b)])
	second, _ := GetAsk(room[:len(b)])
	if err != nil || string(room) != string(b)+"spare" {
		t.Fatalf("%v, %x", err, room)
	}
	smear(room)
	if !sameAsk(first, want) {
		t.Errorf("%+v, want %+v", first, want)
	}
	smearTasks(first.Order.Tasks)
	third, _ := GetAsk(b)
	if !sameAsk(second, want) || !sameAsk(third, want) {
		t.Errorf("%+v, %+v, want %+v", second, third, want)
	}
}

func TestPutReplyKeepsNothing(t *testing.T) {
	room := []byte{1, 2, 3, 99}
	r := api.Reply{Client: 1, Number: 2, Tree: room[:3]}
	want := framed(replyBytes(r))
	first, err := PutReply(r)
	second, _ := PutReply(r)
	if err != nil || !bytes.Equal(room, []byte{1, 2, 3, 99}) || len(r.Tree) != 3 {
		t.Fatalf("%v, %x", err, room)
	}
	smear(first)
	smear(room)
	if !bytes.Equal(second, want) {
		t.Errorf("%x, want %x", second, want)
	}
}

func TestGetReplyKeepsNothing(t *testing.T) {
	want := api.Reply{Client: 1, Number: 2, Tree: bytesUpTo(300)}
	b := framed(replyBytes(want))
	room := append(bytes.Clone(b), "spare"...)
	first, err := GetReply(room[:len(b)])
	second, _ := GetReply(room[:len(b)])
	if err != nil || string(room) != string(b)+"spare" {
		t.Fatalf("%v, %x", err, room)
	}
	smear(room)
	if !sameReply(first, want) {
		t.Errorf("%+v, want %+v", first, want)
	}
	smear(first.Tree)
	third, _ := GetReply(b)
	if !sameReply(second, want) || !sameReply(third, want) {
		t.Errorf("%+v, %+v, want %+v", second, third, want)
	}
}

// guests is a ledger whose fold has several guests and a ghost.
func guests() []api.Entry {
	var ledger []api.Entry
	for id := range 3 {
		ledger = append(ledger, entry(1, 10+id, creates(0, server(2, 2, 10), 0)))
	}
	for id := range 2 {
		ledger = append(ledger, entry(2, 10+id, binds(1+id, 1, 0, task(1, 100, 100, 0), task(1, 200, 200, 0))))
	}
	return append(ledger, entry(3, 10, deletes(3, 0)))
}

func TestFoldKeepsNothing(t *testing.T) {
	ledger := guests()
	want, results := done(ledger)
	if len(want.Nodes) != 2 || len(want.Ghosts) != 1 || len(want.Nodes[1].Tasks) != 2 {
		t.Fatalf("%+v", want)
	}
	room := append(copiedAll(ledger), entry(4, 4, deletes(1, 1)))
	for i := range room {
		room[i].Order.Tasks = append(room[i].Order.Tasks, task(-7, -7, -7, -7))[:len(room[i].Order.Tasks)]
	}
	held := room[:len(ledger)]
	first, second := Fold(held), Fold(held)
	firstResults, secondResults := Results(held), Results(held)
	asked, _ := Answer(held, asksForTree(1, 1))
	again, _ := Answer(held, asksForTree(1, 1))
	if !slices.EqualFunc(held, ledger, sameEntry) || !sameEntry(room[len(ledger)], entry(4, 4, deletes(1, 1))) {
		t.Fatalf("%+v", room)
	}
	for i := range held {
		if tasks := held[i].Order.Tasks; cap(tasks) > len(tasks) && tasks[:len(tasks)+1][len(tasks)] != task(-7, -7, -7, -7) {
			t.Fatalf("the spare room of entry %d: %+v", i, tasks[:len(tasks)+1])
		}
	}
	smearLedger(room)
	if !sameTree(first, want) || !slices.Equal(firstResults, results) {
		t.Fatalf("%+v, %+v", first, firstResults)
	}
	// No two lists share memory: not those of two nodes, and not those of two answers.
	first.Nodes[0].Tasks = append(first.Nodes[0].Tasks, task(5, 5, 5, 5))
	smearTasks(first.Nodes[0].Tasks)
	if !slices.Equal(first.Nodes[1].Tasks, want.Nodes[1].Tasks) {
		t.Errorf("%+v", first)
	}
	smearTasks(first.Nodes[1].Tasks)
	first.Nodes[1], first.Ghosts[0] = api.Node{}, api.Ghost{}
	clear(firstResults)
	smear(asked.Tree)
	if !sameTree(second, want) || !slices.Equal(secondResults, results) || !bytes.Equal(again.Tree, treeBytes(want)) {
		t.Errorf("%+v, %+v, %+v", second, secondResults, again)
	}
	foldsRight(t, ledger)
}

func sameEntry(a, b api.Entry) bool { return bytes.Equal(entryBytes(a), entryBytes(b)) }

// Answer changes neither the ledger nor the question, and doesn't look behind the ledger's length.
func TestAnswerKeepsNothing(t *testing.T) {
	ledger := guests()
	room := append(copiedAll(ledger), entry(1, 20, deletes(1, 1)))
	tasks := []api.Task{task(1, 2, 3, 4), task(-7, -7, -7, -7)}
	held := room[:len(ledger)]
	for _, a := range near(room) {
		a.Order = binds(1, 1, 1, tasks[:1]...)
		answersAs(t, held, a)
	}
	answerIs(t, held, asks(1, 20, deletes(1, 1)), api.Reply{}, false)
	answerIs(t, held, asks(1, 19, deletes(1, 1)), api.Reply{}, false)
	if !slices.EqualFunc(room, append(ledger, entry(1, 20, deletes(1, 1))), sameEntry) {
		t.Errorf("%+v", room)
	}
	if tasks[0] != task(1, 2, 3, 4) || tasks[1] != task(-7, -7, -7, -7) {
		t.Errorf("%+v", tasks)
	}
	a := asks(1, 2, binds(1, 1, 1, tasks[:1]...))
	if Refuse(a, 7); tasks[0] != task(1, 2, 3, 4) || tasks[1] != task(-7, -7, -7, -7) {
		t.Errorf("%+v", tasks)
	}
}
