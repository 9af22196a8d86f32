package net

import (
	"bytes"
	"math/rand"
	"slices"
	"strconv"
	"testing"

	"almoner/api"
)

// P17.2: letters as often and with the bytes that were sent, whatever is written over; what is handed in is neither changed nor kept.

// tally counts by text how often letters were sent and doubled, lost, and delivered; it is kept by the answers of the net alone.
type tally struct {
	t      *testing.T
	n      *Net
	random *rand.Rand
	texts  map[int]string // of every number that was given
	to     map[int]int
	came   map[string]int // sent and doubled, less lost
	out    map[string]int // delivered
}

func newTally(t *testing.T, random *rand.Rand) *tally {
	return &tally{t: t, n: New(), random: random, texts: map[int]string{}, to: map[int]int{}, came: map[string]int{}, out: map[string]int{}}
}

// send hands in a list with spare room, and writes over both behind the call.
func (a *tally) send(text string) {
	room := append([]byte(text), "spare"...)
	to := a.random.Intn(7)
	number, err := a.n.Send(a.random.Intn(7), to, room[:len(text)])
	if string(room) != text+"spare" {
		a.t.Fatalf("Send changed %q to %q", text+"spare", room)
	}
	if err != nil {
		a.t.Fatal(err)
	}
	smear(room)
	a.note(number, to, text)
}

func (a *tally) note(number, to int, text string) {
	if _, there := a.texts[number]; there {
		a.t.Fatalf("the number %d was given twice", number)
	}
	a.texts[number], a.to[number] = text, to
	a.came[text]++
}

func (a *tally) copyOf(number int) {
	made, err := a.n.Copy(number)
	if err != nil {
		a.t.Fatal(err)
	}
	a.note(made, a.to[number], a.texts[number])
}

func (a *tally) drop(number int) {
	if err := a.n.Drop(number); err != nil {
		a.t.Fatal(err)
	}
	a.came[a.texts[number]]--
}

func (a *tally) lose(node int) {
	before := a.n.Waiting()
	lost := a.n.Lose(node)
	for _, number := range before {
		if a.to[number] == node {
			a.came[a.texts[number]]--
			lost--
		}
	}
	if lost != 0 {
		a.t.Fatalf("Lose(%d) told %d too many", node, lost)
	}
}

// deliver writes over the letter's bytes and the room behind them.
func (a *tally) deliver(number int) {
	letter, err := a.n.Deliver(number)
	if err != nil || letter.Number != number || letter.To != a.to[number] || string(letter.Bytes) != a.texts[number] {
		a.t.Fatalf("Deliver(%d) = %+v, %v; want %q to %d", number, letter, err, a.texts[number], a.to[number])
	}
	a.out[string(letter.Bytes)]++
	smear(letter.Bytes[:cap(letter.Bytes)])
	_ = append(letter.Bytes, "behind"...)
}

// smear writes over bytes.
func smear(b []byte) {
	for i := range b {
		b[i] ^= 0x55
	}
}

func (a *tally) step(i int) {
	list := a.n.Waiting()
	if len(list) == 0 || a.random.Intn(3) == 0 {
		a.send("letter " + strconv.Itoa(i))
		return
	}
	number, _ := a.n.Nth(a.random.Int())
	switch a.random.Intn(12) {
	case 0, 1, 2, 3:
		a.copyOf(number)
	case 4, 5:
		a.drop(number)
	case 6:
		a.lose(a.random.Intn(7))
	default:
		a.deliver(number)
	}
	smearList(list)
}

// smearList writes over numbers, and behind them.
func smearList(list []int) {
	for i := range list {
		list[i] = -99
	}
	_ = append(list, -98, -97)
}

func TestLettersAsOftenAsTheyWereSent(t *testing.T) {
	random := rand.New(rand.NewSource(173))
	often := 0
	for range 200 {
		a := newTally(t, random)
		for i := range 200 {
			a.step(i)
		}
		for _, number := range a.n.Waiting() {
			a.deliver(number)
		}
		for text, want := range a.came {
			if a.out[text] != want {
				t.Fatalf("%q was delivered %d times, want %d", text, a.out[text], want)
			}
			if want > 2 {
				often++
			}
		}
		if len(a.n.Waiting()) != 0 {
			t.Fatal(a.n.Waiting())
		}
	}
	if often < 500 {
		t.Errorf("only %d letters were doubled twice", often)
	}
}

func TestSendKeepsNothing(t *testing.T) {
	room := []byte("abcdef")
	one, other := New(), New()
	_, _ = one.Send(0, 1, room[:3])
	_, _ = other.Send(0, 1, room[:3])
	_, _ = one.Send(0, 1, room[3:])
	if string(room) != "abcdef" {
		t.Fatalf("changed to %q", room)
	}
	smear(room)
	for _, n := range []*Net{one, other} {
		if l, err := n.Deliver(1); string(l.Bytes) != "abc" || err != nil {
			t.Errorf("%q, %v", l.Bytes, err)
		}
	}
	if l, err := one.Deliver(2); string(l.Bytes) != "def" || err != nil {
		t.Errorf("%q, %v", l.Bytes, err)
	}
}

// A letter and its copies share no memory, in whatever order they are delivered.
func TestCopiesShareNothing(t *testing.T) {
	for row := range 6 {
		n := New()
		_, _ = n.Send(3, 4, []byte("text"))
		_, _ = n.Copy(1)
		_, _ = n.Copy(2)
		list := [][]int{{1, 2, 3}, {1, 3, 2}, {2, 1, 3}, {2, 3, 1}, {3, 1, 2}, {3, 2, 1}}[row]
		for _, number := range list {
			l, err := n.Deliver(number)
			if string(l.Bytes) != "text" || err != nil {
				t.Errorf("%d of %v: %q, %v", number, list, l.Bytes, err)
			}
			smear(l.Bytes[:cap(l.Bytes)])
		}
	}
}

// Nothing behind the length of what was sent is handed out.
func TestSpareRoomIsNotHandedOut(t *testing.T) {
	room := bytes.Repeat([]byte{'q'}, 100)
	n := New()
	_, _ = n.Send(0, 0, room[:10])
	_, _ = n.Copy(1)
	for number := 1; number <= 2; number++ {
		l, _ := n.Deliver(number)
		if bytes.Count(l.Bytes[:cap(l.Bytes)], []byte{'q'}) != 10 {
			t.Errorf("%q", l.Bytes[:cap(l.Bytes)])
		}
	}
}

func TestWaitingIsNewMemory(t *testing.T) {
	n := New()
	for range 5 {
		_, _ = n.Send(0, 1, nil)
	}
	first, second := n.Waiting(), n.Waiting()
	smearList(first)
	want := []int{1, 2, 3, 4, 5}
	if !slices.Equal(second, want) || !slices.Equal(n.Waiting(), want) {
		t.Error(second, n.Waiting())
	}
	_, _ = n.Deliver(2)
	if !slices.Equal(second, want) {
		t.Error(second)
	}
}

// Put neither changes nor keeps the message; its bytes are new each time.
func TestPutKeepsNothing(t *testing.T) {
	spare := api.Entry{Client: -7}
	task := api.Task{C: 1, P: 2, D: 3, S: 4}
	tasks := []api.Task{task, task, {C: -7}}
	bind := api.Entry{Client: 1, Number: 1, Order: api.Order{Kind: api.OrdBind, Tasks: tasks[:2]}}
	ledger := []api.Entry{bind, bind, spare}
	m := api.Message{Kind: api.MsgAccept, Ballot: api.Ballot{Round: 1}, Ledger: ledger[:2]}
	first, err := Put(m)
	if err != nil {
		t.Fatal(err)
	}
	second, _ := Put(m)
	if tasks[0] != task || tasks[1] != task || tasks[2].C != -7 || ledger[2].Client != -7 || ledger[0].Client != 1 || len(m.Ledger) != 2 {
		t.Fatalf("%+v, %+v", tasks, ledger)
	}
	want := bytes.Clone(first)
	smear(first[:cap(first)])
	tasks[0].C, ledger[1].Client = 9, 9
	if !bytes.Equal(second, want) {
		t.Errorf("%x, want %x", second, want)
	}
}

// Get neither changes nor keeps the bytes, and no two lists of its answers share memory.
func TestGetKeepsNothing(t *testing.T) {
	m := fullMessage(api.MsgAccept, 3)
	b := sealed(messageBytes(m))
	room := append(bytes.Clone(b), "spare"...)
	first, err := Get(room[:len(b)])
	if err != nil {
		t.Fatal(err)
	}
	second, _ := Get(room[:len(b)])
	if string(room) != string(b)+"spare" {
		t.Fatalf("%x was changed to %x", b, room)
	}
	smear(room)
	if !sameMessage(first, m) || !sameMessage(second, m) {
		t.Fatalf("%+v, want %+v", first, m)
	}
	for i := range first.Ledger[0].Order.Tasks {
		first.Ledger[0].Order.Tasks[i].C = 99
	}
	first.Ledger[0].Order.Tasks = append(first.Ledger[0].Order.Tasks, api.Task{C: 98})
	if !slices.Equal(first.Ledger[1].Order.Tasks, m.Ledger[1].Order.Tasks) || !sameMessage(second, m) {
		t.Fatalf("%+v, %+v", first, second)
	}
	first.Ledger[2] = api.Entry{}
	if !sameMessage(second, m) {
		t.Fatalf("%+v", second)
	}
}
