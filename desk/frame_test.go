package desk

import (
	"bytes"
	"encoding/hex"
	"math"
	"math/rand"
	"slices"
	"strings"
	"testing"

	"almoner/api"
)

// P20.1 and P20.2: which questions and answers are in form, their frames, there and back, and bytes that are refused.

// asksRight holds PutAsk of a question against the words, and GetAsk of its frame; it tells whether the question is in form.
func asksRight(t *testing.T, a api.Ask) bool {
	t.Helper()
	b, err := PutAsk(a)
	if !askFits(a) {
		if b != nil || err != api.ErrState {
			t.Fatalf("PutAsk(%+v) = %x, %v", a, b, err)
		}
		isNoAsk(t, askBytes(a))
		return false
	}
	if want := framed(askBytes(a)); !bytes.Equal(b, want) || err != nil {
		t.Fatalf("PutAsk(%+v) = %x, %v; want %x", a, b, err, want)
	}
	if got, err := GetAsk(b); !sameAsk(got, a) || err != nil {
		t.Fatalf("GetAsk of PutAsk of %+v = %+v, %v", a, got, err)
	}
	return true
}

// answersRight does so of an answer.
func answersRight(t *testing.T, r api.Reply) bool {
	t.Helper()
	b, err := PutReply(r)
	if !replyFits(r) {
		if b != nil || err != api.ErrState {
			t.Fatalf("PutReply(%+v) = %x, %v", r, b, err)
		}
		isNoReply(t, replyBytes(r))
		return false
	}
	if want := framed(replyBytes(r)); !bytes.Equal(b, want) || err != nil {
		t.Fatalf("PutReply(%+v) = %x, %v; want %x", r, b, err, want)
	}
	if got, err := GetReply(b); !sameReply(got, r) || err != nil {
		t.Fatalf("GetReply of PutReply of %+v = %+v, %v", r, got, err)
	}
	return true
}

func isZeroAsk(a api.Ask) bool { return sameAsk(a, api.Ask{}) && a.Order.Tasks == nil }

func isZeroReply(r api.Reply) bool { return sameReply(r, api.Reply{}) && r.Tree == nil }

// refusesAsk asks that bytes are refused as a question.
func refusesAsk(t *testing.T, b []byte) {
	t.Helper()
	if got, err := GetAsk(b); !isZeroAsk(got) || err != api.ErrBytes {
		t.Fatalf("GetAsk(%x) = %+v, %v", b, got, err)
	}
}

func refusesReply(t *testing.T, b []byte) {
	t.Helper()
	if got, err := GetReply(b); !isZeroReply(got) || err != api.ErrBytes {
		t.Fatalf("GetReply(%x) = %+v, %v", b, got, err)
	}
}

// isNoAsk asks that a payload, framed, is refused.
func isNoAsk(t *testing.T, payload []byte) { t.Helper(); refusesAsk(t, framed(payload)) }

func isNoReply(t *testing.T, payload []byte) { t.Helper(); refusesReply(t, framed(payload)) }

// getsAsk holds GetAsk of any payload, framed, against the words.
func getsAsk(t *testing.T, payload []byte) bool {
	t.Helper()
	want, ok := plainAsk(payload)
	if !ok {
		isNoAsk(t, payload)
		return false
	}
	if got, err := GetAsk(framed(payload)); !sameAsk(got, want) || err != nil {
		t.Fatalf("GetAsk of %x, framed, = %+v, %v; want %+v", payload, got, err, want)
	}
	return true
}

func getsReply(t *testing.T, payload []byte) bool {
	t.Helper()
	want, ok := plainReply(payload)
	if !ok {
		isNoReply(t, payload)
		return false
	}
	if got, err := GetReply(framed(payload)); !sameReply(got, want) || err != nil {
		t.Fatalf("GetReply of %x, framed, = %+v, %v; want %+v", payload, got, err, want)
	}
	return true
}

func unhex(t *testing.T, text string) []byte {
	t.Helper()
	b, err := hex.DecodeString(strings.ReplaceAll(text, " ", ""))
	if err != nil {
		t.Fatal(err)
	}
	return b
}

// Frames written out, number by number.
func TestFramesWrittenOut(t *testing.T) {
	for _, c := range []struct {
		a       api.Ask
		payload string
	}{
		{asksForTree(1, 2), "02 01 02"},
		{asksForTree(15, 300), "02 0f ac02"},
		{asks(1, 2, deletes(5, 7)), "01 01 02 0a 01 02 03 07 05 00 00 00 00 00"},
		{asks(0, 128, creates(2, server(1, 2, 200), 0)), "01 00 8001 0c 00 8001 01 00 02 01 02 c801 00 00"},
		{asks(3, 1, resizes(4, server(2, 5, 10), 6)), "01 03 01 0a 03 01 02 06 04 02 05 0a 00 00"},
		{asks(9, 9, binds(1, 2, 3, task(4, 60, 50, 1))), "01 09 09 0e 09 09 04 03 01 00 00 00 02 01 04 3c 32 01"},
	} {
		want := framed(unhex(t, c.payload))
		if got, err := PutAsk(c.a); !bytes.Equal(got, want) || err != nil {
			t.Errorf("PutAsk(%+v) = %x, %v; want %x", c.a, got, err, want)
		}
		if got, err := GetAsk(want); !sameAsk(got, c.a) || err != nil {
			t.Errorf("GetAsk(%x) = %+v, %v; want %+v", want, got, err, c.a)
		}
	}
	for _, c := range []struct {
		r       api.Reply
		payload string
	}{
		{api.Reply{}, "00 00 00 00 00"},
		{api.Reply{Client: 1, Number: 4, Code: 102}, "01 04 66 00 00"},
		{api.Reply{Client: 2, Number: 300, Code: 0, Id: 128}, "02 ac02 00 8001 00"},
		{api.Reply{Client: 15, Number: 1, Tree: []byte{0, 7, 0, 0}}, "0f 01 00 00 04 00070000"},
	} {
		want := framed(unhex(t, c.payload))
		if got, err := PutReply(c.r); !bytes.Equal(got, want) || err != nil {
			t.Errorf("PutReply(%+v) = %x, %v; want %x", c.r, got, err, want)
		}
		if got, err := GetReply(want); !sameReply(got, c.r) || err != nil {
			t.Errorf("GetReply(%x) = %+v, %v; want %+v", want, got, err, c.r)
		}
	}
	// The chapter's example, with the frame's eight bytes too.
	if b, err := PutAsk(asksForTree(1, 2)); !bytes.Equal(b, unhex(t, "03000000 02 01 02 e0411558")) || err != nil {
		t.Errorf("%x, %v", b, err)
	}
}

func TestInForm(t *testing.T) {
	for _, a := range goodAsks() {
		if !asksRight(t, a) {
			t.Errorf("%+v isn't in form", a)
		}
	}
	for _, r := range goodReplies() {
		if !answersRight(t, r) {
			t.Errorf("%+v isn't in form", r)
		}
	}
}

// Each question, with one thing of it made wrong.
func TestAsksOutOfFormInOneWay(t *testing.T) {
	for _, a := range goodAsks() {
		for _, wrong := range []func(a *api.Ask){
			func(a *api.Ask) { a.Kind = 0 },
			func(a *api.Ask) { a.Kind = 3 },
			func(a *api.Ask) { a.Kind = 4 },
			func(a *api.Ask) { a.Kind = -1 },
			func(a *api.Ask) { a.Kind = math.MaxInt },
			func(a *api.Ask) { a.Client = -1 },
			func(a *api.Ask) { a.Client = 16 },
			func(a *api.Ask) { a.Client = math.MinInt },
			func(a *api.Ask) { a.Number = 0 },
			func(a *api.Ask) { a.Number = -1 },
			func(a *api.Ask) { a.Number = farthest + 1 },
			func(a *api.Ask) { a.Order.Kind = 5 },
			func(a *api.Ask) { a.Order.Kind = -1 },
			func(a *api.Ask) { a.Order.Id = -1 },
			func(a *api.Ask) { a.Order.Id = farthest + 1 },
			func(a *api.Ask) { a.Order.At = -1 },
			func(a *api.Ask) { a.Order.At = farthest + 1 },
			func(a *api.Ask) { a.Order.Server.Kind = -1 },
			func(a *api.Ask) { a.Order.Server.Q = farthest + 1 },
			func(a *api.Ask) { a.Order.Server.T = -1 },
			func(a *api.Ask) { a.Order.Policy = farthest + 1 },
			func(a *api.Ask) { a.Order.Tasks = make([]api.Task, 9) },
			func(a *api.Ask) { a.Order.Tasks = []api.Task{task(-1, 0, 0, 0)} },
			func(a *api.Ask) { a.Order.Tasks = []api.Task{task(0, farthest+1, 0, 0)} },
			func(a *api.Ask) { a.Order.Tasks = append(a.Order.Tasks, task(0, 0, -1, 0)) },
			func(a *api.Ask) { a.Order.Tasks = append(a.Order.Tasks, task(0, 0, 0, farthest+1)) },
		} {
			other := copiedAsk(a)
			wrong(&other)
			if asksRight(t, other) {
				t.Fatalf("%+v is in form", other)
			}
		}
	}
}

// Of AskTree, an order of which one field isn't zero; of AskOrder, none at all.
func TestKindsAndOrders(t *testing.T) {
	for _, n := range []int{-1, 1, 2, farthest, farthest + 1} {
		for at := range 7 {
			a := asksForTree(1, 2)
			*askPlaces(&a)[3+at] = n
			if asksRight(t, a) {
				t.Fatalf("%+v is in form", a)
			}
		}
	}
	for _, tasks := range [][]api.Task{make([]api.Task, 1), make([]api.Task, 8), {task(1, 1, 1, 0)}} {
		a := asksForTree(1, 2)
		a.Order.Tasks = tasks
		if asksRight(t, a) {
			t.Fatalf("%+v is in form", a)
		}
	}
	// A list without tasks is none, whatever stands behind it.
	a := asksForTree(1, 2)
	a.Order.Tasks = make([]api.Task, 0, 3)
	if !asksRight(t, a) {
		t.Errorf("%+v isn't in form", a)
	}
	if asksRight(t, asks(1, 2, api.Order{})) || asksRight(t, api.Ask{}) {
		t.Error("a question without an order is in form")
	}
}

func TestClientsAndNumbers(t *testing.T) {
	for _, o := range []api.Order{{}, deletes(1, 2)} {
		kind := api.AskTree
		if o.Kind != 0 {
			kind = api.AskOrder
		}
		for client := -2; client <= 18; client++ {
			for _, number := range []int{-1, 0, 1, 2, farthest - 1, farthest, farthest + 1} {
				want := client >= 0 && client < 16 && number >= 1 && number <= farthest
				if asksRight(t, api.Ask{Kind: kind, Client: client, Number: number, Order: o}) != want {
					t.Fatalf("client %d, number %d", client, number)
				}
			}
		}
	}
}

func TestEveryNumberOfAnAsk(t *testing.T) {
	in, out := 0, 0
	for _, a := range goodAsks() {
		for at := range askPlaces(&a) {
			for _, n := range numbers() {
				other := copiedAsk(a)
				*askPlaces(&other)[at] = n
				if asksRight(t, other) {
					in++
				} else {
					out++
				}
			}
		}
	}
	if in < 500 || out < 1000 {
		t.Errorf("of little use: %d in form, %d not", in, out)
	}
}

// Two numbers at once: a wrong one isn't made good by another.
func TestPairsOfNumbersOfAnAsk(t *testing.T) {
	list := []int{-1, 0, 1, 2, 3, 4, 15, 16, farthest, farthest + 1}
	for _, a := range goodAsks()[:12] {
		for one := range askPlaces(&a) {
			for other := range one {
				for _, n := range list {
					for _, m := range list {
						both := copiedAsk(a)
						*askPlaces(&both)[one], *askPlaces(&both)[other] = n, m
						asksRight(t, both)
					}
				}
			}
		}
	}
}

func TestEveryNumberOfAReply(t *testing.T) {
	for _, r := range goodReplies() {
		for at := range replyPlaces(&r) {
			for _, n := range numbers() {
				other := r
				*replyPlaces(&other)[at] = n
				if answersRight(t, other) != (n >= 0 && n <= farthest) {
					t.Fatalf("%+v", other)
				}
			}
		}
	}
}

func TestTreesOfEverySize(t *testing.T) {
	for _, size := range []int{0, 1, 127, 128, 15999, 16000, 16001, 16384, 32000, 32768, 100000} {
		if answersRight(t, api.Reply{Client: 1, Number: 2, Tree: bytesUpTo(size)}) != (size <= 16000) {
			t.Errorf("a tree of %d bytes", size)
		}
	}
	if MaxTree != 16000 {
		t.Error(MaxTree)
	}
}

func TestManyThereAndBack(t *testing.T) {
	random := rand.New(rand.NewSource(2001))
	var kinds [3]int
	var orders [5]int
	trees := 0
	for range 20000 {
		a, r := anyAsk(random), anyReply(random)
		if !asksRight(t, a) || !answersRight(t, r) {
			t.Fatalf("%+v or %+v isn't in form", a, r)
		}
		kinds[a.Kind]++
		orders[a.Order.Kind]++
		if len(r.Tree) > 0 {
			trees++
		}
	}
	if slices.Min(kinds[1:]) < 1000 || slices.Min(orders[1:]) < 1000 || trees < 1000 {
		t.Errorf("of little use: %v, %v, %d", kinds, orders, trees)
	}
}

// payload is what a frame has in it: a question or an answer.
type payload struct {
	bytes []byte
	asks  bool
}

// short are payloads that are gone through byte by byte.
func short() []payload {
	var list []payload
	for _, a := range goodAsks() {
		list = append(list, payload{askBytes(a), true})
	}
	for _, r := range goodReplies() {
		list = append(list, payload{replyBytes(r), false})
	}
	return slices.DeleteFunc(list, func(p payload) bool { return len(p.bytes) > 400 })
}

// isNone asks that a payload, framed, is refused by the call that reads such ones.
func (p payload) isNone(t *testing.T, b []byte) { t.Helper(); p.refuses(t, framed(b)) }

func (p payload) refuses(t *testing.T, b []byte) {
	t.Helper()
	if p.asks {
		refusesAsk(t, b)
	} else {
		refusesReply(t, b)
	}
}

// gets holds the call that reads such payloads against the words.
func (p payload) gets(t *testing.T, b []byte) bool {
	t.Helper()
	if p.asks {
		return getsAsk(t, b)
	}
	return getsReply(t, b)
}

func TestFramesCutOrTooLong(t *testing.T) {
	for _, p := range short() {
		whole := framed(p.bytes)
		for size := range whole {
			p.refuses(t, whole[:size])
			p.refuses(t, whole[size+1:])
		}
		for more := range 256 {
			p.refuses(t, append(bytes.Clone(whole), byte(more)))
		}
		p.refuses(t, slices.Concat(whole, whole))
		p.refuses(t, slices.Concat(whole, framed(nil)))
		p.refuses(t, slices.Concat(framed(nil), whole))
		p.refuses(t, slices.Concat([]byte{0}, whole))
		p.refuses(t, p.bytes)
		p.refuses(t, framed(whole))
	}
	for _, b := range [][]byte{nil, {}, {0}, {0, 0, 0, 0}, framed(nil), {1, 128, 0, 0}, {255, 255, 255, 255, 0, 0, 0, 0}} {
		refusesAsk(t, b)
		refusesReply(t, b)
	}
}

func TestPayloadsCutOrTooLong(t *testing.T) {
	for _, p := range short() {
		for size := range p.bytes {
			p.isNone(t, p.bytes[:size])
		}
		for more := range 256 {
			p.isNone(t, append(bytes.Clone(p.bytes), byte(more)))
		}
		p.isNone(t, slices.Concat(p.bytes, p.bytes))
		// As long as a payload may be, and one byte more.
		for _, size := range []int{32768, 32769} {
			long := make([]byte, size)
			copy(long, p.bytes)
			p.isNone(t, long)
		}
	}
}

// Each single bit behind the first four bytes; and those of the first four too.
func TestTurnedBits(t *testing.T) {
	list := append(short(), payload{replyBytes(api.Reply{Tree: bytesUpTo(1000)}), false})
	for _, p := range list {
		whole := framed(p.bytes)
		for at := range whole {
			for bit := range 8 {
				whole[at] ^= 1 << bit
				p.refuses(t, whole)
				whole[at] ^= 1 << bit
			}
		}
		if p.gets(t, p.bytes) != true {
			t.Fatalf("%x is none", p.bytes)
		}
	}
}

// The frame of an answer is read as a question only if its bytes are those of one too, and the other way round: an answer's first numbers may tell a Kind, and what stands behind an entry.
func TestAskOrReply(t *testing.T) {
	random := rand.New(rand.NewSource(2002))
	both := 0
	for range 20000 {
		a, r := anyAsk(random), anyReply(random)
		if getsReply(t, askBytes(a)) || getsAsk(t, replyBytes(r)) {
			both++
		}
	}
	if both > 1000 {
		t.Errorf("of little use: %d of 20000 are a question and an answer", both)
	}
	for _, p := range short() {
		p.asks = !p.asks
		p.gets(t, p.bytes)
	}
	for _, r := range goodReplies() {
		isNoAsk(t, replyBytes(r))
	}
	isNoAsk(t, replyBytes(api.Reply{Client: 2, Number: 1, Code: 2}))
	isNoReply(t, askBytes(asksForTree(1, 2)))
	isNoReply(t, askBytes(asks(1, 2, deletes(5, 7))))
}

// An entry within a question that isn't this Client's, or hasn't this Number, or isn't one in form.
func TestEntriesWithinAnAsk(t *testing.T) {
	o := creates(1, server(2, 5, 10), 3)
	within := func(client, number int, e api.Entry) []byte {
		return append(nums(1, client, number), listBytes(entryBytes(e))...)
	}
	if !getsAsk(t, within(1, 4, entry(1, 4, o))) {
		t.Error("refused")
	}
	for _, e := range []api.Entry{
		entry(2, 4, o), entry(0, 4, o), entry(1, 5, o), entry(1, 3, o), entry(4, 1, o), entry(15, farthest, o),
		entry(1, 0, o), entry(16, 4, o), entry(1, farthest+1, o), entry(1, 4, api.Order{}),
		entry(1, 4, api.Order{Kind: 3, Server: server(0, 0, 1)}), entry(1, 4, api.Order{Kind: 5}),
		entry(1, 4, creates(farthest+1, server(1, 1, 1), 0)),
		entry(1, 4, binds(1, 1, 1, make([]api.Task, 9)...)),
	} {
		isNoAsk(t, within(1, 4, e))
	}
	for _, c := range []struct{ client, number int }{{16, 4}, {1, 0}, {1, farthest + 1}, {1, 5}, {2, 4}} {
		isNoAsk(t, within(c.client, c.number, entry(1, 4, o)))
	}
	// Both the same, and none may be so.
	for _, c := range []struct{ client, number int }{{16, 4}, {1, 0}, {1, farthest + 1}} {
		isNoAsk(t, within(c.client, c.number, entry(c.client, c.number, o)))
	}
	head, e := nums(1, 1, 4), entryBytes(entry(1, 4, o))
	for _, b := range [][]byte{
		head,
		append(bytes.Clone(head), 0),
		slices.Concat(head, e),
		slices.Concat(head, listBytes(append(bytes.Clone(e), 0))),
		slices.Concat(head, listBytes(e[:len(e)-1])),
		slices.Concat(head, nums(len(e)+1), e),
		slices.Concat(head, nums(len(e)-1), e),
		slices.Concat(head, nums(math.MaxInt), e),
		slices.Concat(head, listBytes(e), []byte{0}),
		slices.Concat(head, listBytes(e), listBytes(e)),
		slices.Concat(nums(2, 1, 4), listBytes(e)),
		slices.Concat(nums(2, 1, 4), []byte{0}),
		slices.Concat(nums(0, 1, 4), listBytes(e)),
		slices.Concat(nums(3, 1, 4), listBytes(e)),
		nums(0, 1, 4),
		nums(3, 1, 4),
	} {
		isNoAsk(t, b)
	}
}

// The numbers of an answer that its bytes tell as too great, and its tree.
func TestRepliesOutOfForm(t *testing.T) {
	for at := range 4 {
		list := []int{1, 2, 3, 4}
		for _, n := range []int{farthest, farthest + 1, math.MaxInt} {
			list[at] = n
			if getsReply(t, append(nums(list...), 0)) != (n == farthest) {
				t.Fatal(list)
			}
		}
	}
	for _, b := range [][]byte{
		slices.Concat(nums(1, 2, 3, 4)),
		slices.Concat(nums(1, 2, 3, 4, 1)),
		slices.Concat(nums(1, 2, 3, 4, 0), []byte{0}),
		slices.Concat(nums(1, 2, 3, 4, 3), []byte{1, 2}),
		slices.Concat(nums(1, 2, 3, 4, 1), []byte{1, 2}),
		slices.Concat(nums(1, 2, 3, 4, math.MaxInt), []byte{1, 2}),
		slices.Concat(nums(1, 2, 3, 4), listBytes(bytesUpTo(16001))),
		slices.Concat(nums(1, 2, 3, 4), listBytes(bytesUpTo(32758))),
	} {
		isNoReply(t, b)
	}
}

// Each number in a form that isn't the shortest, or that is too long for any number.
func TestNumbersOutOfForm(t *testing.T) {
	e := entryBytes(asksEntry())
	for _, c := range []struct {
		asks bool
		list []int
		rest []byte
	}{
		{true, []int{2, 1, 4}, nil},
		{true, []int{1, 1, 4, len(e)}, e},
		{false, []int{1, 300, 0, 5, 2}, []byte{7, 7}},
		{false, []int{0, 0, 0, 0, 0}, nil},
	} {
		p := payload{slices.Concat(nums(c.list...), c.rest), c.asks}
		if !p.gets(t, p.bytes) {
			t.Fatalf("%x is none", p.bytes)
		}
		for at := range c.list {
			for _, form := range longForms() {
				var b []byte
				for i, n := range c.list {
					one := nums(n)
					if i == at {
						one = form(one)
					}
					b = append(b, one...)
				}
				if p.gets(t, append(b, c.rest...)) {
					t.Fatalf("%x was read", b)
				}
			}
		}
	}
}

// Each number of an entry within a question too.
func TestNumbersOutOfFormWithinAnEntry(t *testing.T) {
	a := asks(5, 300, binds(1, 1, 2, task(1, 200, 100, 1)))
	o := a.Order
	list := []int{a.Client, a.Number, o.Kind, o.At, o.Id, 0, 0, 0, o.Policy, 1, 1, 200, 100, 1}
	if !bytes.Equal(nums(list...), entryBytes(entryFor(a))) {
		t.Fatal("another entry")
	}
	for at := range list {
		for _, form := range longForms() {
			var b []byte
			for i, n := range list {
				one := nums(n)
				if i == at {
					one = form(one)
				}
				b = append(b, one...)
			}
			isNoAsk(t, append(nums(1, a.Client, a.Number), listBytes(b)...))
		}
	}
}

func asksEntry() api.Entry { return entry(1, 4, creates(1, server(2, 5, 10), 3)) }

// longForms write a number, whose shortest form is given, in ways in which none is read.
func longForms() []func(b []byte) []byte {
	return []func(b []byte) []byte{
		func(b []byte) []byte { b[len(b)-1] |= 0x80; return append(b, 0) },
		func(b []byte) []byte { b[len(b)-1] |= 0x80; return append(b, 0x80, 0) },
		func(b []byte) []byte { b[len(b)-1] |= 0x80; return append(b, bytes.Repeat([]byte{0x80}, 12)...) },
		func([]byte) []byte { return append(bytes.Repeat([]byte{0xff}, 8), 0x7f) },
		func([]byte) []byte { return append(bytes.Repeat([]byte{0xff}, 9), 0x01) },
	}
}

// Payloads of which some bytes are changed, put in or left out, and others by chance.
func TestPayloadsByChance(t *testing.T) {
	random := rand.New(rand.NewSource(2003))
	list := short()
	read, not := 0, 0
	for range 60000 {
		p := pick(random, list...)
		b := bytes.Clone(p.bytes)
		for range 1 + random.Intn(3) {
			at := random.Intn(len(b) + 1)
			switch random.Intn(3) {
			case 0:
				b = slices.Insert(b, at, byte(random.Intn(256)))
			case 1:
				b = slices.Delete(b, at, min(len(b), at+1))
			case 2:
				b = append(b[:at:at], append([]byte{byte(random.Intn(20))}, b[min(len(b), at+1):]...)...)
			}
		}
		if p.gets(t, b) {
			read++
		} else {
			not++
		}
	}
	if read < 3000 || not < 3000 {
		t.Errorf("of little use: %d read, %d not", read, not)
	}
}

// Bytes that are no frame at all, or one by chance.
func TestBytesByChance(t *testing.T) {
	random := rand.New(rand.NewSource(2004))
	for range 30000 {
		b := make([]byte, random.Intn(30))
		_, _ = random.Read(b)
		if len(b) > 4 && random.Intn(2) == 0 {
			copy(b, []byte{byte(len(b) - 8), 0, 0, 0})
		}
		if _, whole := unframed(b); whole {
			continue
		}
		refusesAsk(t, b)
		refusesReply(t, b)
	}
}
