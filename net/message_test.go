package net

import (
	"bytes"
	"encoding/hex"
	"math"
	"math/rand"
	"slices"
	"strings"
	"testing"

	"almoner/api"
)

// P17.1 and P17.3: which messages are in form, their bytes, there and back, and bytes that are refused.

// isRight holds Check and Put of a message against the words, and Get of its bytes; it tells whether the message is in form.
func isRight(t *testing.T, m api.Message) bool {
	t.Helper()
	if !inForm(m) {
		isRefused(t, m)
		return false
	}
	if err := Check(m); err != nil {
		t.Fatalf("Check(%+v) = %v", m, err)
	}
	b, err := Put(m)
	if want := sealed(messageBytes(m)); !bytes.Equal(b, want) || err != nil {
		t.Fatalf("Put(%+v) = %x, %v; want %x", m, b, err, want)
	}
	if got, err := Get(b); !sameMessage(got, m) || err != nil {
		t.Fatalf("Get of Put of %+v = %+v, %v", m, got, err)
	}
	return true
}

// isRefused asks that a message isn't in form, and that its bytes, if there are such, are refused too.
func isRefused(t *testing.T, m api.Message) {
	t.Helper()
	if err := Check(m); err != api.ErrState {
		t.Fatalf("Check(%+v) = %v", m, err)
	}
	if b, err := Put(m); b != nil || err != api.ErrState {
		t.Fatalf("Put(%+v) = %x, %v", m, b, err)
	}
	isNoMessage(t, messageBytes(m))
}

// isNoMessage asks that bytes, sealed, are refused.
func isNoMessage(t *testing.T, b []byte) {
	t.Helper()
	if got, err := Get(sealed(b)); !isNothing(got) || err != api.ErrBytes {
		t.Fatalf("Get of %x, sealed, = %+v, %v", b, got, err)
	}
}

func isNothing(m api.Message) bool { return m.Ledger == nil && sameMessage(m, api.Message{}) }

func TestBytesOfMessages(t *testing.T) {
	deletes := entry(1, 2, api.Order{Kind: api.OrdDelete, Id: 5, At: 7})
	for _, c := range []struct {
		m    api.Message
		want string
	}{
		{api.Message{Kind: api.MsgPrepare, To: 1, Job: 1, Ballot: ballot(1, 0)},
			"01 00 01 01 01 00 00 00 01 00 e7 23 65 9a"},
		{api.Message{Kind: api.MsgRefused, From: 5, To: 4, Job: 128, Ballot: ballot(1, 0), Accepted: ballot(300, 6)},
			"05 05 04 80 01 01 00 ac 02 06 01 00 d6 82 67 c4"},
		{api.Message{Kind: api.MsgPromise, From: 1, To: 2, Ballot: ballot(3, 0), Accepted: ballot(1, 2), Ledger: []api.Entry{deletes}},
			"02 01 02 00 03 00 01 02 0c 01 0a 01 02 03 07 05 00 00 00 00 00 68 4c 12 fd"},
	} {
		want, err := hex.DecodeString(strings.ReplaceAll(c.want, " ", ""))
		if err != nil {
			t.Fatal(err)
		}
		if got, err := Put(c.m); !bytes.Equal(got, want) || err != nil {
			t.Errorf("Put(%+v) = %x, %v; want %x", c.m, got, err, want)
		}
		if got, err := Get(want); !sameMessage(got, c.m) || err != nil {
			t.Errorf("Get(%x) = %+v, %v; want %+v", want, got, err, c.m)
		}
	}
}

func TestMessagesInForm(t *testing.T) {
	for _, m := range goodMessages() {
		if !isRight(t, m) {
			t.Errorf("%+v isn't in form", m)
		}
	}
}

// Each message, with one thing of it made wrong.
func TestMessagesOutOfFormInOneWay(t *testing.T) {
	badEntry := entry(0, 0, api.Order{Kind: api.OrdDelete})
	for _, m := range goodMessages() {
		for _, wrong := range []func(m *api.Message){
			func(m *api.Message) { m.Kind = 0 },
			func(m *api.Message) { m.Kind = 6 },
			func(m *api.Message) { m.Kind = -1 },
			func(m *api.Message) { m.Kind = math.MaxInt },
			func(m *api.Message) { m.From = -1 },
			func(m *api.Message) { m.From = 7 },
			func(m *api.Message) { m.To = -1 },
			func(m *api.Message) { m.To = 7 },
			func(m *api.Message) { m.Job = -1 },
			func(m *api.Message) { m.Job = most + 1 },
			func(m *api.Message) { m.Ballot.Round = 0 },
			func(m *api.Message) { m.Ballot.Round = -1 },
			func(m *api.Message) { m.Ballot.Round = most + 1 },
			func(m *api.Message) { m.Ballot.Node = -1 },
			func(m *api.Message) { m.Ballot.Node = 7 },
			func(m *api.Message) { m.Ballot = api.Ballot{} },
			func(m *api.Message) { m.Accepted = ballot(0, 1) },
			func(m *api.Message) { m.Accepted = ballot(-1, 0) },
			func(m *api.Message) { m.Accepted = ballot(most+1, 0) },
			func(m *api.Message) { m.Accepted = ballot(1, -1) },
			func(m *api.Message) { m.Accepted = ballot(1, 7) },
			func(m *api.Message) { m.Ledger = someLedger(65) },
			func(m *api.Message) { m.Ledger = append(slices.Clone(m.Ledger), badEntry) },
			func(m *api.Message) { m.Ledger = append([]api.Entry{badEntry}, m.Ledger...) },
		} {
			other := m
			wrong(&other)
			isRefused(t, other)
		}
	}
}

// What was accepted, and the ledger, by Kind: every one of them with each.
func TestWhatAKindAllows(t *testing.T) {
	const (
		neither = iota
		ledgerOnly
		acceptedOnly
		both
	)
	allowed := map[int][]int{
		api.MsgPrepare:  {neither},
		api.MsgPromise:  {neither, acceptedOnly, both},
		api.MsgAccept:   {neither, ledgerOnly},
		api.MsgAccepted: {neither},
		api.MsgRefused:  {acceptedOnly},
	}
	for kind := -1; kind <= 7; kind++ {
		for way := range 4 {
			for _, size := range []int{1, 2, 64} {
				for _, b := range []api.Ballot{ballot(1, 0), ballot(1, 6), ballot(most, 0), ballot(most, 6)} {
					m := api.Message{Kind: kind, From: 1, To: 2, Job: 3, Ballot: ballot(4, 5)}
					if way == acceptedOnly || way == both {
						m.Accepted = b
					}
					if way == ledgerOnly || way == both {
						m.Ledger = someLedger(size)
					}
					if got, want := isRight(t, m), slices.Contains(allowed[kind], way); got != want {
						t.Fatalf("%+v in form: %v", m, got)
					}
				}
			}
		}
	}
}

func TestEveryNumberOfAMessage(t *testing.T) {
	in, out := 0, 0
	for _, m := range goodMessages() {
		m.Ledger = m.Ledger[:min(2, len(m.Ledger))]
		for at := range headPlaces(&m) {
			for _, n := range numbers() {
				other := m
				*headPlaces(&other)[at] = n
				if isRight(t, other) {
					in++
				} else {
					out++
				}
			}
		}
	}
	if in < 300 || out < 1000 {
		t.Errorf("of little use: %d in form, %d not", in, out)
	}
}

// Two numbers at once: a wrong one isn't made good by another.
func TestPairsOfNumbersOfAMessage(t *testing.T) {
	list := []int{-1, 0, 1, 4, 6, 7, most, most + 1}
	for _, m := range goodMessages() {
		m.Ledger = m.Ledger[:min(1, len(m.Ledger))]
		for one := range headPlaces(&m) {
			for other := range one {
				for _, a := range list {
					for _, b := range list {
						both := m
						*headPlaces(&both)[one], *headPlaces(&both)[other] = a, b
						isRight(t, both)
					}
				}
			}
		}
	}
}

// Every number of every entry of a ledger, in messages that have one.
func TestEveryNumberOfALedger(t *testing.T) {
	in, out := 0, 0
	for _, kind := range []int{api.MsgPromise, api.MsgAccept} {
		for place, e := range someEntries() {
			for at := range entryPlaces(&e) {
				for _, n := range numbers() {
					m := api.Message{Kind: kind, Ballot: ballot(2, 2), Ledger: someLedger(len(someEntries()))}
					if kind == api.MsgPromise {
						m.Accepted = ballot(1, 1)
					}
					*entryPlaces(&m.Ledger[place])[at] = n
					if isRight(t, m) {
						in++
					} else {
						out++
					}
				}
			}
		}
	}
	if in < 500 || out < 500 {
		t.Errorf("of little use: %d in form, %d not", in, out)
	}
}

func TestLedgersOfEverySize(t *testing.T) {
	for size := range 68 {
		for _, m := range []api.Message{
			{Kind: api.MsgAccept, Ballot: ballot(1, 0), Ledger: someLedger(size)},
			{Kind: api.MsgPromise, Ballot: ballot(1, 0), Accepted: ballot(1, 0), Ledger: someLedger(size)},
		} {
			if isRight(t, m) != (size <= 64) {
				t.Fatalf("a ledger of %d entries", size)
			}
		}
	}
	huge := api.Message{Kind: api.MsgAccept, Ballot: ballot(1, 0), Ledger: make([]api.Entry, 100000)}
	if Check(huge) != api.ErrState {
		t.Error("100000 entries")
	}
	ninth := fullMessage(api.MsgAccept, 1)
	tasks := &ninth.Ledger[0].Order.Tasks
	*tasks = append(*tasks, (*tasks)[0])
	isRefused(t, ninth)
}

// What lies behind a ledger's length is no part of the message.
func TestSpareRoomOfALedger(t *testing.T) {
	room := []api.Entry{entry(1, 1, api.Order{Kind: api.OrdDelete}), entry(-1, -1, api.Order{})}
	for size, kind := range []int{api.MsgPrepare, api.MsgAccept} {
		m := api.Message{Kind: kind, Ballot: ballot(1, 1), Ledger: room[:size]}
		if !isRight(t, m) {
			t.Errorf("%+v isn't in form", m)
		}
	}
}

func TestManyMessagesThereAndBack(t *testing.T) {
	r := rand.New(rand.NewSource(174))
	var kinds, ledgers [6]int
	for range 20000 {
		m := anyMessage(r)
		if !isRight(t, m) {
			t.Fatalf("%+v isn't in form", m)
		}
		kinds[m.Kind]++
		if len(m.Ledger) > 0 {
			ledgers[m.Kind]++
		}
	}
	if slices.Min(kinds[1:]) < 1000 || ledgers[api.MsgPromise] < 1000 || ledgers[api.MsgAccept] < 1000 {
		t.Errorf("of little use: %v, with ledgers %v", kinds, ledgers)
	}
}

// Get and bytes that are none.

func TestGetOfFewerThanFourBytes(t *testing.T) {
	for _, b := range [][]byte{nil, {}, {0}, {1, 2}, {0, 0, 0}, []byte("\x81\x1c\x9d")} {
		if m, err := Get(b); !isNothing(m) || err != api.ErrBytes {
			t.Errorf("Get(%x) = %+v, %v", b, m, err)
		}
	}
	// No bytes, sealed: the sum is right, and there is no message.
	isNoMessage(t, nil)
	// A wrong sum is told ahead of bytes that are none.
	for _, b := range []string{"\x00\x00\x00\x00", "nothing at all", "\x01\x00\x00\x00\x01\x00\x00\x00\x01\x00"} {
		if m, err := Get([]byte(b)); !isNothing(m) || err != api.ErrSum {
			t.Errorf("Get(%x) = %+v, %v", b, m, err)
		}
	}
}

// shortMessages are those whose bytes are gone through one by one.
func shortMessages() []api.Message {
	return slices.DeleteFunc(goodMessages(), func(m api.Message) bool { return len(messageBytes(m)) > 900 })
}

func TestBytesCutShortOrTooLong(t *testing.T) {
	for _, m := range shortMessages() {
		b := messageBytes(m)
		for size := range b {
			isNoMessage(t, b[:size])
		}
		for more := range 256 {
			isNoMessage(t, append(bytes.Clone(b), byte(more)))
		}
		isNoMessage(t, append(bytes.Clone(b), b...))
		whole := sealed(b)
		for size := range whole {
			if got, err := Get(whole[:size]); !isNothing(got) || (size >= 4) != (err == api.ErrSum) || err == nil {
				t.Fatalf("%d bytes of %x: %+v, %v", size, whole, got, err)
			}
		}
		for more := range 256 {
			if got, err := Get(append(bytes.Clone(whole), byte(more))); !isNothing(got) || err != api.ErrSum {
				t.Fatalf("%x and %x behind: %+v, %v", whole, more, got, err)
			}
		}
	}
}

// Each number of a message, and the ledger's size, in a form that isn't the shortest, or that is too long for any number.
func TestNumbersOutOfForm(t *testing.T) {
	for _, m := range shortMessages() {
		ledger := ledgerBytes(m.Ledger)
		list := append(heads(m), len(ledger))
		for at := range list {
			for _, form := range []func(b []byte) []byte{
				func(b []byte) []byte { b[len(b)-1] |= 0x80; return append(b, 0) },
				func(b []byte) []byte { b[len(b)-1] |= 0x80; return append(b, 0x80, 0) },
				func(b []byte) []byte { b[len(b)-1] |= 0x80; return append(b, bytes.Repeat([]byte{0x80}, 12)...) },
				func([]byte) []byte { return append(bytes.Repeat([]byte{0xff}, 8), 0x7f) },
				func([]byte) []byte { return append(bytes.Repeat([]byte{0xff}, 9), 0x01) },
				func([]byte) []byte { return nil },
			} {
				var b []byte
				for i, n := range list {
					one := nums(n)
					if i == at {
						one = form(one)
					}
					b = append(b, one...)
				}
				b = append(b, ledger...)
				if want, ok := plainMessage(b); ok {
					t.Fatalf("%x is %+v", b, want)
				}
				isNoMessage(t, b)
			}
		}
	}
}

// Bytes whose ledger is none.
func TestLedgersOutOfForm(t *testing.T) {
	one := listBytes(entryBytes(someEntries()[0]))
	wrong := entryBytes(someEntries()[0])
	wrong[1] = 0 // the Number
	join := func(list ...[]byte) []byte { return bytes.Join(list, nil) }
	for _, ledger := range [][]byte{
		{},                   // not even how many
		{1},                  // one, that isn't there
		{0, 0},               // none, and a byte more
		{0x80, 0},            // none, not in the shortest form
		{0x80},               // no number
		{1, 0},               // an entry of no bytes
		join([]byte{0}, one), // one more than told
		join([]byte{2}, one), // one fewer
		join([]byte{1}, one, []byte{0}),
		join([]byte{1}, listBytes(wrong)),
		join([]byte{1}, listBytes(append(entryBytes(someEntries()[0]), 0))),
		join([]byte{1}, one[:len(one)-1]),
		join([]byte{65}, bytes.Repeat(one, 65)),
		join([]byte{0xff, 0x7f}, bytes.Repeat(one, 16383)),
	} {
		for _, m := range []api.Message{
			{Kind: api.MsgPrepare, Ballot: ballot(1, 0)},
			{Kind: api.MsgPromise, Ballot: ballot(1, 0)},
			{Kind: api.MsgPromise, Ballot: ballot(1, 0), Accepted: ballot(1, 0)},
			{Kind: api.MsgAccept, Ballot: ballot(1, 0)},
			{Kind: api.MsgRefused, Ballot: ballot(1, 0), Accepted: ballot(1, 0)},
		} {
			isNoMessage(t, append(nums(heads(m)...), listBytes(ledger)...))
		}
	}
	// With as many as there may be, it is one.
	accept := append(nums(3, 0, 0, 0, 1, 0, 0, 0), listBytes(join([]byte{64}, bytes.Repeat(one, 64)))...)
	if m, err := Get(sealed(accept)); len(m.Ledger) != 64 || err != nil {
		t.Error(len(m.Ledger), err)
	}
}

func TestEverySingleChangedByteIsRefused(t *testing.T) {
	list := append(shortMessages(), fullMessage(api.MsgPromise, 2))
	for _, m := range list {
		b, err := Put(m)
		if err != nil {
			t.Fatal(err)
		}
		for i := range b {
			for by := 1; by < 256; by++ {
				b[i] ^= byte(by)
				if got, err := Get(b); !isNothing(got) || err != api.ErrSum {
					t.Fatalf("byte %d of %+v changed by %d: %+v, %v", i, m, by, got, err)
				}
				b[i] ^= byte(by)
			}
		}
	}
}

// isTakenRight holds Get of any bytes against the words; what it takes, Put writes as it was. It tells whether it was taken.
func isTakenRight(t *testing.T, b []byte) bool {
	t.Helper()
	got, err := Get(b)
	want, wantErr := plainGet(b)
	if err != wantErr || !sameMessage(got, want) {
		t.Fatalf("Get(%x) = %+v, %v; want %+v, %v", b, got, err, want, wantErr)
	}
	if err != nil {
		if !isNothing(got) {
			t.Fatalf("Get(%x) = %+v beside %v", b, got, err)
		}
		return false
	}
	if again, err := Put(got); !bytes.Equal(again, b) || err != nil {
		t.Fatalf("%x was taken, and written as %x, %v", b, again, err)
	}
	return true
}

// Changed bytes that are sealed anew: most are no message, some are another one.
func TestWhatIsTakenIsWrittenAsItWas(t *testing.T) {
	r := rand.New(rand.NewSource(175))
	taken, refused := 0, 0
	for range 60000 {
		b := messageBytes(anyMessage(r))
		for range 1 + r.Intn(2) {
			b = changed(r, b)
		}
		if isTakenRight(t, sealed(b)) {
			taken++
		} else {
			refused++
		}
	}
	if taken < 5000 || refused < 5000 {
		t.Errorf("of little use: %d taken, %d refused", taken, refused)
	}
}

// changed has a byte changed, taken out or put in, or is cut.
func changed(r *rand.Rand, b []byte) []byte {
	if len(b) == 0 {
		return b
	}
	at := r.Intn(len(b))
	if r.Intn(2) == 0 {
		at = r.Intn(min(10, len(b))) // among the numbers
	}
	switch r.Intn(8) {
	case 0:
		return slices.Delete(b, at, at+1)
	case 1:
		return slices.Insert(b, at, byte(r.Intn(256)))
	case 2:
		return b[:at]
	case 3:
		b[at] = byte(r.Intn(256))
	default:
		b[at] = byte(r.Intn(8))
	}
	return b
}

// Every single byte of short messages, set to everything, and sealed anew.
func TestEveryByteSealedAnew(t *testing.T) {
	taken := 0
	for _, m := range shortMessages() {
		b := messageBytes(m)
		for i := range min(60, len(b)) {
			for c := range 256 {
				other := bytes.Clone(b)
				other[i] = byte(c)
				if isTakenRight(t, sealed(other)) {
					taken++
				}
			}
		}
	}
	if taken < 1000 {
		t.Errorf("of little use: %d taken", taken)
	}
}

// Bytes by chance, with and without the sum.
func TestGetOfBytesByChance(t *testing.T) {
	r := rand.New(rand.NewSource(176))
	for range 50000 {
		b := make([]byte, r.Intn(20))
		for i := range b {
			b[i] = byte(r.Intn(4))
		}
		isTakenRight(t, b)
		isTakenRight(t, sealed(b))
	}
}

// Messages through a net, doubled, lost and out of order: what comes is what was sent.
func TestMessagesThroughANet(t *testing.T) {
	r := rand.New(rand.NewSource(177))
	n := New()
	sent := map[int]api.Message{}
	for range 3000 {
		m := anyMessage(r)
		b, err := Put(m)
		if err != nil {
			t.Fatal(err)
		}
		number, err := n.Send(m.From, m.To, b)
		if err != nil {
			t.Fatal(err)
		}
		sent[number] = m
		if r.Intn(3) == 0 {
			made, _ := n.Copy(number)
			sent[made] = m
		}
		for range r.Intn(3) {
			number, there := n.Nth(r.Int())
			if !there {
				break
			}
			l, _ := n.Deliver(number)
			got, err := Get(l.Bytes)
			if want := sent[number]; !sameMessage(got, want) || err != nil || l.From != want.From || l.To != want.To {
				t.Fatalf("%+v came as %+v, %v", want, got, err)
			}
		}
	}
}
