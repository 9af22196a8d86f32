package order

import (
	"bytes"
	"maps"
	"math"
	"math/rand"
	"slices"
	"testing"

	"almoner/api"
)

// most is MaxTime, written out.
const most = 1099511627776

// numbers are those beside every bound of an entry, and both ends of int.
func numbers() []int {
	return []int{math.MinInt, math.MinInt + 1, -most, -1, 0, 1, 2, 3, 4, 5, 15, 16, 17, most - 1, most, most + 1, math.MaxInt - 1, math.MaxInt}
}

// kinds are those of orders, and others beside them.
func kinds() []int { return []int{math.MinInt, -1, 0, 1, 2, 3, 4, 5, 6, math.MaxInt} }

// The chapter's words, line by line, with its numbers written out.

func amount(list ...int) bool {
	for _, n := range list {
		if n < 0 || n > most {
			return false
		}
	}
	return true
}

func zero(list ...int) bool {
	for _, n := range list {
		if n != 0 {
			return false
		}
	}
	return true
}

func orderInForm(o api.Order) bool {
	s := o.Server
	if !amount(o.At, o.Id) {
		return false
	}
	switch o.Kind {
	case 1, 2:
		return amount(s.Kind, s.Q, s.T) && zero(o.Policy, len(o.Tasks))
	case 3:
		return zero(s.Kind, s.Q, s.T, o.Policy, len(o.Tasks))
	case 4:
		all := amount(o.Policy) && len(o.Tasks) <= 8
		for _, t := range o.Tasks {
			all = all && amount(t.C, t.P, t.D, t.S)
		}
		return all && zero(s.Kind, s.Q, s.T)
	default:
		return false
	}
}

func entryInForm(e api.Entry) bool {
	return 0 <= e.Client && e.Client <= 15 && 1 <= e.Number && e.Number <= most && orderInForm(e.Order)
}

// stateOf is what Check is to answer.
func stateOf(e api.Entry) error {
	if entryInForm(e) {
		return nil
	}
	return api.ErrState
}

// num is a number's bytes, by dividing.
func num(n uint64) []byte {
	if n < 128 {
		return []byte{byte(n)}
	}
	return append([]byte{byte(128 + n%128)}, num(n/128)...)
}

func nums(list ...int) []byte {
	var all []byte
	for _, n := range list {
		all = append(all, num(uint64(n))...)
	}
	return all
}

// entryBytes are an entry's bytes by the chapter's words, in form or not, if no number is below 0.
func entryBytes(e api.Entry) []byte {
	o, s := e.Order, e.Order.Server
	all := nums(e.Client, e.Number)
	all = append(all, nums(o.Kind, o.At, o.Id, s.Kind, s.Q, s.T, o.Policy, len(o.Tasks))...)
	for _, t := range o.Tasks {
		all = append(all, nums(t.C, t.P, t.D, t.S)...)
	}
	return all
}

func ledgerBytes(ledger []api.Entry) []byte {
	all := nums(len(ledger))
	for _, e := range ledger {
		b := entryBytes(e)
		all = append(append(all, nums(len(b))...), b...)
	}
	return all
}

// plain reads numbers by the words: it takes bytes up to one below 128, and asks that the number is written so.
type plain struct {
	rest []byte
	bad  bool
}

func (p *plain) num() int {
	end := slices.IndexFunc(p.rest, func(c byte) bool { return c < 128 }) + 1
	if p.bad || end == 0 || end > 9 {
		p.bad = true
		return 0
	}
	n := uint64(0)
	for i := end - 1; i >= 0; i-- {
		n = n*128 + uint64(p.rest[i]%128)
	}
	p.bad = !bytes.Equal(num(n), p.rest[:end])
	p.rest = p.rest[end:]
	return int(n)
}

// plainEntry is the entry of bytes, and whether there is one.
func plainEntry(b []byte) (api.Entry, bool) {
	p := plain{rest: b}
	var e api.Entry
	o, s := &e.Order, &e.Order.Server
	for _, to := range []*int{&e.Client, &e.Number, &o.Kind, &o.At, &o.Id, &s.Kind, &s.Q, &s.T, &o.Policy} {
		*to = p.num()
	}
	count := p.num()
	for i := 0; i < count && !p.bad; i++ {
		var t api.Task
		for _, to := range []*int{&t.C, &t.P, &t.D, &t.S} {
			*to = p.num()
		}
		o.Tasks = append(o.Tasks, t)
	}
	if p.bad || len(p.rest) > 0 || !entryInForm(e) {
		return api.Entry{}, false
	}
	return e, true
}

// plainLedger is the ledger of bytes, and whether there is one.
func plainLedger(b []byte) ([]api.Entry, bool) {
	p := plain{rest: b}
	count := p.num()
	if p.bad || count > 64 {
		return nil, false
	}
	var ledger []api.Entry
	for range count {
		size := p.num()
		if p.bad || size > len(p.rest) {
			return nil, false
		}
		e, ok := plainEntry(p.rest[:size])
		if !ok {
			return nil, false
		}
		p.rest = p.rest[size:]
		ledger = append(ledger, e)
	}
	return ledger, len(p.rest) == 0
}

// sameEntry holds every field against the other's, one by one.
func sameEntry(a, b api.Entry) bool {
	x, y := a.Order, b.Order
	if a.Client != b.Client || a.Number != b.Number || x.Kind != y.Kind || x.At != y.At || x.Id != y.Id {
		return false
	}
	if x.Server.Kind != y.Server.Kind || x.Server.Q != y.Server.Q || x.Server.T != y.Server.T || x.Policy != y.Policy {
		return false
	}
	if len(x.Tasks) != len(y.Tasks) {
		return false
	}
	for i, t := range x.Tasks {
		u := y.Tasks[i]
		if t.C != u.C || t.P != u.P || t.D != u.D || t.S != u.S {
			return false
		}
	}
	return true
}

func sameLedger(a, b []api.Entry) bool { return slices.EqualFunc(a, b, sameEntry) }

// placeOf counts from the front; 0: there is none.
func placeOf(ledger []api.Entry, client, number int) int {
	for i, e := range ledger {
		if e.Client == client && e.Number == number {
			return i + 1
		}
	}
	return 0
}

// copyOf is a copy of its own, in which nothing is shared.
func copyOf(ledger []api.Entry) []api.Entry {
	var list []api.Entry
	for _, e := range ledger {
		e.Order.Tasks = append([]api.Task(nil), e.Order.Tasks...)
		list = append(list, e)
	}
	return list
}

// What is to be asked of each call.

func checkIs(t *testing.T, e api.Entry, want error) {
	t.Helper()
	if got := Check(e); got != want {
		t.Fatalf("Check of %v: %v; want %v", e, got, want)
	}
}

// putIs asks Put of an entry, and Get of what it answers.
func putIs(t *testing.T, e api.Entry) {
	t.Helper()
	want := stateOf(e)
	checkIs(t, e, want)
	got, err := Put(e)
	if err != want {
		t.Fatalf("Put of %v: %v; want %v", e, err, want)
	}
	if err != nil {
		if got != nil {
			t.Fatalf("Put of %v: %v beside %v", e, got, err)
		}
		return
	}
	if !bytes.Equal(got, entryBytes(e)) {
		t.Fatalf("Put of %v: % x; want % x", e, got, entryBytes(e))
	}
	if back, err := Get(got); err != nil || !sameEntry(back, e) {
		t.Fatalf("Get of Put of %v: %v, %v", e, back, err)
	}
}

// getIs asks Get of bytes, and Put of what it answers.
func getIs(t *testing.T, b []byte) bool {
	t.Helper()
	want, ok := plainEntry(b)
	got, err := Get(b)
	if !sameEntry(got, want) || (err == nil) != ok || err != nil && err != api.ErrBytes {
		t.Fatalf("Get of % x: %v, %v; want %v, %v", b, got, err, want, ok)
	}
	if err == nil {
		if again, err := Put(got); err != nil || !bytes.Equal(again, b) {
			t.Fatalf("Put of Get of % x: % x, %v", b, again, err)
		}
	}
	return ok
}

func getRefuses(t *testing.T, b []byte) {
	t.Helper()
	if getIs(t, b) {
		t.Fatalf("the test takes % x", b)
	}
}

// writeIs asks Write of a ledger, and Read of what it answers.
func writeIs(t *testing.T, ledger []api.Entry, want error) {
	t.Helper()
	got, err := Write(ledger)
	if err != want {
		t.Fatalf("Write of %v: %v; want %v", ledger, err, want)
	}
	if err != nil {
		if got != nil {
			t.Fatalf("Write of %v: %v beside %v", ledger, got, err)
		}
		return
	}
	if !bytes.Equal(got, ledgerBytes(ledger)) {
		t.Fatalf("Write of %v: % x; want % x", ledger, got, ledgerBytes(ledger))
	}
	if back, err := Read(got); err != nil || !sameLedger(back, ledger) {
		t.Fatalf("Read of Write of %v: %v, %v", ledger, back, err)
	}
}

// readIs asks Read of bytes, and Write of what it answers.
func readIs(t *testing.T, b []byte) bool {
	t.Helper()
	want, ok := plainLedger(b)
	got, err := Read(b)
	if !ok {
		want = nil
	}
	if !sameLedger(got, want) || (err == nil) != ok || err != nil && err != api.ErrBytes {
		t.Fatalf("Read of % x: %v, %v; want %v, %v", b, got, err, want, ok)
	}
	if err == nil {
		if again, err := Write(got); err != nil || !bytes.Equal(again, b) {
			t.Fatalf("Write of Read of % x: % x, %v", b, again, err)
		}
	}
	return ok
}

func readRefuses(t *testing.T, b []byte) {
	t.Helper()
	if readIs(t, b) {
		t.Fatalf("the test takes % x", b)
	}
}

func placeIs(t *testing.T, ledger []api.Entry, client, number int) {
	t.Helper()
	want := placeOf(ledger, client, number)
	got, err := Place(ledger, client, number)
	if got != want || want == 0 && err != api.ErrGone || want > 0 && err != nil {
		t.Fatalf("Place of %d, %d in %v: %d, %v; want %d", client, number, ledger, got, err, want)
	}
}

// addIs asks Add by the chapter's words, and that what is added stands once, behind the ledger ahead.
func addIs(t *testing.T, ledger []api.Entry, e api.Entry) []api.Entry {
	t.Helper()
	at := placeOf(ledger, e.Client, e.Number)
	got, n, err := Add(ledger, e)
	if at == 0 && len(ledger) >= 64 {
		if len(got) > 0 || n != 0 || err != api.ErrFull {
			t.Fatalf("Add of %v to %d entries: %d entries, %d, %v; want ErrFull", e, len(ledger), len(got), n, err)
		}
		return nil
	}
	want := copyOf(ledger)
	if at == 0 {
		want = append(want, e)
		at = len(want)
	}
	if !sameLedger(got, want) || n != at || err != nil {
		t.Fatalf("Add of %v to %v: %v, %d, %v; want %v, %d", e, ledger, got, n, err, want, at)
	}
	if !Begins(ledger, got) {
		t.Fatalf("%v doesn't begin %v", ledger, got)
	}
	placeIs(t, got, e.Client, e.Number)
	return got
}

func lastIs(t *testing.T, ledger []api.Entry) {
	t.Helper()
	want := map[int]int{}
	for _, e := range ledger {
		for _, other := range ledger {
			if e.Client == other.Client && e.Number < other.Number {
				e = other
			}
		}
		want[e.Client] = e.Number
	}
	if got := Last(ledger); got == nil || !maps.Equal(got, want) {
		t.Fatalf("Last of %v: %v; want %v", ledger, got, want)
	}
}

func beginsIs(t *testing.T, a, b []api.Entry, want bool) {
	t.Helper()
	if got := Begins(a, b); got != want {
		t.Fatalf("Begins of %v, %v: %v; want %v", a, b, got, want)
	}
}

// sameIs asks both ways round.
func sameIs(t *testing.T, a, b api.Entry, want bool) {
	t.Helper()
	if got := Same(a, b); got != want {
		t.Fatalf("Same of %v, %v: %v; want %v", a, b, got, want)
	}
	if got := Same(b, a); got != want {
		t.Fatalf("Same of %v, %v: %v; want %v", b, a, got, want)
	}
}

// Entries to ask with.

func task(c, p, d, s int) api.Task { return api.Task{C: c, P: p, D: d, S: s} }

func someTasks(n int) []api.Task {
	var list []api.Task
	for i := range n {
		list = append(list, task(4*i+1, 4*i+2, 4*i+3, 4*i+4))
	}
	return list
}

// example is one of a Kind, in form if the Kind is an order's, no two of its numbers the same.
func example(kind int) api.Entry {
	e := api.Entry{Client: 9, Number: 10, Order: api.Order{Kind: kind, At: 11, Id: 12}}
	switch kind {
	case api.OrdCreate, api.OrdResize:
		e.Order.Server = api.Server{Kind: 13, Q: 14, T: 15}
	case api.OrdBind:
		e.Order.Policy = 16
		e.Order.Tasks = []api.Task{task(17, 18, 19, 20), task(21, 22, 23, 24), task(25, 26, 27, 28)}
	}
	return e
}

// deletion is the shortest entry of a client and number.
func deletion(client, number int) api.Entry {
	return api.Entry{Client: client, Number: number, Order: api.Order{Kind: api.OrdDelete}}
}

// places are all numbers of an entry, those of its tasks too.
func places(e *api.Entry) []*int {
	o, s := &e.Order, &e.Order.Server
	all := []*int{&e.Client, &e.Number, &o.Kind, &o.At, &o.Id, &s.Kind, &s.Q, &s.T, &o.Policy}
	for i := range o.Tasks {
		t := &o.Tasks[i]
		all = append(all, &t.C, &t.P, &t.D, &t.S)
	}
	return all
}

func anyNumber(random *rand.Rand) int {
	switch random.Intn(4) {
	case 0:
		return most - random.Intn(2)
	case 1:
		return random.Intn(3)
	default:
		return random.Intn(1 << (1 + random.Intn(40)))
	}
}

// anyEntry is one in form.
func anyEntry(random *rand.Rand) api.Entry {
	o := api.Order{Kind: 1 + random.Intn(4), At: anyNumber(random), Id: anyNumber(random)}
	switch o.Kind {
	case api.OrdCreate, api.OrdResize:
		o.Server = api.Server{Kind: anyNumber(random), Q: anyNumber(random), T: anyNumber(random)}
	case api.OrdBind:
		o.Policy = anyNumber(random)
		for range random.Intn(9) {
			o.Tasks = append(o.Tasks, task(anyNumber(random), anyNumber(random), anyNumber(random), anyNumber(random)))
		}
	}
	return api.Entry{Client: random.Intn(16), Number: max(1, anyNumber(random)), Order: o}
}

func anyLedger(random *rand.Rand, n int) []api.Entry {
	var ledger []api.Entry
	for range n {
		ledger = append(ledger, anyEntry(random))
	}
	return ledger
}

// fewLedger is one of few clients and numbers, so that entries often are of one Client and Number.
func fewLedger(random *rand.Rand, n int) []api.Entry {
	ledger := anyLedger(random, n)
	for i := range ledger {
		ledger[i].Client, ledger[i].Number = random.Intn(3), 1+random.Intn(4)
	}
	return ledger
}

// P9.1: Check.

func TestCheckOfEachKind(t *testing.T) {
	for _, kind := range kinds() {
		want := api.ErrState
		if kind >= 1 && kind <= 4 {
			want = nil
		}
		checkIs(t, example(kind), want)
		checkIs(t, api.Entry{Number: 1, Order: api.Order{Kind: kind}}, want)
	}
	checkIs(t, api.Entry{}, api.ErrState)
}

func TestCheckOfEachNumberAtItsBounds(t *testing.T) {
	for _, kind := range kinds() {
		first := example(kind)
		for i := range places(&first) {
			for _, n := range numbers() {
				e := example(kind)
				*places(&e)[i] = n
				putIs(t, e)
			}
		}
	}
}

func TestCheckOfTheClientAndTheNumber(t *testing.T) {
	for _, kind := range []int{1, 2, 3, 4} {
		for client, want := range map[int]error{-1: api.ErrState, 0: nil, api.MaxClients - 1: nil, api.MaxClients: api.ErrState} {
			e := example(kind)
			e.Client = client
			checkIs(t, e, want)
		}
		for number, want := range map[int]error{-1: api.ErrState, 0: api.ErrState, 1: nil, api.MaxTime: nil, api.MaxTime + 1: api.ErrState} {
			e := example(kind)
			e.Number = number
			checkIs(t, e, want)
		}
	}
}

// Every field that a Kind doesn't have must be zero, each alone.
func TestCheckOfFieldsThatMustBeZero(t *testing.T) {
	server := []func(o *api.Order, n int){
		func(o *api.Order, n int) { o.Server.Kind = n },
		func(o *api.Order, n int) { o.Server.Q = n },
		func(o *api.Order, n int) { o.Server.T = n },
	}
	policy := func(o *api.Order, n int) { o.Policy = n }
	tasks := func(o *api.Order, n int) { o.Tasks = []api.Task{task(n, n, n, n)} }
	not := map[int][]func(o *api.Order, n int){
		api.OrdCreate: {policy, tasks},
		api.OrdResize: {policy, tasks},
		api.OrdDelete: append(server, policy, tasks),
		api.OrdBind:   server,
	}
	for kind, list := range not {
		for _, set := range list {
			for _, n := range numbers() {
				if n == 0 {
					continue
				}
				e := example(kind)
				set(&e.Order, n)
				checkIs(t, e, api.ErrState)
				putIs(t, e)
			}
		}
	}
	for _, kind := range []int{1, 2, 3} {
		e := example(kind)
		e.Order.Tasks = []api.Task{{}} // a task of zeros is one
		checkIs(t, e, api.ErrState)
		e.Order.Tasks = []api.Task{} // an empty list is none
		checkIs(t, e, nil)
		e.Order.Tasks = someTasks(3)[:0]
		checkIs(t, e, nil)
	}
}

func TestCheckOfHowManyTasks(t *testing.T) {
	for n := range 20 {
		for _, kind := range kinds() {
			e := example(kind)
			e.Order.Tasks = someTasks(n)
			putIs(t, e)
		}
		e := example(api.OrdBind)
		e.Order.Tasks = someTasks(n)
		want := api.ErrState
		if n <= api.MaxTasks {
			want = nil
		}
		checkIs(t, e, want)
	}
	e := example(api.OrdBind)
	e.Order.Tasks = make([]api.Task, 100000)
	checkIs(t, e, api.ErrState)
}

func TestCheckOfEachTaskAtItsBounds(t *testing.T) {
	for count := 1; count <= api.MaxTasks; count++ {
		for i := range 4 * count {
			for _, n := range numbers() {
				e := example(api.OrdBind)
				e.Order.Tasks = someTasks(count)
				*places(&e)[9+i] = n
				putIs(t, e)
			}
		}
	}
}

func TestCheckOfManyEntries(t *testing.T) {
	random := rand.New(rand.NewSource(901))
	refused := 0
	for range 20000 {
		e := anyEntry(random)
		checkIs(t, e, nil)
		all := places(&e)
		for range random.Intn(3) {
			*all[random.Intn(len(all))] = numbers()[random.Intn(len(numbers()))]
		}
		if stateOf(e) != nil {
			refused++
		}
		putIs(t, e)
	}
	if refused < 2000 || refused > 18000 {
		t.Errorf("the test's entries are of one sort: %d refused", refused)
	}
}

// The document's examples.
func TestExamples(t *testing.T) {
	e := api.Entry{Client: 1, Number: 2, Order: api.Order{Kind: api.OrdDelete, Id: 5, At: 7}}
	want := []byte{0x01, 0x02, 0x03, 0x07, 0x05, 0x00, 0x00, 0x00, 0x00, 0x00}
	if got, err := Put(e); err != nil || !bytes.Equal(got, want) {
		t.Errorf("Put: % x, %v", got, err)
	}
	if got, err := Get(want); err != nil || !sameEntry(got, e) {
		t.Errorf("Get: %v, %v", got, err)
	}
	checkIs(t, e, nil)
	e.Order.Server.T = 1
	checkIs(t, e, api.ErrState)
	if got, err := Put(e); got != nil || err != api.ErrState {
		t.Errorf("Put: % x, %v", got, err)
	}
	want[7] = 1
	getRefuses(t, want)
}

// P9.1, P9.2: Put and Get.

func TestPutOfEachKindIsBytesWrittenOut(t *testing.T) {
	want := map[int][]byte{
		api.OrdCreate: {9, 10, 1, 11, 12, 13, 14, 15, 0, 0},
		api.OrdResize: {9, 10, 2, 11, 12, 13, 14, 15, 0, 0},
		api.OrdDelete: {9, 10, 3, 11, 12, 0, 0, 0, 0, 0},
		api.OrdBind:   {9, 10, 4, 11, 12, 0, 0, 0, 16, 3, 17, 18, 19, 20, 21, 22, 23, 24, 25, 26, 27, 28},
	}
	for kind, b := range want {
		if got, err := Put(example(kind)); err != nil || !bytes.Equal(got, b) {
			t.Errorf("Put of %v: %v, %v", example(kind), got, err)
		}
		if got, err := Get(b); err != nil || !sameEntry(got, example(kind)) {
			t.Errorf("Get of %v: %v, %v", b, got, err)
		}
	}
}

func TestGetOfPutOfTheGreatest(t *testing.T) {
	for _, kind := range []int{1, 2, 3, 4} {
		e := example(kind)
		if kind == api.OrdBind {
			e.Order.Tasks = someTasks(api.MaxTasks)
		}
		for _, to := range places(&e) {
			if *to != 0 {
				*to = most
			}
		}
		e.Client, e.Order.Kind = 15, kind
		checkIs(t, e, nil)
		putIs(t, e)
	}
}

func TestGetOfBytesCutOffOrWithMoreBehind(t *testing.T) {
	random := rand.New(rand.NewSource(902))
	list := []api.Entry{example(1), example(2), example(3), example(4)}
	for range 100 {
		list = append(list, anyEntry(random))
	}
	for _, e := range list {
		b := entryBytes(e)
		for i := range b {
			getRefuses(t, b[:i])
		}
		for c := range 256 {
			getRefuses(t, append(slices.Clip(b), byte(c)))
		}
		getRefuses(t, append(slices.Clip(b), b...))
		getRefuses(t, append([]byte{0}, b...))
	}
	getRefuses(t, nil)
	getRefuses(t, []byte{})
}

func TestGetOfEveryByteChanged(t *testing.T) {
	random := rand.New(rand.NewSource(903))
	list := []api.Entry{example(1), example(2), example(3), example(4), anyEntry(random), anyEntry(random), anyEntry(random)}
	taken := 0
	for _, e := range list {
		b := entryBytes(e)
		for i := range b {
			for c := range 256 {
				changed := slices.Clone(b)
				changed[i] = byte(c)
				if getIs(t, changed) {
					taken++
				}
			}
		}
	}
	if taken == 0 {
		t.Error("the test takes none")
	}
}

// The numbers are in their form, the entry isn't in its own.
func TestGetOfNumbersThatAreNotInForm(t *testing.T) {
	for _, kind := range kinds() {
		first := example(kind)
		for i := range places(&first) {
			for _, n := range numbers() {
				e := example(kind)
				*places(&e)[i] = n
				if n >= 0 && e.Order.Kind >= 0 {
					getIs(t, entryBytes(e))
				}
			}
		}
	}
	for n := range 20 {
		e := example(api.OrdBind)
		e.Order.Tasks = someTasks(n)
		if getIs(t, entryBytes(e)) != (n <= 8) {
			t.Errorf("%d tasks", n)
		}
	}
	for _, n := range []int{1, 9, most, math.MaxInt} { // more tasks are told than there are
		getRefuses(t, append([]byte{1, 2, 4, 0, 0, 0, 0, 0, 1}, nums(n)...))
		getRefuses(t, append(append([]byte{1, 2, 4, 0, 0, 0, 0, 0, 1}, nums(n)...), 1, 1, 1))
	}
}

// Each number in turn is written with a group of 0 more, or as one that never ends or is of 64 bits.
func TestGetOfNumbersThatAreNotInTheirForm(t *testing.T) {
	for _, kind := range []int{1, 2, 3, 4} {
		b := entryBytes(example(kind)) // each number is one byte
		for i := range b {
			for _, number := range [][]byte{
				{b[i] + 128, 0},
				{b[i] + 128, 128, 0},
				bytes.Repeat([]byte{255}, 9),
				bytes.Repeat([]byte{255}, 40),
				append(bytes.Repeat([]byte{255}, 9), 1),
				append(bytes.Repeat([]byte{128}, 9), 1),
			} {
				getRefuses(t, slices.Concat(b[:i], number, b[i+1:]))
			}
		}
	}
}

func TestGetOfManyBytes(t *testing.T) {
	random := rand.New(rand.NewSource(904))
	taken := 0
	for range 50000 {
		b := make([]byte, random.Intn(16))
		for i := range b {
			b[i] = byte(random.Intn(5))
		}
		if getIs(t, b) {
			taken++
		}
	}
	if taken == 0 {
		t.Error("the test takes none")
	}
}

// P9.1, P9.2: Write and Read.

func TestWriteOfFew(t *testing.T) {
	if got, err := Write(nil); err != nil || !bytes.Equal(got, []byte{0}) {
		t.Errorf("Write of none: %v, %v", got, err)
	}
	if got, err := Write([]api.Entry{}); err != nil || !bytes.Equal(got, []byte{0}) {
		t.Errorf("Write of none: %v, %v", got, err)
	}
	if got, err := Read([]byte{0}); err != nil || len(got) != 0 {
		t.Errorf("Read of none: %v, %v", got, err)
	}
	two := []api.Entry{deletion(1, 2), deletion(1, 2)} // of one Client and Number
	want := []byte{2, 10, 1, 2, 3, 0, 0, 0, 0, 0, 0, 0, 10, 1, 2, 3, 0, 0, 0, 0, 0, 0, 0}
	if got, err := Write(two); err != nil || !bytes.Equal(got, want) {
		t.Errorf("Write of two: %v, %v", got, err)
	}
	if got, err := Read(want); err != nil || !sameLedger(got, two) {
		t.Errorf("Read of two: %v, %v", got, err)
	}
}

func TestWriteOfManyLedgers(t *testing.T) {
	random := rand.New(rand.NewSource(905))
	for n := range api.MaxLedger + 1 {
		for range 10 {
			writeIs(t, anyLedger(random, n), nil)
			writeIs(t, fewLedger(random, n), nil)
		}
	}
}

func TestWriteOfTheGreatestLedger(t *testing.T) {
	e := example(api.OrdBind)
	e.Order.Tasks = someTasks(api.MaxTasks)
	for _, to := range places(&e) {
		if *to != 0 {
			*to = most
		}
	}
	e.Client, e.Order.Kind = 15, api.OrdBind
	writeIs(t, slices.Repeat([]api.Entry{e}, api.MaxLedger), nil)
}

func TestWriteOfTooMany(t *testing.T) {
	random := rand.New(rand.NewSource(906))
	for _, n := range []int{65, 66, 128, 1000} {
		writeIs(t, anyLedger(random, n), api.ErrLarge)
		for _, i := range []int{0, n / 2, n - 1} { // ErrLarge comes ahead of ErrState
			ledger := anyLedger(random, n)
			ledger[i].Number = 0
			writeIs(t, ledger, api.ErrLarge)
		}
		readRefuses(t, ledgerBytes(anyLedger(random, n)))
	}
}

func TestWriteOfOneThatIsNotInForm(t *testing.T) {
	random := rand.New(rand.NewSource(907))
	for _, n := range []int{1, 2, 3, 10, 63, 64} {
		for _, i := range []int{0, n / 2, n - 1} {
			spoil := []func(e *api.Entry){
				func(e *api.Entry) { e.Client = -1 },
				func(e *api.Entry) { e.Client = 16 },
				func(e *api.Entry) { e.Number = 0 },
				func(e *api.Entry) { e.Number = most + 1 },
				func(e *api.Entry) { e.Order.Kind = 0 },
				func(e *api.Entry) { e.Order.At = -1 },
				func(e *api.Entry) { *e = example(api.OrdDelete); e.Order.Policy = 1 },
			}
			for k, change := range spoil {
				ledger := anyLedger(random, n)
				change(&ledger[i])
				writeIs(t, ledger, api.ErrState)
				if k != 0 && k != 5 { // a number below 0 has no bytes
					readRefuses(t, ledgerBytes(ledger))
				}
			}
		}
	}
}

func TestReadOfBytesCutOffOrWithMoreBehind(t *testing.T) {
	random := rand.New(rand.NewSource(908))
	for n := range 6 {
		b := ledgerBytes(anyLedger(random, n))
		for i := range b {
			readRefuses(t, b[:i])
		}
		for c := range 256 {
			readRefuses(t, append(slices.Clip(b), byte(c)))
		}
		readRefuses(t, append(slices.Clip(b), b...))
	}
	readRefuses(t, nil)
	readRefuses(t, []byte{})
}

func TestReadOfEveryByteChanged(t *testing.T) {
	random := rand.New(rand.NewSource(909))
	ledgers := [][]api.Entry{nil, {example(1), example(2), example(3), example(4)}, anyLedger(random, 3), {deletion(0, 1), deletion(0, 1)}}
	taken := 0
	for _, ledger := range ledgers {
		b := ledgerBytes(ledger)
		for i := range b {
			for c := range 256 {
				changed := slices.Clone(b)
				changed[i] = byte(c)
				if readIs(t, changed) {
					taken++
				}
			}
		}
	}
	if taken == 0 {
		t.Error("the test takes none")
	}
}

// How many entries, or how many bytes of one, is told otherwise than they are.
func TestReadOfCountsThatAreNotSo(t *testing.T) {
	one := entryBytes(example(api.OrdBind))
	whole := slices.Concat(nums(len(one)), one)
	for _, n := range []int{0, 1, 2, 3, 4, 63, 64, 65, 127, 128, most, math.MaxInt} {
		if readIs(t, slices.Concat(nums(n), whole, whole, whole)) != (n == 3) {
			t.Errorf("%d told of three", n)
		}
		if readIs(t, slices.Concat(nums(1, n), one)) != (n == len(one)) {
			t.Errorf("%d bytes told of %d", n, len(one))
		}
	}
	readRefuses(t, slices.Concat(nums(1, len(one)+1), one, []byte{0})) // more behind the entry, in its list
	readRefuses(t, slices.Concat(nums(2, len(one)-1), one, whole))
	readRefuses(t, slices.Concat(nums(1, 2*len(one)), one, one))
	readRefuses(t, slices.Concat([]byte{1, byte(len(one)) + 128, 0}, one))
	readRefuses(t, slices.Concat([]byte{129, 0}, whole))
	readRefuses(t, []byte{1, 0})
	for _, n := range []int{64, 65} {
		if readIs(t, append(nums(n), bytes.Repeat(whole, n)...)) != (n == 64) {
			t.Errorf("%d entries", n)
		}
	}
}

// P9.1: Place, Last, Begins, Same.

func TestPlaceIsTheFirstOne(t *testing.T) {
	ledger := []api.Entry{deletion(1, 1), deletion(2, 1), deletion(1, 2), deletion(2, 1), deletion(1, 2)}
	for _, c := range []struct{ client, number, want int }{{1, 1, 1}, {2, 1, 2}, {1, 2, 3}} {
		if got, err := Place(ledger, c.client, c.number); got != c.want || err != nil {
			t.Errorf("Place of %d, %d: %d, %v", c.client, c.number, got, err)
		}
	}
	for _, c := range [][2]int{{2, 2}, {0, 0}, {0, 1}, {1, 0}, {1, 3}, {-1, 1}, {math.MaxInt, 1}, {1, math.MinInt}} {
		if got, err := Place(ledger, c[0], c[1]); got != 0 || err != api.ErrGone {
			t.Errorf("Place of %v: %d, %v", c, got, err)
		}
	}
	if got, err := Place(nil, 0, 0); got != 0 || err != api.ErrGone {
		t.Errorf("Place in none: %d, %v", got, err)
	}
}

func TestPlaceAndLastOfManyLedgers(t *testing.T) {
	random := rand.New(rand.NewSource(910))
	for range 2000 {
		ledger := fewLedger(random, random.Intn(12))
		if random.Intn(3) == 0 { // entries that aren't in form are counted like others
			for i := range ledger {
				ledger[i].Client = numbers()[random.Intn(len(numbers()))]
				ledger[i].Number = numbers()[random.Intn(len(numbers()))]
			}
		}
		lastIs(t, ledger)
		for _, e := range ledger {
			placeIs(t, ledger, e.Client, e.Number)
		}
		for range 5 {
			placeIs(t, ledger, random.Intn(4), random.Intn(6))
			placeIs(t, ledger, numbers()[random.Intn(len(numbers()))], numbers()[random.Intn(len(numbers()))])
		}
	}
	long := fewLedger(random, 300)
	lastIs(t, long)
	placeIs(t, append(long, deletion(7, 7)), 7, 7)
}

func TestLastOfFew(t *testing.T) {
	if got := Last(nil); len(got) != 0 {
		t.Errorf("Last of none: %v", got)
	}
	for _, c := range []struct {
		ledger []api.Entry
		want   map[int]int
	}{
		{[]api.Entry{deletion(0, 1)}, map[int]int{0: 1}},
		{[]api.Entry{deletion(3, 5), deletion(3, 9), deletion(3, 7)}, map[int]int{3: 9}},
		{[]api.Entry{deletion(3, 9), deletion(0, most), deletion(15, 1)}, map[int]int{3: 9, 0: most, 15: 1}},
		{[]api.Entry{deletion(3, -5), deletion(3, -7)}, map[int]int{3: -5}},
		{[]api.Entry{deletion(-1, 0), deletion(99, math.MinInt)}, map[int]int{-1: 0, 99: math.MinInt}},
	} {
		if got := Last(c.ledger); !maps.Equal(got, c.want) {
			t.Errorf("Last of %v: %v", c.ledger, got)
		}
	}
}

func TestBeginsOfBeginnings(t *testing.T) {
	random := rand.New(rand.NewSource(911))
	for n := range 12 {
		ledger := anyLedger(random, n)
		for i := range n + 1 {
			for j := range n + 1 {
				beginsIs(t, copyOf(ledger[:i]), ledger[:j], i <= j)
			}
		}
		for i := range n { // one of another number, in every place
			other := copyOf(ledger)
			all := places(&other[i])
			*all[random.Intn(len(all))]++
			for j := range n + 1 {
				beginsIs(t, other[:j], ledger, j <= i)
				beginsIs(t, ledger[:j], other, j <= i)
			}
		}
		if n > 1 && !sameEntry(ledger[0], ledger[1]) {
			beginsIs(t, ledger[1:], ledger, false)
		}
	}
	beginsIs(t, nil, nil, true)
	beginsIs(t, nil, []api.Entry{}, true)
	beginsIs(t, []api.Entry{}, nil, true)
	beginsIs(t, []api.Entry{{}}, nil, false)
	beginsIs(t, nil, []api.Entry{{}}, true)
	beginsIs(t, anyLedger(random, 100), nil, false)
	long := anyLedger(random, 200)
	beginsIs(t, long[:100], long, true)
}

func TestSameOfEachField(t *testing.T) {
	for _, kind := range kinds() {
		first := example(kind)
		for i := range places(&first) {
			e := example(kind)
			sameIs(t, e, example(kind), true)
			for _, n := range numbers() {
				*places(&e)[i] = n
				sameIs(t, e, example(kind), *places(&first)[i] == n)
				sameIs(t, e, copyOf([]api.Entry{e})[0], true)
			}
		}
	}
}

func TestSameOfLists(t *testing.T) {
	a, b := example(api.OrdBind), example(api.OrdBind)
	b.Order.Tasks = b.Order.Tasks[:2]
	sameIs(t, a, b, false)
	b.Order.Tasks = b.Order.Tasks[:0]
	sameIs(t, a, b, false)
	a.Order.Tasks = nil
	sameIs(t, a, b, true) // nil and empty lists mean the same
	sameIs(t, a, a, true)
	b.Order.Tasks = []api.Task{{}}
	sameIs(t, a, b, false)
	sameIs(t, api.Entry{}, api.Entry{}, true)
	a.Order.Tasks = []api.Task{task(1, 2, 3, 4), task(5, 6, 7, 8)}
	b.Order.Tasks = []api.Task{task(5, 6, 7, 8), task(1, 2, 3, 4)}
	sameIs(t, a, b, false)
}

func TestSameOfManyEntries(t *testing.T) {
	random := rand.New(rand.NewSource(912))
	for range 5000 {
		a := anyEntry(random)
		b := copyOf([]api.Entry{a})[0]
		sameIs(t, a, b, true)
		other := anyEntry(random)
		sameIs(t, a, other, sameEntry(a, other))
		all := places(&b)
		*all[random.Intn(len(all))] = anyNumber(random)
		sameIs(t, a, b, sameEntry(a, b))
	}
}

// P9.1, P9.3: Add.

func TestAddOneByOne(t *testing.T) {
	var ledger []api.Entry
	for i := range api.MaxLedger {
		e := deletion(i%api.MaxClients, i+1)
		behind := addIs(t, ledger, e)
		if len(behind) != i+1 {
			t.Fatalf("%d entries behind %d", len(behind), i)
		}
		again := addIs(t, behind, e)
		if !sameLedger(again, behind) {
			t.Fatalf("%v added again: %v", e, again)
		}
		ledger = behind
	}
	if got, n, err := Add(ledger, deletion(0, 65)); len(got) != 0 || n != 0 || err != api.ErrFull {
		t.Errorf("one more: %v, %d, %v", got, n, err)
	}
	for i := range api.MaxLedger { // in a full ledger, what is there is told
		got, n, err := Add(ledger, deletion(i%api.MaxClients, i+1))
		if !sameLedger(got, ledger) || n != i+1 || err != nil {
			t.Errorf("%d again: %d, %v", i, n, err)
		}
	}
}

// An entry of a Client and Number that is there stays as it was, whatever its order is now.
func TestAddOfAnotherOrderOfOneNumber(t *testing.T) {
	ledger := []api.Entry{example(api.OrdCreate), deletion(1, 1), deletion(1, 1), example(api.OrdBind)}
	for _, kind := range kinds() {
		got, n, err := Add(ledger, example(kind))
		if !sameLedger(got, ledger) || n != 1 || err != nil {
			t.Errorf("Kind %d: %v, %d, %v", kind, got, n, err)
		}
	}
	e := example(api.OrdBind)
	e.Client, e.Number = 1, 1
	if got, n, err := Add(ledger, e); !sameLedger(got, ledger) || n != 2 || err != nil {
		t.Errorf("%v, %d, %v", got, n, err)
	}
}

// Add asks no form, neither of the entry nor of the ledger's.
func TestAddOfWhatIsNotInForm(t *testing.T) {
	for _, client := range numbers() {
		for _, number := range numbers() {
			e := deletion(client, number)
			ledger := addIs(t, []api.Entry{{}}, e)
			addIs(t, ledger, e)
			addIs(t, ledger, example(api.OrdBind))
		}
	}
	e := example(0)
	e.Order.Tasks = someTasks(20)
	addIs(t, nil, e)
}

func TestAddToTooMany(t *testing.T) {
	for _, n := range []int{63, 64, 65, 66, 200} {
		var ledger []api.Entry
		for i := range n {
			ledger = append(ledger, deletion(0, i+1))
		}
		addIs(t, ledger, deletion(0, n+1))
		addIs(t, ledger, deletion(1, 1))
		for _, i := range []int{1, 63, n} {
			if _, at, err := Add(ledger, deletion(0, i)); at != i || err != nil {
				t.Errorf("%d of %d: %d, %v", i, n, at, err)
			}
		}
	}
}

func TestAddToManyLedgers(t *testing.T) {
	random := rand.New(rand.NewSource(913))
	for range 300 {
		var ledger []api.Entry
		for range random.Intn(90) {
			e := anyEntry(random)
			e.Client, e.Number = random.Intn(10), 1+random.Intn(10)
			behind, _, err := Add(ledger, e)
			addIs(t, ledger, e)
			if err == nil {
				ledger = behind
			}
		}
		for i, e := range ledger { // each stands once
			if placeOf(ledger, e.Client, e.Number) != i+1 {
				t.Fatalf("%v stands twice in %v", e, ledger)
			}
		}
	}
}

func TestAddToTheEmptyLedger(t *testing.T) {
	for _, ledger := range [][]api.Entry{nil, {}, make([]api.Entry, 0, 9)} {
		got := addIs(t, ledger, example(api.OrdBind))
		if len(got) != 1 {
			t.Errorf("%v", got)
		}
	}
}

// P9.1: what is handed in is neither changed nor kept, spare room included; what is answered is new memory.

// roomy is a ledger with spare room behind it and behind each list of tasks, that holds what no answer may show; all its lists of tasks are one memory.
func roomy() (ledger, spare []api.Entry) {
	tasks := append(someTasks(3), task(91, 92, 93, 94), task(95, 96, 97, 98))
	for i := range 3 {
		e := example(api.OrdBind)
		e.Number, e.Order.Tasks = i+1, tasks[:3]
		ledger = append(ledger, e)
	}
	spare = append(ledger, deletion(98, 98), deletion(99, 99))
	return spare[:3], spare
}

func untouched(t *testing.T, spare []api.Entry, what string) {
	t.Helper()
	_, want := roomy()
	for i := range spare {
		if !sameEntry(spare[i], want[i]) {
			t.Errorf("%s changed the ledger that it was handed: %v", what, spare[i])
		}
	}
	tasks := spare[0].Order.Tasks
	if !slices.Equal(tasks[:5], want[0].Order.Tasks[:5]) {
		t.Errorf("%s changed the tasks that it was handed: %v", what, tasks[:5])
	}
}

func TestWhatIsHandedInStays(t *testing.T) {
	ledger, spare := roomy()
	Check(ledger[0])
	Put(ledger[0])
	Write(ledger)
	Write(append(slices.Clone(ledger), api.Entry{}))
	Place(ledger, 9, 2)
	Place(ledger, 9, 4)
	Last(ledger)
	Begins(ledger, ledger[:2])
	Begins(ledger[:2], ledger)
	Same(ledger[0], ledger[1])
	untouched(t, spare, "asking")
	Add(ledger, ledger[1])
	untouched(t, spare, "Add of one that is there")
	Add(ledger, deletion(1, 1))
	untouched(t, spare, "Add")
	b := append(ledgerBytes(ledger), 77, 78)
	whole := slices.Clone(b)
	Read(b[:len(b)-2])
	Get(b[2 : len(b)-2])
	Get(entryBytes(ledger[0]))
	if !bytes.Equal(b, whole) {
		t.Error("Read or Get changed the bytes")
	}
}

// spoilAll overwrites a ledger, its spare room and its lists of tasks, with theirs.
func spoilAll(ledger []api.Entry) {
	for _, e := range ledger[:cap(ledger)] {
		list := e.Order.Tasks[:cap(e.Order.Tasks)]
		for i := range list {
			list[i] = task(-1, -1, -1, -1)
		}
	}
	clear(ledger[:cap(ledger)])
}

func TestAnswersOfAddAreNewMemory(t *testing.T) {
	for _, number := range []int{2, 9} { // one that is there, and one that isn't
		ledger, spare := roomy()
		e := example(api.OrdBind)
		e.Number, e.Order.Tasks = number, ledger[0].Order.Tasks
		got, _, err := Add(ledger, e)
		if err != nil {
			t.Fatal(err)
		}
		want := copyOf(got)
		spoilAll(got)
		untouched(t, spare, "what is done to Add's answer")
		got, _, _ = Add(ledger, e)
		spoilAll(spare)
		if !sameLedger(got, want) {
			t.Errorf("what is done to the ledger changed Add's answer: %v", got)
		}
		for i := range got {
			got[i].Order.Tasks[0].C = -i - 1
		}
		for i := range got {
			if got[i].Order.Tasks[0].C != -i-1 {
				t.Error("two lists of Add's answer are one memory")
			}
		}
	}
}

func TestAnswersShowNothingBehindALength(t *testing.T) {
	for _, number := range []int{2, 9} {
		ledger, _ := roomy()
		e := example(api.OrdBind)
		e.Number, e.Order.Tasks = number, ledger[0].Order.Tasks
		got, _, _ := Add(ledger, e)
		for _, one := range got[len(got):cap(got)] {
			if !sameEntry(one, api.Entry{}) {
				t.Errorf("behind Add's answer: %v", one)
			}
		}
		for _, one := range got {
			list := one.Order.Tasks
			for _, behind := range list[len(list):cap(list)] {
				if behind != (api.Task{}) {
					t.Errorf("behind tasks of Add's answer: %v", behind)
				}
			}
		}
	}
}

func TestAnswersOfBytesAreNewMemory(t *testing.T) {
	random := rand.New(rand.NewSource(914))
	ledger := append(anyLedger(random, 5), example(api.OrdBind), example(api.OrdBind))
	b := ledgerBytes(ledger)
	first, _ := Read(b)
	second, _ := Read(b)
	clear(b)
	if !sameLedger(first, ledger) || !sameLedger(second, ledger) {
		t.Error("what is done to the bytes changed Read's answer")
	}
	first[6].Order.Tasks[0].C = -1
	if !sameLedger(first[:6], ledger[:6]) {
		t.Error("two lists of Read's answer are one memory")
	}
	spoilAll(first)
	if !sameLedger(second, ledger) {
		t.Error("two answers of Read are one memory")
	}
	one, _ := Put(ledger[5])
	clear(one[:cap(one)])
	putIs(t, ledger[5])
	all, _ := Write(ledger)
	clear(all[:cap(all)])
	writeIs(t, ledger, nil)
	b = entryBytes(ledger[5])
	e, _ := Get(b)
	clear(b)
	if !sameEntry(e, ledger[5]) {
		t.Error("what is done to the bytes changed Get's answer")
	}
}

func TestLastIsANewMap(t *testing.T) {
	ledger := []api.Entry{deletion(1, 2), deletion(3, 4)}
	Last(ledger)[1] = 99
	lastIs(t, ledger)
	Last(nil)[1] = 99
	lastIs(t, nil)
}
