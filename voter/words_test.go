package voter

import (
	"bytes"
	"cmp"
	"encoding/binary"
	"slices"
	"testing"

	"almoner/api"
	"almoner/disk"
	"almoner/wal"
)

// The words of the chapter, kept by the test itself, with their numbers written out. Layers 5 and 6 are used as they are.

// farthest is MaxTime, written out.
const farthest = 1099511627776

func within(n, least, most int) bool { return least <= n && n <= most }

func ballot(round, node int) api.Ballot { return api.Ballot{Round: round, Node: node} }

func legalBallot(b api.Ballot) bool { return within(b.Round, 1, farthest) && within(b.Node, 0, 6) }

func noBallot(b api.Ballot) bool { return b.Round == 0 && b.Node == 0 }

func higher(a, b api.Ballot) bool {
	return cmp.Or(cmp.Compare(a.Round, b.Round), cmp.Compare(a.Node, b.Node)) > 0
}

func amounts(list ...int) bool {
	return !slices.ContainsFunc(list, func(n int) bool { return !within(n, 0, farthest) })
}

func zero(list ...int) bool {
	return !slices.ContainsFunc(list, func(n int) bool { return n != 0 })
}

// fits tells whether an entry is in form.
func fits(e api.Entry) bool {
	o, s := e.Order, e.Order.Server
	if !within(e.Client, 0, 15) || !within(e.Number, 1, farthest) || !amounts(o.At, o.Id) {
		return false
	}
	switch o.Kind {
	case 1, 2:
		return amounts(s.Kind, s.Q, s.T) && zero(o.Policy, len(o.Tasks))
	case 3:
		return zero(s.Kind, s.Q, s.T, o.Policy, len(o.Tasks))
	case 4:
		all := amounts(o.Policy) && len(o.Tasks) <= 8
		for _, t := range o.Tasks {
			all = all && amounts(t.C, t.P, t.D, t.S)
		}
		return all && zero(s.Kind, s.Q, s.T)
	}
	return false
}

func nums(list ...int) []byte {
	var b []byte
	for _, n := range list {
		b = binary.AppendUvarint(b, uint64(n))
	}
	return b
}

func listBytes(b []byte) []byte { return append(nums(len(b)), b...) }

func entryBytes(e api.Entry) []byte {
	o, s := e.Order, e.Order.Server
	all := nums(e.Client, e.Number, o.Kind, o.At, o.Id, s.Kind, s.Q, s.T, o.Policy, len(o.Tasks))
	for _, t := range o.Tasks {
		all = append(all, nums(t.C, t.P, t.D, t.S)...)
	}
	return all
}

func ledgerBytes(ledger []api.Entry) []byte {
	all := nums(len(ledger))
	for _, e := range ledger {
		all = append(all, listBytes(entryBytes(e))...)
	}
	return all
}

func promiseBytes(b api.Ballot) []byte { return nums(1, b.Round, b.Node) }

func acceptingBytes(b api.Ballot, stay int, others []api.Entry) []byte {
	return append(nums(2, b.Round, b.Node, stay), listBytes(ledgerBytes(others))...)
}

func claimBytes(round int) []byte { return nums(3, round) }

func sameEntry(a, b api.Entry) bool { return bytes.Equal(entryBytes(a), entryBytes(b)) }

func sameLedger(a, b []api.Entry) bool { return slices.EqualFunc(a, b, sameEntry) }

// copied shares nothing with the ledger.
func copied(ledger []api.Entry) []api.Entry {
	var list []api.Entry
	for _, e := range ledger {
		e.Order.Tasks = append([]api.Task{}, e.Order.Tasks...)
		list = append(list, e)
	}
	return list
}

// facts is a voter's state, but for its number.
type facts struct {
	promised, accepted api.Ballot
	claimed            int
	ledger             []api.Entry
}

func (f facts) is(g facts) bool {
	return f.promised == g.promised && f.accepted == g.accepted && f.claimed == g.claimed && sameLedger(f.ledger, g.ledger)
}

func (f facts) snapshot() []byte {
	head := nums(f.promised.Round, f.promised.Node, f.accepted.Round, f.accepted.Node, f.claimed)
	return append(head, listBytes(ledgerBytes(f.ledger))...)
}

// pieces are bytes that are read; bad, if they can't be.
type pieces struct {
	rest []byte
	bad  bool
}

func (p *pieces) num(most int) int {
	v, size := binary.Uvarint(p.rest)
	if p.bad || size <= 0 || size != len(nums(int(v))) || v > uint64(most) {
		p.bad = true
		return 0
	}
	p.rest = p.rest[size:]
	return int(v)
}

func (p *pieces) list() []byte {
	size := p.num(farthest)
	if p.bad || size > len(p.rest) {
		p.bad = true
		return nil
	}
	b := p.rest[:size]
	p.rest = p.rest[size:]
	return b
}

func (p *pieces) done() bool { return !p.bad && len(p.rest) == 0 }

func (p *pieces) ballot() api.Ballot {
	round := p.num(farthest)
	return ballot(round, p.num(farthest))
}

// ledger is read as a list of bytes.
func (p *pieces) ledger() []api.Entry {
	in := &pieces{rest: p.list(), bad: p.bad}
	var ledger []api.Entry
	for range in.num(64) {
		one := &pieces{rest: in.list(), bad: in.bad}
		e := one.entry()
		if !one.done() || !fits(e) {
			in.bad = true
			break
		}
		ledger = append(ledger, e)
	}
	if !in.done() {
		p.bad = true
	}
	return ledger
}

func (p *pieces) entry() api.Entry {
	var n [9]int
	for i := range n {
		n[i] = p.num(farthest)
	}
	server := api.Server{Kind: n[5], Q: n[6], T: n[7]}
	e := api.Entry{Client: n[0], Number: n[1], Order: api.Order{Kind: n[2], At: n[3], Id: n[4], Server: server, Policy: n[8]}}
	for range p.num(8) {
		var t [4]int
		for i := range t {
			t[i] = p.num(farthest)
		}
		e.Order.Tasks = append(e.Order.Tasks, api.Task{C: t[0], P: t[1], D: t[2], S: t[3]})
	}
	return e
}

// factsOf is what a snapshot tells; false, if it is none.
func factsOf(snapshot []byte) (facts, bool) {
	p := &pieces{rest: snapshot}
	f := facts{promised: p.ballot(), accepted: p.ballot(), claimed: p.num(farthest)}
	f.ledger = p.ledger()
	right := legalBallot(f.promised) || noBallot(f.promised)
	right = right && (legalBallot(f.accepted) || noBallot(f.accepted) && len(f.ledger) == 0)
	return f, p.done() && right
}

// behindRecord is what is behind a record; false, if it is none.
func (f facts) behindRecord(b []byte) (facts, bool) {
	p := &pieces{rest: b}
	switch p.num(farthest) {
	case 1:
		f.promised = p.ballot()
		return f, p.done() && legalBallot(f.promised)
	case 2:
		f.promised = p.ballot()
		f.accepted = f.promised
		stay, others := p.num(farthest), p.ledger()
		if !p.done() || !legalBallot(f.promised) || stay > len(f.ledger) || stay+len(others) > 64 {
			return f, false
		}
		f.ledger = append(copied(f.ledger[:stay]), others...)
		return f, true
	case 3:
		round := p.num(farthest)
		f.claimed = max(f.claimed, round)
		return f, p.done() && round > 0
	}
	return f, false
}

// book is a voter as the chapter's words tell it, on a disk of its own.
type book struct {
	facts
	d      *disk.Disk
	log    *wal.Log
	number int
	images [][][]byte // the disk ahead of the last call, and behind each flush that it made
}

func formatBook(d *disk.Disk, number int) (*book, error) {
	if !within(number, 0, 6) {
		return nil, api.ErrNumber
	}
	log, err := wal.Format(d, facts{}.snapshot())
	if err != nil {
		return nil, err
	}
	return &book{d: d, log: log, number: number}, nil
}

func openBook(d *disk.Disk, number int) (*book, error) {
	if !within(number, 0, 6) {
		return nil, api.ErrNumber
	}
	log, snapshot, records, err := wal.Open(d)
	if err != nil {
		return nil, err
	}
	f, right := factsOf(snapshot)
	for _, b := range records {
		if right {
			f, right = f.behindRecord(b)
		}
	}
	if !right {
		return nil, api.ErrBytes
	}
	return &book{facts: f, d: d, log: log, number: number}, nil
}

// write writes down a record, and keeps what the disk held on the way.
func (k *book) write(b []byte) error {
	k.images = [][][]byte{image(k.d)}
	err := k.log.Append(b)
	if err == api.ErrFull {
		if err := k.log.Checkpoint(k.snapshot()); err != nil {
			return err
		}
		k.images = append(k.images, image(k.d))
		err = k.log.Append(b)
	}
	if err == nil {
		err = k.log.Sync()
	}
	if err != nil {
		return err
	}
	k.images = append(k.images, image(k.d))
	return nil
}

func (k *book) prepare(b api.Ballot) (api.Ballot, []api.Entry, error) {
	k.images = nil
	switch {
	case !legalBallot(b):
		return api.Ballot{}, nil, api.ErrNumber
	case higher(k.promised, b):
		return api.Ballot{}, nil, api.ErrBallot
	}
	if k.promised != b {
		if err := k.write(promiseBytes(b)); err != nil {
			return api.Ballot{}, nil, err
		}
		k.promised = b
	}
	return k.accepted, k.ledger, nil
}

func (k *book) accept(b api.Ballot, ledger []api.Entry) error {
	k.images = nil
	switch {
	case !legalBallot(b):
		return api.ErrNumber
	case higher(k.promised, b):
		return api.ErrBallot
	case len(ledger) > 64:
		return api.ErrLarge
	case slices.ContainsFunc(ledger, func(e api.Entry) bool { return !fits(e) }):
		return api.ErrState
	}
	stay := 0
	for i, e := range ledger {
		if i < len(k.ledger) && stay == i && sameEntry(e, k.ledger[i]) {
			stay++
		}
	}
	if err := k.write(acceptingBytes(b, stay, ledger[stay:])); err != nil {
		return err
	}
	k.promised, k.accepted, k.ledger = b, b, copied(ledger)
	return nil
}

func (k *book) claim(above api.Ballot) (api.Ballot, error) {
	k.images = nil
	rounds := []int{k.promised.Round, k.claimed}
	if within(above.Round, 0, farthest) {
		rounds = append(rounds, above.Round)
	}
	round := slices.Max(rounds) + 1
	if round > farthest {
		return api.Ballot{}, api.ErrFull
	}
	if err := k.write(claimBytes(round)); err != nil {
		return api.Ballot{}, err
	}
	k.claimed = round
	return ballot(round, k.number), nil
}

// image is all sectors of a disk, as they are read.
func image(d *disk.Disk) [][]byte {
	list := make([][]byte, d.Sectors())
	for i := range list {
		list[i], _ = d.Read(i)
	}
	return list
}

func sameImage(a, b [][]byte) bool { return slices.EqualFunc(a, b, bytes.Equal) }

func newDisk(t *testing.T, sectors int) *disk.Disk {
	t.Helper()
	d, err := disk.New(sectors)
	if err != nil {
		t.Fatal(err)
	}
	return d
}

// diskOf is a new disk that holds an image, safe.
func diskOf(t *testing.T, held [][]byte) *disk.Disk {
	t.Helper()
	d := newDisk(t, len(held))
	for i, b := range held {
		if err := d.Write(i, b); err != nil {
			t.Fatal(err)
		}
	}
	if err := d.Flush(); err != nil {
		t.Fatal(err)
	}
	return d
}

// pair is a voter, and the book that is kept beside it.
type pair struct {
	t *testing.T
	d *disk.Disk
	v *Voter
	k *book
}

func newPair(t *testing.T, sectors, number int) *pair {
	t.Helper()
	p := &pair{t: t, d: newDisk(t, sectors)}
	twin := newDisk(t, sectors)
	var err, wantErr error
	p.v, err = Format(p.d, number)
	p.k, wantErr = formatBook(twin, number)
	if p.v == nil || err != nil || wantErr != nil {
		t.Fatalf("Format of %d sectors: %v; want %v", sectors, err, wantErr)
	}
	p.same("Format")
	return p
}

func (p *pair) fails(call string, got, want any) {
	p.t.Helper()
	p.t.Fatalf("%s: %+v; want %+v; number %d, facts %+v", call, got, want, p.k.number, p.k.facts)
}

// same holds all that the voter tells, and its disk, against the book.
func (p *pair) same(behind string) {
	p.t.Helper()
	if got := p.v.Promised(); got != p.k.promised {
		p.fails("Promised behind "+behind, got, p.k.promised)
	}
	if got, ledger := p.v.Accepted(); got != p.k.accepted || !sameLedger(ledger, p.k.ledger) {
		p.fails("Accepted behind "+behind, []any{got, ledger}, p.k.accepted)
	}
	d, twin := p.d, p.k.d
	if d.Waiting() != twin.Waiting() || d.Writes() != twin.Writes() || !sameImage(image(d), image(twin)) {
		p.fails("the disk behind "+behind, []int{d.Waiting(), d.Writes()}, []int{twin.Waiting(), twin.Writes()})
	}
}

func (p *pair) prepare(b api.Ballot) error {
	p.t.Helper()
	accepted, ledger, err := p.v.Prepare(b)
	want, wantLedger, wantErr := p.k.prepare(b)
	if accepted != want || !sameLedger(ledger, wantLedger) || err != wantErr {
		p.fails("Prepare", []any{b, accepted, ledger, err}, []any{want, wantErr})
	}
	p.same("Prepare")
	return err
}

func (p *pair) accept(b api.Ballot, ledger []api.Entry) error {
	p.t.Helper()
	err := p.v.Accept(b, ledger)
	if want := p.k.accept(b, ledger); err != want {
		p.fails("Accept", []any{b, ledger, err}, want)
	}
	p.same("Accept")
	return err
}

func (p *pair) claim(above api.Ballot) (api.Ballot, error) {
	p.t.Helper()
	own, err := p.v.Claim(above)
	if want, wantErr := p.k.claim(above); own != want || err != wantErr {
		p.fails("Claim", []any{above, own, err}, []any{want, wantErr})
	}
	p.same("Claim")
	return own, err
}

// crash crashes both disks; voters wait for none of their writes, so there is nothing to keep.
func (p *pair) crash(keep uint64, torn int) {
	p.t.Helper()
	p.d.Crash(keep, torn)
	p.k.d.Crash(keep, torn)
	p.same("Crash")
}

// open opens both anew: what was is there.
func (p *pair) open() {
	p.t.Helper()
	before := p.k.facts
	p.openAs(p.k.number)
	if !p.k.is(before) {
		p.fails("Open", p.k.facts, before)
	}
}

// openAs opens both as voters with a number, and tells what the log does.
func (p *pair) openAs(number int) {
	p.t.Helper()
	v, err := Open(p.d, number)
	k, wantErr := openBook(p.k.d, number)
	if v == nil || err != nil || wantErr != nil {
		p.t.Fatalf("Open: %v; want %v", err, wantErr)
	}
	p.v, p.k = v, k
	p.same("Open")
}

// The calls with their answers written out, beside what the book says.

func (p *pair) prepares(want error, b api.Ballot) {
	p.t.Helper()
	if err := p.prepare(b); err != want {
		p.fails("Prepare", []any{b, err}, want)
	}
}

func (p *pair) accepts(want error, b api.Ballot, ledger ...api.Entry) {
	p.t.Helper()
	if err := p.accept(b, ledger); err != want {
		p.fails("Accept", []any{b, err}, want)
	}
}

func (p *pair) claims(want, above api.Ballot) {
	p.t.Helper()
	if own, err := p.claim(above); own != want || err != nil {
		p.fails("Claim", []any{above, own, err}, want)
	}
}

func (p *pair) claimFails(want error, above api.Ballot) {
	p.t.Helper()
	if own, err := p.claim(above); own != (api.Ballot{}) || err != want {
		p.fails("Claim", []any{above, own, err}, want)
	}
}

// tells asks what was promised and accepted.
func (p *pair) tells(promised, accepted api.Ballot, ledger ...api.Entry) {
	p.t.Helper()
	if got := p.v.Promised(); got != promised {
		p.fails("Promised", got, promised)
	}
	if got, list := p.v.Accepted(); got != accepted || !sameLedger(list, ledger) {
		p.fails("Accepted", []any{got, list}, []any{accepted, ledger})
	}
}

// logged is the data of the records on a disk, the snapshot first.
func logged(t *testing.T, d *disk.Disk) []string {
	t.Helper()
	_, snapshot, records, err := wal.Open(diskOf(t, image(d)))
	if err != nil {
		t.Fatal(err)
	}
	list := []string{string(snapshot)}
	for _, b := range records {
		list = append(list, string(b))
	}
	return list
}

// logs asks what stands in the log.
func (p *pair) logs(want ...[]byte) {
	p.t.Helper()
	var list []string
	for _, b := range want {
		list = append(list, string(b))
	}
	if got := logged(p.t, p.d); !slices.Equal(got, list) {
		p.t.Fatalf("the log has %x; want %x", got, list)
	}
}
