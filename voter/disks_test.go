package voter

import (
	"bytes"
	"math"
	"slices"
	"testing"

	"almoner/api"
	"almoner/crc"
	"almoner/disk"
	"almoner/wal"
)

// P18.1: Format and Open, on disks that are right and wrong.

// logOn is a disk whose log has this snapshot and these records.
func logOn(t *testing.T, sectors int, snapshot []byte, records ...[]byte) *disk.Disk {
	t.Helper()
	d := newDisk(t, sectors)
	log, err := wal.Format(d, snapshot)
	if err != nil {
		t.Fatal(err)
	}
	for _, b := range records {
		if err := log.Append(b); err != nil {
			t.Fatal(err)
		}
	}
	if err := log.Sync(); err != nil {
		t.Fatal(err)
	}
	return d
}

// crafted is a voter, opened on a disk whose log the test wrote.
func crafted(t *testing.T, sectors, number int, snapshot []byte, records ...[]byte) *pair {
	t.Helper()
	p := &pair{t: t, d: logOn(t, sectors, snapshot, records...)}
	p.k = &book{d: logOn(t, sectors, snapshot, records...)}
	p.openAs(number)
	return p
}

// refusedOpen asks for an error, and for no voter beside it.
func refusedOpen(t *testing.T, d *disk.Disk, number int, want error) {
	t.Helper()
	if v, err := Open(d, number); v != nil || err != want {
		t.Fatalf("Open as %d: %v, %v; want %v", number, v, err, want)
	}
}

func refusedFormat(t *testing.T, d *disk.Disk, number int, want error) {
	t.Helper()
	if v, err := Format(d, number); v != nil || err != want {
		t.Fatalf("Format as %d: %v, %v; want %v", number, v, err, want)
	}
}

// isNoVoter asks that no voter is opened where such a log stands.
func isNoVoter(t *testing.T, snapshot []byte, records ...[]byte) {
	t.Helper()
	d := logOn(t, 200, snapshot, records...)
	for range 2 {
		refusedOpen(t, d, 0, api.ErrBytes)
	}
}

func TestWrongNumbersOfVoters(t *testing.T) {
	p := newPair(t, 20, 0)
	p.accepts(nil, ballot(1, 1), row(1)...)
	lost := newDisk(t, 20)
	lost.Lose()
	for _, number := range wrongNumbers() {
		refusedFormat(t, p.d, number, api.ErrNumber)
		refusedOpen(t, p.d, number, api.ErrNumber)
		p.same("what was refused")
		for _, d := range []*disk.Disk{lost, newDisk(t, 20), newDisk(t, 1), logOn(t, 20, nil), nil} {
			refusedFormat(t, d, number, api.ErrNumber)
			refusedOpen(t, d, number, api.ErrNumber)
		}
	}
	p.open()
	p.tells(ballot(1, 1), ballot(1, 1), row(1)...)
}

// The errors of layer 6.
func TestDisksWithoutALog(t *testing.T) {
	for number := range 7 {
		refusedFormat(t, nil, number, api.ErrNumber)
		refusedOpen(t, nil, number, api.ErrNumber)
		for sectors := 1; sectors < 30; sectors++ {
			d := newDisk(t, sectors)
			if sectors < 4 {
				refusedFormat(t, d, number, api.ErrNumber)
				refusedOpen(t, d, number, api.ErrNumber)
				continue
			}
			refusedOpen(t, d, number, api.ErrGone)
			d.Lose()
			refusedFormat(t, d, number, api.ErrLost)
			refusedOpen(t, d, number, api.ErrLost)
		}
	}
}

// No epoch is left to claim.
func TestNoEpochIsLeft(t *testing.T) {
	for _, place := range []int{18, 19} {
		p := newPair(t, 20, 0)
		p.accepts(nil, ballot(1, 1), row(1)...)
		for _, d := range []*disk.Disk{p.d, p.k.d} {
			frame, err := crc.Frame(nums(farthest))
			if err != nil {
				t.Fatal(err)
			}
			_ = d.Write(place, append(frame, make([]byte, 64-len(frame))...))
			_ = d.Flush()
		}
		refusedFormat(t, p.d, 0, api.ErrFull)
		refusedOpen(t, p.d, 0, api.ErrFull)
		// Who has an epoch goes on.
		p.accepts(nil, ballot(1, 2), row(2)...)
		p.tells(ballot(1, 2), ballot(1, 2), row(2)...)
	}
}

// No area's Gen is left: neither record nor checkpoint fits.
func TestNoGenIsLeft(t *testing.T) {
	p := &pair{t: t, d: newDisk(t, 8)}
	p.k = &book{d: newDisk(t, 8)}
	f := facts{promised: ballot(1, 1), claimed: 4}
	for _, d := range []*disk.Disk{p.d, p.k.d} {
		frame, err := crc.Frame(append(nums(farthest, 0, 0), listBytes(f.snapshot())...))
		if err != nil || len(frame) > 63 {
			t.Fatal(len(frame), err)
		}
		_ = d.Write(0, append(append([]byte{1}, frame...), make([]byte, 63-len(frame))...))
		_ = d.Flush()
	}
	p.openAs(6)
	p.prepares(nil, ballot(2, 2))
	p.claims(ballot(5, 6), ballot(0, 0))
	for range 2 {
		p.prepares(api.ErrFull, ballot(3, 3))
		p.accepts(api.ErrFull, ballot(2, 2), row(1)...)
		p.claimFails(api.ErrFull, ballot(0, 0))
		p.tells(ballot(2, 2), ballot(0, 0))
		p.open()
	}
	refusedFormat(t, p.d, 0, api.ErrFull)
}

// Logs that the test wrote are read as the chapter says.
func TestOpenOfAWrittenLog(t *testing.T) {
	ledger := []api.Entry{deletes(0, 1), creates(1), binds(1, 8)}
	f := facts{promised: ballot(9, 6), accepted: ballot(8, 0), claimed: 20, ledger: ledger}
	p := crafted(t, 60, 3, f.snapshot())
	p.tells(ballot(9, 6), ballot(8, 0), ledger...)
	p.claims(ballot(21, 3), ballot(0, 0))

	p = crafted(t, 60, 3, f.snapshot(), promiseBytes(ballot(10, 0)), claimBytes(30), acceptingBytes(ballot(10, 2), 2, row(2)), promiseBytes(ballot(11, 1)))
	p.tells(ballot(11, 1), ballot(10, 2), append(slices.Clone(ledger[:2]), row(2)...)...)
	p.claims(ballot(31, 3), ballot(0, 0))

	p = crafted(t, 60, 3, facts{}.snapshot(), claimBytes(farthest-1))
	p.tells(ballot(0, 0), ballot(0, 0))
	p.claims(ballot(farthest, 3), ballot(0, 0))

	// The greatest Round that was claimed is told by no later record.
	p = crafted(t, 60, 3, facts{claimed: 20}.snapshot(), claimBytes(10), claimBytes(30), claimBytes(29))
	p.claims(ballot(31, 3), ballot(0, 0))
	p = crafted(t, 60, 3, facts{claimed: 20}.snapshot(), claimBytes(10))
	p.claims(ballot(21, 3), ballot(0, 0))

	// Fewer entries stay than could; none stays; all stay.
	p = crafted(t, 60, 3, f.snapshot(), acceptingBytes(ballot(10, 2), 1, ledger[1:]), acceptingBytes(ballot(10, 3), 0, ledger), acceptingBytes(ballot(10, 4), 3, nil))
	p.tells(ballot(10, 4), ballot(10, 4), ledger...)
	p.accepts(nil, ballot(10, 4), ledger[:1]...)

	// As many as a ledger may have.
	p = crafted(t, 300, 3, facts{promised: ballot(1, 1), accepted: ballot(1, 1), ledger: row(60)}.snapshot(), acceptingBytes(ballot(2, 1), 60, row(4)))
	p.tells(ballot(2, 1), ballot(2, 1), append(row(60), row(4)...)...)
}

func TestSnapshotsOfNoVoter(t *testing.T) {
	f := facts{promised: ballot(9, 6), accepted: ballot(8, 1), claimed: 20, ledger: []api.Entry{deletes(0, 1), binds(1, 2)}}
	good := f.snapshot()
	for size := range good {
		isNoVoter(t, good[:size])
	}
	for _, behind := range []byte{0, 1, 255} {
		isNoVoter(t, append(bytes.Clone(good), behind))
	}
	isNoVoter(t, []byte("no voter's"))
	for _, b := range append(illegal(), ballot(0, 1), ballot(0, 6)) {
		// None is no legal ballot, but may stand here.
		if b.Round < 0 || b.Node < 0 || noBallot(b) {
			continue
		}
		isNoVoter(t, facts{promised: b, accepted: ballot(1, 1)}.snapshot())
		isNoVoter(t, facts{promised: ballot(farthest, 6), accepted: b}.snapshot())
	}
	for _, claimed := range []int{farthest + 1, math.MaxInt} {
		isNoVoter(t, facts{claimed: claimed}.snapshot())
	}
	// A ledger that was accepted by no ballot.
	isNoVoter(t, facts{promised: ballot(9, 6), ledger: row(1)}.snapshot())
	f.ledger = row(65)
	isNoVoter(t, f.snapshot())
	for _, wrong := range outOfForm() {
		if amounts(wrong.Client, wrong.Number, wrong.Order.Kind) {
			f.ledger = []api.Entry{deletes(1, 1), wrong}
			isNoVoter(t, f.snapshot())
		}
	}
	// A number that isn't in its shortest form.
	isNoVoter(t, append([]byte{0x80, 0}, facts{}.snapshot()[1:]...))
	// A ledger whose bytes go on.
	isNoVoter(t, append(nums(1, 1, 1, 1, 0), listBytes(append(ledgerBytes(row(1)), 0))...))
}

func TestRecordsOfNoVoter(t *testing.T) {
	f := facts{promised: ballot(9, 6), accepted: ballot(8, 1), claimed: 20, ledger: row(3)}
	snapshot := f.snapshot()
	good := [][]byte{promiseBytes(ballot(300, 6)), acceptingBytes(ballot(300, 6), 2, []api.Entry{binds(1, 2)}), claimBytes(300)}
	for _, b := range good {
		crafted(t, 200, 0, snapshot, b)
		for size := range b {
			// A number that is cut is none.
			isNoVoter(t, snapshot, b[:size])
			isNoVoter(t, snapshot, good[0], b[:size], good[2])
		}
		for _, behind := range []byte{0, 1, 255} {
			isNoVoter(t, snapshot, append(bytes.Clone(b), behind))
		}
	}
	for _, kind := range []int{0, 4, 5, 127, 128, farthest, math.MaxInt} {
		for _, b := range good {
			isNoVoter(t, snapshot, append(nums(kind), b[1:]...))
		}
	}
	for _, b := range append(illegal(), ballot(0, 0)) {
		if b.Round < 0 || b.Node < 0 {
			continue
		}
		isNoVoter(t, snapshot, promiseBytes(b))
		isNoVoter(t, snapshot, acceptingBytes(b, 3, nil))
		if !within(b.Round, 1, farthest) {
			isNoVoter(t, snapshot, claimBytes(b.Round))
		}
	}
	for _, stay := range []int{4, 5, 64, 65, farthest, math.MaxInt} {
		isNoVoter(t, snapshot, acceptingBytes(ballot(300, 6), stay, nil))
		isNoVoter(t, facts{}.snapshot(), acceptingBytes(ballot(300, 6), stay, row(1)))
	}
	isNoVoter(t, facts{}.snapshot(), acceptingBytes(ballot(1, 6), 1, row(1)))
	// One entry more than a ledger may have.
	crafted(t, 200, 0, snapshot, acceptingBytes(ballot(300, 6), 3, row(61)))
	isNoVoter(t, snapshot, acceptingBytes(ballot(300, 6), 3, row(62)))
	isNoVoter(t, snapshot, acceptingBytes(ballot(300, 6), 0, row(65)))
	for _, wrong := range outOfForm() {
		if amounts(wrong.Client, wrong.Number, wrong.Order.Kind) {
			isNoVoter(t, snapshot, acceptingBytes(ballot(300, 6), 1, []api.Entry{wrong}))
		}
	}
	isNoVoter(t, snapshot, append(nums(2, 300, 6, 0), listBytes(append(ledgerBytes(row(1)), 0))...))
	isNoVoter(t, snapshot, append(nums(2, 300, 6), []byte{0x80, 0, 1, 0}...))
}

// A good log with any byte changed to any other one: opened as the words tell it, or refused.
func TestLogsWithAByteChanged(t *testing.T) {
	f := facts{promised: ballot(300, 6), accepted: ballot(8, 1), claimed: 20, ledger: []api.Entry{deletes(0, 1), creates(2)}}
	log := [][]byte{f.snapshot(), promiseBytes(ballot(301, 0)), acceptingBytes(ballot(301, 6), 1, []api.Entry{binds(1, 1)}), claimBytes(400)}
	opens := 0
	for i := range log {
		for at := range log[i] {
			for change := 1; change < 256; change++ {
				changed := slices.Clone(log)
				changed[i] = bytes.Clone(log[i])
				changed[i][at] ^= byte(change)
				if openedAsToldOrRefused(t, changed) {
					opens++
				}
			}
		}
	}
	if opens < 500 {
		t.Errorf("only %d of these logs are a voter's", opens)
	}
}

// openedAsToldOrRefused tells whether such a log is a voter's.
func openedAsToldOrRefused(t *testing.T, log [][]byte) bool {
	t.Helper()
	k, want := openBook(logOn(t, 24, log[0], log[1:]...), 2)
	v, err := Open(logOn(t, 24, log[0], log[1:]...), 2)
	if err != want || (v == nil) != (err != nil) {
		t.Fatalf("Open of %x: %v; want %v", log, err, want)
	}
	if v == nil {
		return false
	}
	accepted, ledger := v.Accepted()
	own, err := v.Claim(ballot(0, 0))
	wantOwn, wantErr := k.claim(ballot(0, 0))
	if v.Promised() != k.promised || accepted != k.accepted || !sameLedger(ledger, k.ledger) || own != wantOwn || err != wantErr {
		t.Fatalf("Open of %x: %v, %v, %v; claims %v, %v; want %+v", log, v.Promised(), accepted, ledger, own, err, k.facts)
	}
	return true
}
