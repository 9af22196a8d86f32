package wal

import (
	"bytes"
	"encoding/hex"
	"math"
	"math/rand"
	"slices"
	"strings"
	"testing"

	"almoner/api"
	"almoner/disk"
)

func made(t *testing.T, sectors int) *disk.Disk {
	t.Helper()
	d, err := disk.New(sectors)
	if err != nil {
		t.Fatal(err)
	}
	return d
}

func formatted(t *testing.T, d *disk.Disk, snapshot string) *Log {
	t.Helper()
	l, err := Format(d, []byte(snapshot))
	if l == nil || err != nil {
		t.Fatalf("Format: %v", err)
	}
	return l
}

func appended(t *testing.T, l *Log, list ...string) {
	t.Helper()
	for _, s := range list {
		if err := l.Append([]byte(s)); err != nil {
			t.Fatalf("Append of %d bytes: %v", len(s), err)
		}
	}
}

func synced(t *testing.T, l *Log) {
	t.Helper()
	if err := l.Sync(); err != nil {
		t.Fatalf("Sync: %v", err)
	}
}

// opened opens a log, and asks that it and Open tell the same.
func opened(t *testing.T, d *disk.Disk) (*Log, []string) {
	t.Helper()
	l, snapshot, others, err := Open(d)
	if l == nil || err != nil {
		t.Fatalf("Open: %v", err)
	}
	list := []string{string(snapshot)}
	for _, b := range others {
		list = append(list, string(b))
	}
	if got := held(l); !slices.Equal(got, list) {
		t.Fatalf("the log has %q; Open tells %q", got, list)
	}
	return l, list
}

// held is the data of a log's records.
func held(l *Log) []string {
	var list []string
	for _, b := range l.Records() {
		list = append(list, string(b))
	}
	return list
}

// opens asks what Open answers.
func opens(t *testing.T, d *disk.Disk, want ...string) *Log {
	t.Helper()
	l, list := opened(t, d)
	if !slices.Equal(list, want) {
		t.Fatalf("Open: %q; want %q", list, want)
	}
	return l
}

// gone asks that Open finds no area.
func gone(t *testing.T, d *disk.Disk) {
	t.Helper()
	openRefused(t, d, api.ErrGone)
}

// stays asks that a call is refused with an error, and that the disk stays as it is.
func stays(t *testing.T, d *disk.Disk, call func() error, want error) {
	t.Helper()
	before, waiting, writes := image(d), d.Waiting(), d.Writes()
	if err := call(); err != want {
		t.Fatalf("%v; want %v", err, want)
	}
	if d.Waiting() != waiting || d.Writes() != writes || !slices.EqualFunc(image(d), before, bytes.Equal) {
		t.Fatalf("behind %v the disk is another one", want)
	}
}

func formatRefused(t *testing.T, d *disk.Disk, snapshot []byte, want error) {
	t.Helper()
	stays(t, d, func() error {
		l, err := Format(d, snapshot)
		if l != nil {
			t.Fatalf("a log beside %v", err)
		}
		return err
	}, want)
}

func openRefused(t *testing.T, d *disk.Disk, want error) {
	t.Helper()
	stays(t, d, func() error {
		l, snapshot, others, err := Open(d)
		if l != nil || snapshot != nil || others != nil {
			t.Fatalf("answers beside %v", err)
		}
		return err
	}, want)
}

// refuses asks that a call of a log is refused, and that the log stays as it is too.
func refuses(t *testing.T, d *disk.Disk, l *Log, call func() error, want error) {
	t.Helper()
	gen, epoch, left, list := l.Gen(), l.Epoch(), l.Left(), held(l)
	stays(t, d, call, want)
	if l.Gen() != gen || l.Epoch() != epoch || l.Left() != left || !slices.Equal(held(l), list) {
		t.Fatalf("behind %v the log is another one", want)
	}
}

// laid writes sectors as they are, and makes them safe.
func laid(t *testing.T, d *disk.Disk, place int, sectors ...[]byte) {
	t.Helper()
	for i, s := range sectors {
		if err := d.Write(place+i, s); err != nil {
			t.Fatal(err)
		}
	}
	d.Flush()
}

// lain is a record as it lies.
func lain(gen, epoch, index int, data string) [][]byte {
	return sectorsOf(frameOf(entry{gen, epoch, index, []byte(data)}.payload()))
}

// sector is the bytes that base 16 tells, and bytes 0.
func sector(t *testing.T, text string) []byte {
	t.Helper()
	b, err := hex.DecodeString(strings.ReplaceAll(text, " ", ""))
	if err != nil {
		t.Fatal(err)
	}
	return append(b, make([]byte, 64-len(b))...)
}

// lies asks for all sectors of a disk: those not named are all 0.
func lies(t *testing.T, d *disk.Disk, want map[int]string) {
	t.Helper()
	for i, got := range image(d) {
		if !bytes.Equal(got, sector(t, want[i])) {
			t.Errorf("sector %d: %x; want %s", i, got, want[i])
		}
	}
}

// P6.1: every call answers what is told, in every order of calls and crashes.

func TestTheChaptersExample(t *testing.T) {
	d := made(t, 8)
	l := formatted(t, d, "s")
	appended(t, l, "a")
	synced(t, l)
	appended(t, l, "b")
	d.Crash(0, -1)
	l = opens(t, d, "s", "a")
	if l.Epoch() != 2 || l.Gen() != 1 {
		t.Errorf("Epoch %d, Gen %d", l.Epoch(), l.Gen())
	}
}

func TestHowItLiesOnTheDisk(t *testing.T) {
	const (
		s    = "01 05000000 01 01 00 01 73 f30e55f9"
		a    = "01 05000000 01 01 01 01 61 8c152e0b"
		u    = "01 05000000 02 02 00 01 74 6e4e2432"
		one  = "01000000 01 3bee458c"
		two  = "01000000 02 81bf4c15"
		none = ""
	)
	d := made(t, 8)
	l := formatted(t, d, "s")
	if d.Waiting() != 0 || d.Writes() != 2 {
		t.Errorf("Format: Waiting %d, Writes %d", d.Waiting(), d.Writes())
	}
	lies(t, d, map[int]string{0: s, 6: none, 7: one})
	appended(t, l, "a")
	if d.Waiting() != 1 || d.Writes() != 3 {
		t.Errorf("Append: Waiting %d, Writes %d", d.Waiting(), d.Writes())
	}
	lies(t, d, map[int]string{0: s, 1: a, 7: one})
	l = opens(t, d, "s", "a")
	if d.Waiting() != 0 || d.Writes() != 4 {
		t.Errorf("Open: Waiting %d, Writes %d", d.Waiting(), d.Writes())
	}
	lies(t, d, map[int]string{0: s, 1: a, 6: two, 7: one})
	if err := l.Checkpoint([]byte("t")); err != nil {
		t.Fatal(err)
	}
	if d.Waiting() != 0 || d.Writes() != 5 {
		t.Errorf("Checkpoint: Waiting %d, Writes %d", d.Waiting(), d.Writes())
	}
	lies(t, d, map[int]string{0: s, 1: a, 3: u, 6: two, 7: one})
}

func TestARecordIsWrittenInRisingOrder(t *testing.T) {
	// A record of 4 pieces behind a snapshot of one: a crash that keeps write i alone tells where that one went.
	data := strings.Repeat("abcdefg", 30)
	for i := range 4 {
		d := made(t, 20)
		l := formatted(t, d, "s")
		appended(t, l, data)
		if d.Waiting() != 4 || l.Left() != 63*4 {
			t.Fatalf("Waiting %d, Left %d", d.Waiting(), l.Left())
		}
		d.Crash(1<<i, -1)
		for k, want := range lain(1, 1, 1, data) {
			if k != i {
				want = make([]byte, 64)
			}
			if got, _ := d.Read(1 + k); !bytes.Equal(got, want) {
				t.Errorf("write %d: sector %d: %x", i, 1+k, got)
			}
		}
	}
}

func TestDisksOfAllSizes(t *testing.T) {
	for _, n := range []int{1, 2, 3} {
		formatRefused(t, made(t, n), nil, api.ErrNumber)
		openRefused(t, made(t, n), api.ErrNumber)
	}
	if l, err := Format(nil, nil); l != nil || err != api.ErrNumber {
		t.Errorf("Format of no disk: %v", err)
	}
	if l, _, _, err := Open(nil); l != nil || err != api.ErrNumber {
		t.Errorf("Open of no disk: %v", err)
	}
	sizes := []int{255, 256, 1023, api.MaxSectors}
	for n := 4; n < 30; n++ {
		sizes = append(sizes, n)
	}
	for _, n := range sizes {
		aDiskOf(t, n)
	}
}

// aDiskOf goes through both areas of a disk of n sectors, from their first to their last sector.
func aDiskOf(t *testing.T, n int) {
	t.Helper()
	d, m := made(t, n), made(t, n)
	gone(t, d)
	l := formatted(t, d, "x")
	model, err := modelFormat(m, []byte("x"))
	if err != nil {
		t.Fatal(err)
	}
	for round := range 3 {
		for l.Left() > 0 {
			appended(t, l, "y")
			model.append([]byte("y"))
		}
		refuses(t, d, l, func() error { return l.Append(nil) }, api.ErrFull)
		alike(t, d, m)
		tells(t, l, model)
		if l.Gen() != round+1 || len(model.data) != sizeOf(n) {
			t.Errorf("%d sectors: Gen %d, %d records", n, l.Gen(), len(model.data))
		}
		if err := l.Checkpoint([]byte("z")); err != nil {
			t.Fatal(err)
		}
		model.checkpoint([]byte("z"))
	}
	if n%2 == 1 {
		if b, _ := d.Read(n - 3); !bytes.Equal(b, make([]byte, 64)) {
			t.Errorf("%d sectors: the one of no area is %x", n, b)
		}
	}
	opens(t, d, "z")
}

func TestDataOfEverySizeUpToSomePieces(t *testing.T) {
	r := rand.New(rand.NewSource(61))
	for size := range 400 {
		data := make([]byte, size)
		r.Read(data)
		d, m := made(t, 50), made(t, 50)
		l, err := Format(d, data)
		if err != nil {
			t.Fatalf("%d bytes: %v", size, err)
		}
		model, _ := modelFormat(m, data)
		for range 2 {
			appended(t, l, string(data))
			model.append(data)
		}
		alike(t, d, m)
		tells(t, l, model)
		opens(t, d, string(data), string(data), string(data))
	}
}

func TestARecordOfJustSoManyPieces(t *testing.T) {
	// A frame has 8 bytes beside its payload; a record of small numbers 4 beside its data, 5 from 128 bytes of data on.
	for _, c := range []struct{ size, pieces int }{
		{0, 1}, {1, 1}, {50, 1}, {51, 1}, {52, 2}, {114, 2}, {115, 3}, {127, 3}, {128, 3}, {176, 3}, {177, 4},
	} {
		d := made(t, 22)
		l := formatted(t, d, "s")
		writes := d.Writes()
		appended(t, l, strings.Repeat("d", c.size))
		if d.Writes()-writes != c.pieces || l.Left() != 63*(9-c.pieces) {
			t.Errorf("%d bytes: %d writes, Left %d", c.size, d.Writes()-writes, l.Left())
		}
		appended(t, l, "behind")
		opens(t, d, "s", strings.Repeat("d", c.size), "behind")
	}
}

func TestARecordThatJustFits(t *testing.T) {
	for h := 1; h <= 6; h++ {
		most := 0
		for len(lain(1, 1, 0, strings.Repeat("d", most+1))) <= h {
			most++
		}
		fit, over := strings.Repeat("d", most), strings.Repeat("d", most+1)
		d := made(t, 2*h+2)
		formatRefused(t, d, []byte(over), api.ErrFull)
		gone(t, d)
		l := formatted(t, d, fit)
		if l.Left() != 0 || l.Epoch() != 1 {
			t.Errorf("%d sectors: Left %d, Epoch %d", h, l.Left(), l.Epoch())
		}
		refuses(t, d, l, func() error { return l.Append(nil) }, api.ErrFull)
		refuses(t, d, l, func() error { return l.Checkpoint([]byte(over)) }, api.ErrFull)
		formatRefused(t, d, []byte(over), api.ErrFull)
		if err := l.Checkpoint([]byte(fit)); err != nil || l.Left() != 0 {
			t.Errorf("%d sectors: Checkpoint: %v", h, err)
		}
		opens(t, d, fit)
		// The same behind a snapshot of one sector, in an area of one more.
		d = made(t, 2*h+4)
		l = formatted(t, d, "s")
		refuses(t, d, l, func() error { return l.Append([]byte(over)) }, api.ErrFull)
		appended(t, l, fit)
		if l.Left() != 0 {
			t.Errorf("%d sectors: Left %d", h, l.Left())
		}
		opens(t, d, "s", fit)
	}
}

func TestAGreaterNumberTakesMoreRoom(t *testing.T) {
	// With an Epoch of one byte more the same snapshot doesn't fit any more, and the epoch isn't claimed.
	data := []byte(strings.Repeat("d", 51))
	d := made(t, 4)
	laid(t, d, 2, cellOf(numbers(126)))
	if l, err := Format(d, data); err != nil || l.Epoch() != 127 {
		t.Fatal(err)
	}
	formatRefused(t, d, data, api.ErrFull)
	if l, err := Format(d, data[1:]); err != nil || l.Epoch() != 128 || l.Gen() != 2 {
		t.Fatal(err)
	}
}

func TestDataOfMaxData(t *testing.T) {
	r := rand.New(rand.NewSource(62))
	data, large := make([]byte, MaxData), make([]byte, MaxData+1)
	r.Read(data)
	if MaxData != 32000 {
		t.Errorf("MaxData is %d", MaxData)
	}
	d, m := made(t, api.MaxSectors), made(t, api.MaxSectors)
	formatRefused(t, d, large, api.ErrLarge)
	l, err := Format(d, data)
	if err != nil {
		t.Fatal(err)
	}
	model, _ := modelFormat(m, data)
	alike(t, d, m)
	tells(t, l, model)
	refuses(t, d, l, func() error { return l.Append(large) }, api.ErrLarge)
	refuses(t, d, l, func() error { return l.Append(data) }, api.ErrFull)
	refuses(t, d, l, func() error { return l.Checkpoint(large) }, api.ErrLarge)
	if err := l.Checkpoint(data); err != nil {
		t.Fatal(err)
	}
	opens(t, d, string(data))
	// With all numbers at their greatest it still fits into the greatest area.
	d = made(t, api.MaxSectors)
	laid(t, d, 0, lain(api.MaxTime-1, api.MaxTime-1, 0, "")...)
	if l, err := Format(d, data); err != nil || l.Gen() != api.MaxTime || l.Epoch() != api.MaxTime {
		t.Fatal(err)
	}
	openRefused(t, d, api.ErrFull)
}

func TestARecordOnTheDiskMayHaveMoreThanMaxData(t *testing.T) {
	data := strings.Repeat("m", MaxData+100)
	d := made(t, api.MaxSectors)
	laid(t, d, 511, lain(3, 4, 0, data)...)
	l := opens(t, d, data)
	if l.Gen() != 3 || l.Epoch() != 5 {
		t.Errorf("Gen %d, Epoch %d", l.Gen(), l.Epoch())
	}
	refuses(t, d, l, func() error { return l.Checkpoint([]byte(data)) }, api.ErrLarge)
}

// noRecords is payloads that are those of no record, though each is nearly one of the Gen and Index.
func noRecords(gen, index int) map[string][]byte {
	const over = api.MaxTime + 1
	return map[string][]byte{
		"nothing":                nil,
		"a number":               numbers(gen),
		"two numbers":            numbers(gen, 1),
		"no data":                numbers(gen, 1, index),
		"more behind":            append(entry{gen, 1, index, []byte("d")}.payload(), 0),
		"less data than counted": append(numbers(gen, 1, index, 3), "de"...),
		"more data than counted": append(numbers(gen, 1, index, 3), "defg"...),
		"a count past all":       append(numbers(gen, 1, index, math.MaxInt), "defg"...),
		"Gen above MaxTime":      append(numbers(over, 1, index, 1), 'd'),
		"Epoch above MaxTime":    append(numbers(gen, over, index, 1), 'd'),
		"Index above MaxTime":    append(numbers(gen, 1, over, 1), 'd'),
		"Gen not the shortest":   append([]byte{byte(gen) + 128, 0, 1, byte(index), 1}, 'd'),
		"Epoch not the shortest": append([]byte{byte(gen), 129, 0, byte(index), 1}, 'd'),
		"Index not the shortest": append([]byte{byte(gen), 1, byte(index) + 128, 0, 1}, 'd'),
		"count not the shortest": append([]byte{byte(gen), 1, byte(index), 129, 0}, 'd'),
	}
}

func TestAFrameWhosePayloadIsNoRecord(t *testing.T) {
	for name, payload := range noRecords(5, 0) {
		d := made(t, 12)
		laid(t, d, 0, sectorsOf(frameOf(payload))...)
		t.Log(name)
		gone(t, d)
		laid(t, d, 5, lain(2, 1, 0, "s")...)
		opens(t, d, "s")
	}
	for name, payload := range noRecords(5, 1) {
		d := made(t, 12)
		laid(t, d, 0, lain(5, 1, 0, "s")...)
		laid(t, d, 1, sectorsOf(frameOf(payload))...)
		laid(t, d, 2, lain(5, 1, 1, "x")...)
		laid(t, d, 3, lain(5, 1, 2, "y")...)
		t.Log(name)
		l := opens(t, d, "s")
		if l.Left() != 63*4 {
			t.Errorf("%s: Left %d", name, l.Left())
		}
		// What is appended lies over it, and has a greater Epoch than what lies behind.
		appended(t, l, "new")
		opens(t, d, "s", "new")
	}
}

func TestTheFirstRecordOfAnArea(t *testing.T) {
	for _, c := range []struct {
		gen, epoch, index int
		ok                bool
	}{
		{1, 0, 0, true}, {2, 7, 0, true}, {api.MaxTime, 0, 0, true}, {1, api.MaxTime - 1, 0, true},
		{0, 0, 0, false}, {0, 1, 0, false}, {1, 1, 1, false}, {1, 1, 2, false}, {1, 1, api.MaxTime, false}, {0, 1, 1, false},
	} {
		for _, place := range []int{0, 5} {
			d := made(t, 12)
			laid(t, d, place, lain(c.gen, c.epoch, c.index, "s")...)
			if !c.ok {
				gone(t, d)
				continue
			}
			l := opens(t, d, "s")
			if l.Gen() != c.gen || l.Epoch() != c.epoch+1 || l.Left() != 63*4 {
				t.Errorf("%+v: Gen %d, Epoch %d, Left %d", c, l.Gen(), l.Epoch(), l.Left())
			}
		}
	}
}

func TestARecordBehindAnother(t *testing.T) {
	for _, c := range []struct {
		gen, epoch, index int
		ok                bool
	}{
		{5, 5, 2, true}, {5, 6, 2, true}, {5, api.MaxTime - 1, 2, true},
		{4, 5, 2, false}, {6, 5, 2, false}, {0, 5, 2, false}, {api.MaxTime, 5, 2, false},
		{5, 5, 0, false}, {5, 5, 1, false}, {5, 5, 3, false}, {5, 5, api.MaxTime, false},
		{5, 4, 2, false}, {5, 3, 2, false}, {5, 0, 2, false}, {4, 9, 3, false},
	} {
		for _, place := range []int{0, 5} {
			d := made(t, 12)
			laid(t, d, place, lain(5, 3, 0, "s")...)
			laid(t, d, place+1, lain(5, 5, 1, "a")...)
			laid(t, d, place+2, lain(c.gen, c.epoch, c.index, "b")...)
			laid(t, d, place+3, lain(5, api.MaxTime-1, 3, "c")...)
			want, epoch := []string{"s", "a"}, 6
			if c.ok {
				want, epoch = []string{"s", "a", "b", "c"}, api.MaxTime
			}
			l := opens(t, d, want...)
			if l.Gen() != 5 || l.Epoch() != epoch || l.Left() != 63*(5-len(want)) {
				t.Errorf("%+v: Gen %d, Epoch %d, Left %d", c, l.Gen(), l.Epoch(), l.Left())
			}
		}
	}
}

func TestTheFirstByteOfASector(t *testing.T) {
	long := strings.Repeat("l", 100) // two pieces
	for first := range 256 {
		d := made(t, 12)
		s := lain(1, 1, 0, long)
		s[0][0] = byte(first)
		laid(t, d, 0, s...)
		if first == 1 {
			opens(t, d, long)
		} else {
			gone(t, d)
		}
		d = made(t, 12)
		s = lain(1, 1, 0, long)
		s[1][0] = byte(first)
		laid(t, d, 0, s...)
		if first == 0 {
			opens(t, d, long)
		} else {
			gone(t, d)
		}
		d = made(t, 12)
		laid(t, d, 0, lain(1, 1, 0, "s")...)
		s = lain(1, 1, 1, long)
		s[0][0] = byte(first)
		laid(t, d, 1, s...)
		if first == 1 {
			opens(t, d, "s", long)
		} else {
			opens(t, d, "s")
		}
	}
}

func TestARecordDoesNotReachOutOfItsArea(t *testing.T) {
	long := strings.Repeat("l", 300) // five pieces and some
	s := lain(1, 1, 0, long)
	for h := 1; h <= len(s)+1; h++ {
		d := made(t, 2*h+2)
		laid(t, d, 0, s[:min(len(s), 2*h)]...)
		if h < len(s) {
			gone(t, d)
		} else {
			opens(t, d, long)
		}
	}
	// Nor into the cells, nor into the sector between them and the areas.
	for _, n := range []int{10, 11} {
		d := made(t, n)
		laid(t, d, 4, lain(1, 1, 0, "s")...)
		laid(t, d, 5, lain(1, 1, 1, strings.Repeat("l", 200))...)
		opens(t, d, "s")
	}
}

func TestWhatStandsBehindAFrame(t *testing.T) {
	for _, data := range []string{"", "s", strings.Repeat("l", 100)} {
		d := made(t, 12)
		s := lain(1, 1, 0, data)
		last := s[len(s)-1]
		for i := (12+len(data))%63 + 1; i < 64; i++ {
			last[i] = 0xee
		}
		laid(t, d, 0, s...)
		// And sectors of no record, which begin with the byte 0.
		laid(t, d, len(s), append([]byte{0}, bytes.Repeat([]byte{1}, 63)...))
		laid(t, d, len(s)+1, lain(1, 1, 1, "beyond a gap")...)
		l := opens(t, d, data)
		if l.Left() != 63*(5-len(s)) {
			t.Errorf("%d bytes: Left %d", len(data), l.Left())
		}
	}
}

func TestDataThatLookLikeRecords(t *testing.T) {
	// However long the data ahead, the sectors of records that stand in data never stand in a sector of their own.
	var sectors []byte
	for index := range 4 {
		sectors = append(sectors, lain(1, 9, index, "false")[0]...)
	}
	for ahead := range 64 {
		d := made(t, 40)
		l := formatted(t, d, "s")
		data := strings.Repeat("-", ahead) + string(sectors)
		appended(t, l, data)
		// Without its first sector the record is none, and so is what its data say.
		d.Crash(math.MaxUint64-1, -1)
		l = opens(t, d, "s")
		appended(t, l, "n")
		opens(t, d, "s", "n")
	}
}

func TestTheNewestArea(t *testing.T) {
	for _, c := range []struct {
		first, second int // their Gens; 0: not valid
		want          string
	}{
		{1, 0, "first"}, {0, 1, "second"}, {2, 1, "first"}, {1, 2, "second"}, {3, 3, "first"}, {7, 300, "second"},
		{300, 7, "first"}, {api.MaxTime, api.MaxTime, "first"}, {api.MaxTime - 1, api.MaxTime, "second"}, {api.MaxTime, 1, "first"},
	} {
		for _, n := range []int{4, 5, 12, 13} {
			h := sizeOf(n)
			d := made(t, n)
			laid(t, d, 0, lain(c.first, 3, 0, "first")...)
			laid(t, d, h, lain(c.second, 3, 0, "second")...)
			l := opens(t, d, c.want)
			if l.Gen() != max(c.first, c.second) || l.Epoch() != 4 {
				t.Errorf("%+v: Gen %d, Epoch %d", c, l.Gen(), l.Epoch())
			}
			// A Format goes into the other one.
			if l.Gen() == api.MaxTime {
				formatRefused(t, d, []byte("new"), api.ErrFull)
				continue
			}
			place := 0
			if c.want == "first" {
				place = h
			}
			before, _ := d.Read(h - place)
			l = formatted(t, d, "new")
			if l.Gen() != max(c.first, c.second)+1 || l.Epoch() != 5 {
				t.Errorf("%+v: Format: Gen %d, Epoch %d", c, l.Gen(), l.Epoch())
			}
			after, _ := d.Read(h - place)
			fresh, _ := d.Read(place)
			if !bytes.Equal(before, after) || !bytes.Equal(fresh, lain(l.Gen(), 5, 0, "new")[0]) {
				t.Errorf("%+v: Format wrote another area", c)
			}
		}
	}
}

func TestCells(t *testing.T) {
	valid := func(n int) []byte { return cellOf(numbers(n)) }
	behind := valid(6)
	for i := 9; i < 64; i++ {
		behind[i] = byte(i)
	}
	wrong := valid(6)
	wrong[4] = 7
	none := make([]byte, 64)
	for _, c := range []struct {
		name    string
		a, b    []byte
		epoch   int // of the last record
		claimed int
	}{
		{"no cell", none, none, 0, 1},
		{"no cell, an epoch", none, none, 4, 5},
		{"the first", valid(6), none, 4, 7},
		{"the second", none, valid(6), 4, 7},
		{"both", valid(6), valid(9), 4, 10},
		{"both, the other way round", valid(9), valid(6), 4, 10},
		{"the same", valid(6), valid(6), 6, 7},
		{"the record's is greatest", valid(6), valid(7), 8, 9},
		{"the number 0", valid(0), valid(0), 0, 1},
		{"a great number", valid(1 << 35), valid(3), 0, 1<<35 + 1},
		{"MaxTime - 1", valid(api.MaxTime - 1), none, 0, api.MaxTime},
		{"bytes behind the frame", behind, none, 0, 7},
		{"a wrong check", wrong, none, 0, 1},
		{"more in the payload", cellOf(numbers(6, 0)), cellOf(numbers(6, 6)), 2, 3},
		{"an empty payload", cellOf(nil), cellOf(nil), 2, 3},
		{"not the shortest", cellOf([]byte{134, 0}), none, 2, 3},
		{"above MaxTime", cellOf(numbers(api.MaxTime + 1)), none, 2, 3},
		{"a cut number", cellOf([]byte{134}), none, 2, 3},
		{"a frame longer than a sector", cellOf(make([]byte, 60)), cellOf(bytes.Repeat([]byte{1}, 57)), 2, 3},
		{"not at the beginning", append([]byte{0}, valid(6)[:63]...), append([]byte{1}, valid(6)[:63]...), 2, 3},
	} {
		for _, n := range []int{4, 5, 9} {
			d := made(t, n)
			laid(t, d, sizeOf(n), lain(1, c.epoch, 0, "s")...)
			laid(t, d, n-2, c.a, c.b)
			before := image(d)
			l := opens(t, d, "s")
			if l.Epoch() != c.claimed {
				t.Errorf("%s: %d; want %d", c.name, l.Epoch(), c.claimed)
			}
			before[n-2+c.claimed%2] = valid(c.claimed)
			if d.Waiting() != 0 || !slices.EqualFunc(image(d), before, bytes.Equal) {
				t.Errorf("%s: %d sectors: %x", c.name, n, image(d))
			}
		}
	}
}

func TestTheEpochOfTheOlderAreaIsNotCounted(t *testing.T) {
	d := made(t, 8)
	laid(t, d, 0, lain(1, 9, 0, "old")...)
	laid(t, d, 3, lain(2, 3, 0, "new")...)
	laid(t, d, 4, lain(2, 4, 1, "newer")...)
	if l := opens(t, d, "new", "newer"); l.Epoch() != 5 {
		t.Errorf("Epoch %d", l.Epoch())
	}
	if l := formatted(t, d, "f"); l.Epoch() != 6 || l.Gen() != 3 {
		t.Errorf("Epoch %d, Gen %d", l.Epoch(), l.Gen())
	}
}

func TestEpochsAreClaimedInTurn(t *testing.T) {
	d := made(t, 9)
	for epoch := 1; epoch < 300; epoch++ {
		var l *Log
		switch {
		case epoch%7 == 1:
			l = formatted(t, d, "s")
		case epoch%3 == 1:
			d.Crash(0, -1)
			l, _ = opened(t, d)
		default:
			l, _ = opened(t, d)
		}
		if l.Epoch() != epoch || d.Waiting() != 0 {
			t.Fatalf("Epoch %d; want %d; Waiting %d", l.Epoch(), epoch, d.Waiting())
		}
		if b, _ := d.Read(7 + epoch%2); !bytes.Equal(b, cellOf(numbers(epoch))) {
			t.Fatalf("epoch %d: the cell is %x", epoch, b)
		}
		if b, _ := d.Read(8 - epoch%2); epoch > 1 && !bytes.Equal(b, cellOf(numbers(epoch-1))) {
			t.Fatalf("epoch %d: the other cell is %x", epoch, b)
		}
	}
}

func TestNumbersAtMaxTime(t *testing.T) {
	// No epoch is left, be it by a cell or by a record.
	for _, cell := range []int{2, 3} {
		d := made(t, 12)
		laid(t, d, 8+cell, cellOf(numbers(api.MaxTime)))
		formatRefused(t, d, []byte("f"), api.ErrFull)
		gone(t, d)
		laid(t, d, 0, lain(1, 1, 0, "s")...)
		openRefused(t, d, api.ErrFull)
		formatRefused(t, d, []byte("f"), api.ErrFull)
	}
	d := made(t, 12)
	laid(t, d, 0, lain(1, 1, 0, "s")...)
	laid(t, d, 1, lain(1, api.MaxTime, 1, "a")...)
	openRefused(t, d, api.ErrFull)
	formatRefused(t, d, nil, api.ErrFull)
	// The last epoch can be worked with, but not opened again.
	d = made(t, 12)
	laid(t, d, 11, cellOf(numbers(api.MaxTime-1)))
	l := formatted(t, d, "s")
	appended(t, l, "a")
	if l.Epoch() != api.MaxTime || l.Checkpoint([]byte("t")) != nil || l.Append(nil) != nil || l.Sync() != nil {
		t.Errorf("Epoch %d", l.Epoch())
	}
	openRefused(t, d, api.ErrFull)
	// The last Gen can be opened and appended to, but has none behind it.
	d = made(t, 12)
	laid(t, d, 5, lain(api.MaxTime-1, 1, 0, "s")...)
	l = opens(t, d, "s")
	if l.Checkpoint([]byte("t")) != nil || l.Gen() != api.MaxTime {
		t.Errorf("Gen %d", l.Gen())
	}
	refuses(t, d, l, func() error { return l.Checkpoint([]byte("u")) }, api.ErrFull)
	formatRefused(t, d, []byte("u"), api.ErrFull)
	appended(t, l, "a")
	l = opens(t, d, "t", "a")
	if l.Gen() != api.MaxTime || l.Epoch() != 3 {
		t.Errorf("Gen %d, Epoch %d", l.Gen(), l.Epoch())
	}
	refuses(t, d, l, func() error { return l.Checkpoint(nil) }, api.ErrFull)
}

func TestALostDisk(t *testing.T) {
	d := made(t, 12)
	l := formatted(t, d, "s")
	appended(t, l, "a")
	d.Lose()
	for range 2 {
		formatRefused(t, d, []byte("f"), api.ErrLost)
		openRefused(t, d, api.ErrLost)
		refuses(t, d, l, func() error { return l.Append([]byte("b")) }, api.ErrLost)
		refuses(t, d, l, l.Sync, api.ErrLost)
		refuses(t, d, l, func() error { return l.Checkpoint([]byte("t")) }, api.ErrLost)
	}
	if l.Left() != 63*3 || l.Gen() != 1 || l.Epoch() != 1 || !slices.Equal(held(l), []string{"s", "a"}) {
		t.Errorf("Left %d, Gen %d, Epoch %d, %q", l.Left(), l.Gen(), l.Epoch(), held(l))
	}
}

func TestTheFirstErrorNamedIsAnswered(t *testing.T) {
	large := make([]byte, MaxData+1)
	for n := 1; n <= 3; n++ {
		d := made(t, n)
		formatRefused(t, d, large, api.ErrNumber)
		d.Lose()
		formatRefused(t, d, large, api.ErrNumber)
		openRefused(t, d, api.ErrNumber)
	}
	// Lost, large, no area, no epoch.
	d := made(t, 4)
	laid(t, d, 3, cellOf(numbers(api.MaxTime)))
	formatRefused(t, d, large, api.ErrLarge)
	openRefused(t, d, api.ErrGone)
	d.Lose()
	formatRefused(t, d, large, api.ErrLost)
	openRefused(t, d, api.ErrLost)
	// Lost, large, no room, no Gen.
	d = made(t, 4)
	laid(t, d, 0, lain(api.MaxTime, 1, 0, "s")...)
	l := opens(t, d, "s")
	refuses(t, d, l, func() error { return l.Append(large) }, api.ErrLarge)
	refuses(t, d, l, func() error { return l.Checkpoint(large) }, api.ErrLarge)
	d.Lose()
	refuses(t, d, l, func() error { return l.Append(large) }, api.ErrLost)
	refuses(t, d, l, func() error { return l.Checkpoint(large) }, api.ErrLost)
}

func TestWithALargeOrFullOneNoEpochIsClaimed(t *testing.T) {
	d := made(t, 8)
	formatted(t, d, "s")
	for range 5 {
		formatRefused(t, d, make([]byte, MaxData+1), api.ErrLarge)
		formatRefused(t, d, make([]byte, 63*3), api.ErrFull)
	}
	if l := opens(t, d, "s"); l.Epoch() != 2 {
		t.Errorf("Epoch %d", l.Epoch())
	}
}

func TestARefusedCallFlushesNothing(t *testing.T) {
	d := made(t, 8)
	l := formatted(t, d, "s")
	appended(t, l, "a")
	formatRefused(t, d, make([]byte, 200), api.ErrFull)
	refuses(t, d, l, func() error { return l.Append(make([]byte, 200)) }, api.ErrFull)
	refuses(t, d, l, func() error { return l.Checkpoint(make([]byte, 200)) }, api.ErrFull)
	d.Crash(0, -1)
	opens(t, d, "s")
}

func TestFormatOpenAndCheckpointMakeAllSafe(t *testing.T) {
	for name, call := range map[string]func(d *disk.Disk, l *Log) error{
		"Format":     func(d *disk.Disk, l *Log) error { _, err := Format(d, []byte("t")); return err },
		"Open":       func(d *disk.Disk, l *Log) error { _, _, _, err := Open(d); return err },
		"Checkpoint": func(d *disk.Disk, l *Log) error { return l.Checkpoint([]byte("t")) },
		"Sync":       func(d *disk.Disk, l *Log) error { return l.Sync() },
	} {
		d := made(t, 8)
		l := formatted(t, d, "s")
		appended(t, l, "a")
		if err := call(d, l); err != nil || d.Waiting() != 0 {
			t.Errorf("%s: %v, Waiting %d", name, err, d.Waiting())
		}
		d.Crash(0, -1)
		want := []string{"s", "a"}
		if name == "Format" || name == "Checkpoint" {
			want = []string{"t"}
		}
		opens(t, d, want...)
		if b, _ := d.Read(1); !bytes.Equal(b, lain(1, 1, 1, "a")[0]) {
			t.Errorf("%s: the record that waited is gone", name)
		}
	}
}

func TestALogGoesOnBehindACrashAsItHolds(t *testing.T) {
	// Nobody opened it anew: it holds what it held, and writes behind that.
	d := made(t, 12)
	l := formatted(t, d, "s")
	appended(t, l, "a")
	d.Crash(0, -1)
	appended(t, l, "b")
	if !slices.Equal(held(l), []string{"s", "a", "b"}) || l.Left() != 63*2 {
		t.Errorf("%q, Left %d", held(l), l.Left())
	}
	lies := image(d)
	if !bytes.Equal(lies[1], make([]byte, 64)) || !bytes.Equal(lies[2], lain(1, 1, 2, "b")[0]) {
		t.Errorf("%x", lies)
	}
	opens(t, d, "s")
}

func TestRecordsAreThoseThatStoodThen(t *testing.T) {
	d := made(t, 20)
	l := formatted(t, d, "s")
	appended(t, l, "a", "b")
	row := l.Records()
	collected := func() []string {
		var list []string
		for i, b := range row {
			if i != len(list) {
				t.Errorf("Index %d at place %d", i, len(list))
			}
			list = append(list, string(b))
		}
		return list
	}
	want := []string{"s", "a", "b"}
	for _, change := range []func(){
		func() {},
		func() { appended(t, l, "c") },
		func() { appended(t, l, "d", "e", "f") },
		func() { l.Checkpoint([]byte("t")) },
		func() { appended(t, l, "u", "v", "w", "x") },
		func() { l.Checkpoint([]byte("y")) },
		func() { d.Crash(0, -1) },
		func() { d.Lose() },
	} {
		change()
		for range 2 {
			if got := collected(); !slices.Equal(got, want) {
				t.Fatalf("%q", got)
			}
		}
	}
	if got := held(l); !slices.Equal(got, []string{"y"}) {
		t.Errorf("%q", got)
	}
}

func TestRecordsAreGoneOverAsFarAsAsked(t *testing.T) {
	d := made(t, 20)
	l := formatted(t, d, "s")
	appended(t, l, "a", "b", "c")
	row := l.Records()
	for far := 1; far <= 4; far++ {
		count := 0
		for range row {
			count++
			if count == far {
				break
			}
		}
		if count != far {
			t.Errorf("%d of %d", count, far)
		}
	}
	// The log may be worked with while it is gone over.
	count := 0
	for i, b := range l.Records() {
		appended(t, l, string(b))
		count += i
	}
	if count != 6 || !slices.Equal(held(l), []string{"s", "a", "b", "c", "s", "a", "b", "c"}) {
		t.Errorf("%d, %q", count, held(l))
	}
}

// roomy is a text with bytes behind its length.
func roomy(s string) []byte { return append([]byte(s), "behind"...)[:len(s)] }

func TestWhatIsHandedInIsNeitherChangedNorKept(t *testing.T) {
	d := made(t, 12)
	s, a, u := roomy("snap"), roomy("appended"), roomy("anew")
	l, err := Format(d, s)
	if err != nil || l.Append(a) != nil {
		t.Fatal(err)
	}
	spoilt := func(b []byte, want string) {
		t.Helper()
		if string(b[:len(b)+6]) != want+"behind" {
			t.Errorf("%q", b[:len(b)+6])
		}
		for i := range b[:cap(b)] {
			b[:cap(b)][i] = '!'
		}
	}
	spoilt(s, "snap")
	spoilt(a, "appended")
	if !slices.Equal(held(l), []string{"snap", "appended"}) {
		t.Errorf("%q", held(l))
	}
	opens(t, d, "snap", "appended")
	if l.Checkpoint(u) != nil {
		t.Fatal("Checkpoint")
	}
	spoilt(u, "anew")
	if !slices.Equal(held(l), []string{"anew"}) {
		t.Errorf("%q", held(l))
	}
	opens(t, d, "anew")
}

func TestNoBytesAndNilMeanTheSame(t *testing.T) {
	for _, none := range [][]byte{nil, {}, []byte("x")[:0]} {
		d := made(t, 12)
		l, err := Format(d, none)
		if err != nil || l.Append(none) != nil || l.Checkpoint(none) != nil || l.Append(none) != nil {
			t.Fatal(err)
		}
		opens(t, d, "", "")
	}
}

// spoil changes bytes, and the room behind them.
func spoil(b []byte) {
	b = b[:cap(b)]
	for i := range b {
		b[i] = '!'
	}
}

func TestAnswersAreNewMemory(t *testing.T) {
	d := made(t, 30)
	first := formatted(t, d, "snap")
	appended(t, first, "one", "two", "three")
	l, snapshot, others, err := Open(d)
	if err != nil {
		t.Fatal(err)
	}
	want := []string{"snap", "one", "two", "three"}
	row := l.Records()
	for range 2 {
		spoil(snapshot)
		for i, b := range others {
			spoil(b)
			others[i] = nil
		}
		_ = append(others, nil)
		for _, b := range row {
			spoil(b)
		}
		for _, b := range first.Records() {
			spoil(b)
		}
		if !slices.Equal(held(l), want) || !slices.Equal(held(first), want) {
			t.Fatalf("%q, %q", held(l), held(first))
		}
		_, snapshot, others, _ = Open(d)
	}
	// No two lists of one answer share any.
	_, snapshot, others, _ = Open(d)
	spoil(others[1])
	_ = append(others[0], "over"...)
	if string(snapshot) != "snap" || string(others[0]) != "one" || string(others[2]) != "three" {
		t.Errorf("%q, %q", snapshot, others)
	}
	opens(t, d, want...)
}

// both is a log and its model, on disks to which the same is done.
type both struct {
	d, m  *disk.Disk
	logs  []*Log
	model []*logModel
}

func (p *both) keep(l *Log, m *logModel) {
	// Older logs stay in use: a call hangs on what its log holds, not on what others did.
	if len(p.logs) == 3 {
		p.logs, p.model = p.logs[1:], p.model[1:]
	}
	p.logs, p.model = append(p.logs, l), append(p.model, m)
}

// anyData is data of a size that often matters on a disk of n sectors.
func anyData(r *rand.Rand, n int) []byte {
	size := r.Intn(40)
	switch r.Intn(12) {
	case 0:
		size = 0
	case 1, 2, 3:
		size = 45 + r.Intn(12)
	case 4, 5:
		size = 100 + r.Intn(30)
	case 6:
		size = max(0, 63*sizeOf(n)-r.Intn(30))
	case 7:
		size = r.Intn(63*sizeOf(n) + 1)
	}
	if r.Intn(200) == 0 {
		size = MaxData + r.Intn(3)
	}
	b := make([]byte, size)
	if r.Intn(3) > 0 {
		r.Read(b)
	}
	return b
}

// scribble writes something to both disks that no log wrote.
func (p *both) scribble(r *rand.Rand) {
	if p.d.Lost() {
		return
	}
	n := p.d.Sectors()
	place, sectors := r.Intn(n), [][]byte{make([]byte, 64)}
	switch r.Intn(6) {
	case 0:
		r.Read(sectors[0])
		sectors[0][0] %= 3
	case 1:
		sectors[0], _ = p.d.Read(r.Intn(n))
	case 2:
		sectors[0], _ = p.d.Read(place)
		sectors[0][r.Intn(64)] ^= 1 << r.Intn(8)
	case 3:
		place = n - 2 + r.Intn(2)
		sectors[0] = cellOf(numbers(r.Intn(20)))
	case 4:
		place = r.Intn(2) * sizeOf(n)
		sectors = lain(r.Intn(5), r.Intn(9), r.Intn(2), string(anyData(r, n)))
	case 5:
		if len(p.model) == 0 {
			return
		}
		m := p.model[r.Intn(len(p.model))]
		place = m.area*sizeOf(n) + m.next
		sectors = lain(m.gen+r.Intn(5)/4, max(0, m.epoch-r.Intn(2)), len(m.data)+r.Intn(5)/4, string(anyData(r, n)))
	}
	for i, s := range sectors {
		if place+i >= n {
			return
		}
		p.d.Write(place+i, s)
		p.m.Write(place+i, s)
	}
}

// anyCall does one call at any log and at its model.
func (p *both) anyCall(t *testing.T, r *rand.Rand) {
	t.Helper()
	i, b := r.Intn(len(p.logs)), anyData(r, p.d.Sectors())
	l, m := p.logs[i], p.model[i]
	var got, want error
	switch k := r.Intn(10); {
	case k < 6:
		got, want = l.Append(b), m.append(b)
	case k < 8:
		got, want = l.Sync(), m.d.Flush()
	default:
		got, want = l.Checkpoint(b), m.checkpoint(b)
	}
	if got != want {
		t.Fatalf("a call with %d bytes: %v; want %v", len(b), got, want)
	}
}

func (p *both) step(t *testing.T, r *rand.Rand) {
	t.Helper()
	switch k := r.Intn(100); {
	case k < 8:
		b := anyData(r, p.d.Sectors())
		l, got := Format(p.d, b)
		m, want := modelFormat(p.m, b)
		if got != want {
			t.Fatalf("Format of %d bytes: %v; want %v", len(b), got, want)
		}
		if want == nil {
			p.keep(l, m)
		}
	case k < 20:
		l, snapshot, others, got := Open(p.d)
		m, want := modelOpen(p.m)
		if got != want {
			t.Fatalf("Open: %v; want %v", got, want)
		}
		if want == nil {
			p.keep(l, m)
			if list := append([][]byte{snapshot}, others...); !slices.EqualFunc(list, m.data, bytes.Equal) {
				t.Fatalf("Open: %x; want %x", list, m.data)
			}
		}
	case k < 80 && len(p.logs) > 0:
		p.anyCall(t, r)
	case k < 90:
		p.scribble(r)
	case k < 99:
		keep, torn := r.Uint64()|r.Uint64(), r.Intn(p.d.Waiting()+3)-1
		p.d.Crash(keep, torn)
		p.m.Crash(keep, torn)
	case r.Intn(4) == 0:
		p.d.Lose()
		p.m.Lose()
	}
	alike(t, p.d, p.m)
	for i, l := range p.logs {
		tells(t, l, p.model[i])
	}
}

func TestManyOrdersOfCallsAgainstAModel(t *testing.T) {
	r := rand.New(rand.NewSource(63))
	for range 500 {
		n := 4 + r.Intn(1+r.Intn(50))
		p := &both{d: made(t, n), m: made(t, n)}
		for range 100 {
			p.step(t, r)
		}
	}
}
