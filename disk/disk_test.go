package disk

import (
	"bytes"
	"math"
	"math/rand"
	"slices"
	"testing"

	"almoner/api"
)

// filled is a sector's bytes, all of them c.
func filled(c byte) []byte { return bytes.Repeat([]byte{c}, api.SectorSize) }

// halves is a sector's bytes: its first half a, its second half b.
func halves(a, b byte) []byte {
	return slices.Concat(filled(a)[:api.SectorSize/2], filled(b)[:api.SectorSize/2])
}

func anySector(r *rand.Rand) []byte {
	b := make([]byte, api.SectorSize)
	r.Read(b)
	return b
}

func made(t *testing.T, sectors int) *Disk {
	t.Helper()
	d, err := New(sectors)
	if d == nil || err != nil {
		t.Fatalf("New(%d): %v, %v", sectors, d, err)
	}
	return d
}

func writes(t *testing.T, d *Disk, i int, b []byte) {
	t.Helper()
	if err := d.Write(i, b); err != nil {
		t.Fatalf("Write(%d): %v", i, err)
	}
}

func flushes(t *testing.T, d *Disk) {
	t.Helper()
	if err := d.Flush(); err != nil {
		t.Fatalf("Flush: %v", err)
	}
}

func reads(t *testing.T, d *Disk, i int, want []byte) {
	t.Helper()
	b, err := d.Read(i)
	if err != nil || !bytes.Equal(b, want) {
		t.Fatalf("Read(%d) = %x, %v; want %x", i, b, err, want)
	}
}

// counts asks what the calls without arguments answer.
func counts(t *testing.T, d *Disk, sectors, waiting, writes int, lost bool) {
	t.Helper()
	if d.Sectors() != sectors || d.Waiting() != waiting || d.Writes() != writes || d.Lost() != lost {
		t.Fatalf("Sectors %d, Waiting %d, Writes %d, Lost %v; want %d, %d, %d, %v", d.Sectors(), d.Waiting(), d.Writes(), d.Lost(), sectors, waiting, writes, lost)
	}
}

// entry is a write of a model's cache.
type entry struct {
	place int
	bytes []byte
}

// model is a disk by the chapter's words alone: its sectors one behind the other, and Read by laying all of the cache onto a copy of them.
type model struct {
	sectors int
	safe    []byte
	cache   []entry
	writes  int
	lost    bool
}

func modelOf(sectors int) *model {
	return &model{sectors: sectors, safe: make([]byte, sectors*api.SectorSize)}
}

func lay(onto []byte, place int, b []byte) {
	for k, c := range b {
		onto[place*api.SectorSize+k] = c
	}
}

func (m *model) refused(i int) error {
	if m.lost {
		return api.ErrLost
	}
	if i < 0 || i > m.sectors-1 {
		return api.ErrNumber
	}
	return nil
}

func (m *model) write(i int, b []byte) error {
	if err := m.refused(i); err != nil {
		return err
	}
	if len(b) != 64 {
		return api.ErrLarge
	}
	m.cache = append(m.cache, entry{i, bytes.Clone(b)})
	m.writes++
	return nil
}

func (m *model) read(i int) ([]byte, error) {
	if err := m.refused(i); err != nil {
		return nil, err
	}
	all := bytes.Clone(m.safe)
	for _, e := range m.cache {
		lay(all, e.place, e.bytes)
	}
	return all[i*64 : i*64+64], nil
}

func (m *model) flush() error {
	if m.lost {
		return api.ErrLost
	}
	m.crash(math.MaxUint64, -1)
	return nil
}

func (m *model) crash(keep uint64, torn int) {
	for n, e := range m.cache {
		if keep&(1<<(n%64)) == 0 {
			continue
		}
		if n == torn {
			e.bytes = e.bytes[:32]
		}
		lay(m.safe, e.place, e.bytes)
	}
	m.cache = nil
}

func (m *model) lose() { m.lost, m.cache = true, nil }

// agree asks that a disk and its model tell the same of all sectors, of those that aren't there too.
func agree(t *testing.T, d *Disk, m *model) {
	t.Helper()
	counts(t, d, m.sectors, len(m.cache), m.writes, m.lost)
	for i := -1; i <= m.sectors; i++ {
		agreeAt(t, d, m, i)
	}
}

func agreeAt(t *testing.T, d *Disk, m *model, i int) {
	t.Helper()
	got, err := d.Read(i)
	want, wantErr := m.read(i)
	if err != wantErr || !bytes.Equal(got, want) {
		t.Fatalf("Read(%d) = %x, %v; want %x, %v", i, got, err, want, wantErr)
	}
	if err != nil && got != nil {
		t.Fatalf("Read(%d): bytes beside %v", i, err)
	}
}

// P5.1: every call answers what is told, in every order of calls.

func TestNewAtAllNumbers(t *testing.T) {
	for _, sectors := range []int{1, 2, 3, 63, 64, 65, 512, api.MaxSectors - 1, api.MaxSectors} {
		d := made(t, sectors)
		counts(t, d, sectors, 0, 0, false)
		for i := range sectors {
			reads(t, d, i, make([]byte, 64))
		}
	}
	for _, sectors := range []int{0, -1, -2, -api.MaxSectors, api.MaxSectors + 1, 2 * api.MaxSectors, 1 << 32, math.MaxInt, math.MinInt} {
		if d, err := New(sectors); d != nil || err != api.ErrNumber {
			t.Errorf("New(%d): %v, %v", sectors, d, err)
		}
	}
}

func TestTheChaptersExamples(t *testing.T) {
	a, b := filled('a'), filled('b')
	d := made(t, 1)
	writes(t, d, 0, a)
	flushes(t, d)
	writes(t, d, 0, b)
	d.Crash(0, 9)
	reads(t, d, 0, a)
	writes(t, d, 0, b)
	d.Crash(1, 0)
	reads(t, d, 0, halves('b', 'a'))
}

func TestTheFirstAndTheLastSector(t *testing.T) {
	for _, sectors := range []int{1, 2, 7, api.MaxSectors} {
		d := made(t, sectors)
		last := sectors - 1
		writes(t, d, 0, filled(1))
		writes(t, d, last, filled(2))
		reads(t, d, last, filled(2))
		d.Crash(3, -1)
		reads(t, d, last, filled(2))
		if sectors > 1 {
			reads(t, d, 0, filled(1))
		}
		for _, i := range []int{-1, -2, -sectors, sectors, sectors + 1, 2 * sectors, math.MaxInt, math.MinInt} {
			if err := d.Write(i, filled(3)); err != api.ErrNumber {
				t.Errorf("Write(%d) of %d: %v", i, sectors, err)
			}
			if b, err := d.Read(i); b != nil || err != api.ErrNumber {
				t.Errorf("Read(%d) of %d: %x, %v", i, sectors, b, err)
			}
		}
		counts(t, d, sectors, 0, 2, false)
		reads(t, d, last, filled(2))
	}
}

func TestEverySectorIsItsOwn(t *testing.T) {
	r := rand.New(rand.NewSource(53))
	d, m := made(t, api.MaxSectors), modelOf(api.MaxSectors)
	for _, i := range r.Perm(api.MaxSectors) {
		b := anySector(r)
		writes(t, d, i, b)
		m.write(i, b)
	}
	counts(t, d, api.MaxSectors, api.MaxSectors, api.MaxSectors, false)
	flushes(t, d)
	m.flush()
	agree(t, d, m)
}

func TestBytesThatAreNotASector(t *testing.T) {
	d := made(t, 2)
	writes(t, d, 0, filled(4))
	for _, size := range []int{0, 1, 31, 32, 33, 63, 65, 127, 128, 4096} {
		if err := d.Write(0, make([]byte, size)); err != api.ErrLarge {
			t.Errorf("%d bytes: %v", size, err)
		}
	}
	if err := d.Write(1, nil); err != api.ErrLarge {
		t.Errorf("no bytes: %v", err)
	}
	counts(t, d, 2, 1, 1, false)
	reads(t, d, 0, filled(4))
	reads(t, d, 1, filled(0))
}

func TestTheFirstErrorNamedIsAnswered(t *testing.T) {
	d := made(t, 2)
	for _, i := range []int{-1, 2} {
		if err := d.Write(i, filled(1)[:63]); err != api.ErrNumber {
			t.Errorf("no such sector, too few bytes: %v", err)
		}
	}
	d.Lose()
	for _, i := range []int{-1, 0, 1, 2} {
		for _, size := range []int{0, 63, 64, 65} {
			if err := d.Write(i, make([]byte, size)); err != api.ErrLost {
				t.Errorf("lost, Write(%d) of %d bytes: %v", i, size, err)
			}
		}
		if b, err := d.Read(i); b != nil || err != api.ErrLost {
			t.Errorf("lost, Read(%d): %x, %v", i, b, err)
		}
	}
	counts(t, d, 2, 0, 0, true)
}

func TestReadSeesTheLastWriteOfTheCache(t *testing.T) {
	d := made(t, 3)
	for c := byte(1); c < 100; c++ {
		writes(t, d, 1, filled(c))
		reads(t, d, 1, filled(c))
		reads(t, d, 0, filled(0))
		reads(t, d, 2, filled(0))
	}
	counts(t, d, 3, 99, 99, false)
	writes(t, d, 2, filled(200))
	reads(t, d, 1, filled(99))
	reads(t, d, 2, filled(200))
	// A write of nothing but 0 is a write too.
	writes(t, d, 1, filled(0))
	reads(t, d, 1, filled(0))
	flushes(t, d)
	reads(t, d, 1, filled(0))
	counts(t, d, 3, 0, 101, false)
}

func TestCrashAndFlushWithAnEmptyCache(t *testing.T) {
	d := made(t, 2)
	for range 3 {
		flushes(t, d)
		d.Crash(0, 0)
		d.Crash(math.MaxUint64, 0)
		d.Crash(math.MaxUint64, -1)
	}
	counts(t, d, 2, 0, 0, false)
	reads(t, d, 0, filled(0))
	writes(t, d, 0, filled(8))
	flushes(t, d)
	d.Crash(math.MaxUint64, 0)
	flushes(t, d)
	d.Crash(1, 0)
	counts(t, d, 2, 0, 1, false)
	reads(t, d, 0, filled(8))
	reads(t, d, 1, filled(0))
}

func TestCrashKeepsByTheBitModulo64(t *testing.T) {
	const many = 200
	keeps := []uint64{0, 1, 2, 1 << 62, 1 << 63, 1 | 1<<63, 0x5555555555555555, math.MaxUint64, math.MaxUint64 - 1}
	for bit := range 64 {
		keeps = append(keeps, 1<<bit)
	}
	for _, keep := range keeps {
		d := made(t, many)
		for n := range many {
			writes(t, d, n, filled(byte(n+1)))
		}
		d.Crash(keep, many)
		counts(t, d, many, 0, many, false)
		for n := range many {
			want := filled(0)
			if keep>>(n%64)&1 == 1 {
				want = filled(byte(n + 1))
			}
			reads(t, d, n, want)
		}
	}
}

func TestTornIsANumberNotABit(t *testing.T) {
	const many = 150
	for _, torn := range []int{math.MinInt, -64, -1, 0, 1, 63, 64, 65, 127, 128, many - 1, many, many + 1, math.MaxInt} {
		for _, keep := range []uint64{math.MaxUint64, 0, 1, 1 << 63} {
			d := made(t, many)
			for n := range many {
				writes(t, d, n, filled(7))
			}
			d.Crash(keep, torn)
			for n := range many {
				want := filled(7)
				if n == torn {
					want = halves(7, 0)
				}
				if keep>>(n%64)&1 == 0 {
					want = filled(0)
				}
				reads(t, d, n, want)
			}
		}
	}
}

func TestSeveralWritesOfOneSectorInOneCache(t *testing.T) {
	for _, c := range []struct {
		keep uint64
		torn int
		want []byte
	}{
		{0b000, -1, filled('s')},
		{0b000, 0, filled('s')},
		{0b000, 2, filled('s')},
		{0b001, -1, filled('a')},
		{0b001, 0, halves('a', 's')},
		{0b001, 1, filled('a')},
		{0b010, 1, halves('b', 's')},
		{0b010, 0, filled('b')},
		{0b011, 1, halves('b', 'a')},
		{0b011, 0, filled('b')},
		{0b100, 2, halves('c', 's')},
		{0b101, 2, halves('c', 'a')},
		{0b101, 1, filled('c')},
		{0b110, 2, halves('c', 'b')},
		{0b111, 2, halves('c', 'b')},
		{0b111, 0, filled('c')},
		{0b111, 3, filled('c')},
	} {
		d := made(t, 1)
		writes(t, d, 0, filled('s'))
		flushes(t, d)
		for _, b := range []byte("abc") {
			writes(t, d, 0, filled(b))
		}
		d.Crash(c.keep, c.torn)
		got, err := d.Read(0)
		if err != nil || !bytes.Equal(got, c.want) {
			t.Errorf("Crash(%03b, %d): %q, %v; want %q", c.keep, c.torn, got, err, c.want)
		}
	}
}

func TestTheCacheIsCountedAnewBehindAFlushAndACrash(t *testing.T) {
	for _, end := range []func(d *Disk){
		func(d *Disk) { d.Flush() },
		func(d *Disk) { d.Crash(math.MaxUint64, -1) },
	} {
		d := made(t, 2)
		for range 5 {
			writes(t, d, 0, filled(1))
		}
		end(d)
		counts(t, d, 2, 0, 5, false)
		writes(t, d, 1, filled(2))
		counts(t, d, 2, 1, 6, false)
		d.Crash(1, 0)
		reads(t, d, 0, filled(1))
		reads(t, d, 1, halves(2, 0))
	}
}

func TestRefusedWritesHaveNoNumber(t *testing.T) {
	d := made(t, 2)
	d.Write(2, filled(1))
	d.Write(0, filled(1)[1:])
	writes(t, d, 0, filled(1))
	d.Write(-1, filled(1))
	writes(t, d, 1, filled(2))
	counts(t, d, 2, 2, 2, false)
	d.Crash(0b11, 1)
	reads(t, d, 0, filled(1))
	reads(t, d, 1, halves(2, 0))
}

func TestALostDisk(t *testing.T) {
	d := made(t, 3)
	writes(t, d, 0, filled(1))
	flushes(t, d)
	writes(t, d, 1, filled(2))
	writes(t, d, 2, filled(3))
	d.Lose()
	// No call tells it, but what is lost for ever isn't kept.
	if len(d.safe) != 0 {
		t.Errorf("%d sectors are kept", len(d.safe))
	}
	for range 3 {
		counts(t, d, 3, 0, 3, true)
		if err := d.Flush(); err != api.ErrLost {
			t.Errorf("Flush: %v", err)
		}
		for i := range 3 {
			if b, err := d.Read(i); b != nil || err != api.ErrLost {
				t.Errorf("Read(%d): %x, %v", i, b, err)
			}
			if err := d.Write(i, filled(4)); err != api.ErrLost {
				t.Errorf("Write(%d): %v", i, err)
			}
		}
		d.Crash(math.MaxUint64, 0)
		d.Lose()
	}
}

func TestADiskIsNotLostByItself(t *testing.T) {
	d, other := made(t, 1), made(t, 1)
	writes(t, d, 0, filled(1))
	d.Crash(0, 0)
	flushes(t, d)
	counts(t, d, 1, 0, 1, false)
	other.Lose()
	counts(t, d, 1, 0, 1, false)
	writes(t, d, 0, filled(2))
	reads(t, d, 0, filled(2))
}

func TestWhatIsHandedInIsNeitherChangedNorKept(t *testing.T) {
	room := slices.Concat(filled('x'), []byte("behind"))
	d := made(t, 2)
	writes(t, d, 0, room[:64])
	writes(t, d, 1, room[:64])
	clear(room[:64])
	reads(t, d, 0, filled('x'))
	d.Crash(3, 1)
	reads(t, d, 0, filled('x'))
	reads(t, d, 1, halves('x', 0))
	if string(room[64:]) != "behind" || !bytes.Equal(room[:64], filled(0)) {
		t.Errorf("%q", room)
	}
	// A list too short is refused, whatever lies behind its length.
	if err := d.Write(0, filled('y')[:63]); err != api.ErrLarge {
		t.Error(err)
	}
}

func TestAnswersAreNewMemory(t *testing.T) {
	d := made(t, 2)
	writes(t, d, 0, filled(5))
	spoil := func() {
		for i := range 2 {
			b, err := d.Read(i)
			if err != nil {
				t.Fatal(err)
			}
			for k := range b[:cap(b)] {
				b[:cap(b)][k] = 9
			}
		}
	}
	for range 2 {
		spoil()
		reads(t, d, 0, filled(5))
		reads(t, d, 1, filled(0))
		flushes(t, d)
	}
	a, _ := d.Read(0)
	writes(t, d, 0, filled(6))
	d.Crash(1, 0)
	d.Lose()
	if !bytes.Equal(a, filled(5)) {
		t.Errorf("an answer changed with its disk: %x", a)
	}
}

// step does one call of any kind at a disk and at its model, and asks that both answer the same.
func step(t *testing.T, r *rand.Rand, d *Disk, m *model) {
	t.Helper()
	switch k := r.Intn(100); {
	case k < 60:
		b := anySector(r)
		if r.Intn(20) == 0 {
			b = make([]byte, r.Intn(130))
		}
		i := r.Intn(m.sectors+2) - 1
		if got, want := d.Write(i, b), m.write(i, b); got != want {
			t.Fatalf("Write(%d) of %d bytes: %v, want %v", i, len(b), got, want)
		}
	case k < 85:
		agreeAt(t, d, m, r.Intn(m.sectors+2)-1)
	case k < 91:
		if got, want := d.Flush(), m.flush(); got != want {
			t.Fatalf("Flush: %v, want %v", got, want)
		}
	case k < 99:
		keep, torn := r.Uint64(), r.Intn(len(m.cache)+3)-1
		d.Crash(keep, torn)
		m.crash(keep, torn)
	case r.Intn(8) == 0:
		d.Lose()
		m.lose()
	}
	counts(t, d, m.sectors, len(m.cache), m.writes, m.lost)
}

func TestManyOrdersOfCallsAgainstAModel(t *testing.T) {
	r := rand.New(rand.NewSource(54))
	for range 300 {
		sectors := 1 + r.Intn(1+r.Intn(12))
		d, m := made(t, sectors), modelOf(sectors)
		for range 200 {
			step(t, r, d, m)
		}
		agree(t, d, m)
	}
}

func TestLongCachesAgainstAModel(t *testing.T) {
	r := rand.New(rand.NewSource(55))
	for range 150 {
		sectors := 1 + r.Intn(30)
		d, m := made(t, sectors), modelOf(sectors)
		for range 4 {
			for range r.Intn(260) {
				i, b := r.Intn(sectors), anySector(r)
				if d.Write(i, b) != nil || m.write(i, b) != nil {
					t.Fatal("a write is refused")
				}
			}
			agree(t, d, m)
			keep, torn := r.Uint64()&r.Uint64(), r.Intn(len(m.cache)+1)
			d.Crash(keep, torn)
			m.crash(keep, torn)
			agree(t, d, m)
		}
	}
}

// P5.2: what was written ahead of a Flush is there behind every crash, but where a later write of the same sector was kept (whole or torn).

func TestWhatWasFlushedOutlivesEveryCrash(t *testing.T) {
	const sectors, later = 3, 5
	r := rand.New(rand.NewSource(56))
	for range 20 {
		places := make([]int, later)
		for n := range places {
			places[n] = r.Intn(sectors)
		}
		for keep := range uint64(1 << later) {
			for torn := -1; torn <= later; torn++ {
				outlives(t, places, keep, torn)
			}
		}
	}
}

// outlives writes three sectors, flushes, writes them again at places, and asks what is there behind a crash: each half is by the last kept write that reaches it, or as it was flushed.
func outlives(t *testing.T, places []int, keep uint64, torn int) {
	t.Helper()
	d := made(t, 3)
	first, second := []byte("xyz"), []byte("xyz")
	for i := range 3 {
		writes(t, d, i, filled("xyz"[i]))
	}
	flushes(t, d)
	for n, i := range places {
		writes(t, d, i, filled(byte('0'+n)))
		if keep>>n&1 == 1 {
			first[i] = byte('0' + n)
			if n != torn {
				second[i] = byte('0' + n)
			}
		}
	}
	d.Crash(keep, torn)
	for i := range 3 {
		reads(t, d, i, halves(first[i], second[i]))
	}
}

func TestWhatWasFlushedOutlivesManyCrashes(t *testing.T) {
	r := rand.New(rand.NewSource(57))
	d := made(t, 4)
	for range 200 {
		b := anySector(r)
		writes(t, d, 1, anySector(r))
		writes(t, d, 1, b)
		flushes(t, d)
		for range 5 {
			for range r.Intn(4) {
				writes(t, d, 1, anySector(r))
			}
			d.Crash(0, r.Intn(5)-1)
			reads(t, d, 1, b)
		}
	}
}

func TestWhatACrashKeptIsSafe(t *testing.T) {
	d := made(t, 2)
	writes(t, d, 0, filled(1))
	writes(t, d, 1, filled(2))
	d.Crash(3, 1)
	for range 3 {
		writes(t, d, 0, filled(3))
		writes(t, d, 1, filled(4))
		d.Crash(0, 0)
		reads(t, d, 0, filled(1))
		reads(t, d, 1, halves(2, 0))
	}
}

// P5.3: a sector that isn't written again is never changed.

func TestASectorThatIsNotWrittenAgainStays(t *testing.T) {
	r := rand.New(rand.NewSource(58))
	for range 100 {
		sectors := 2 + r.Intn(8)
		d, still, b := made(t, sectors), r.Intn(sectors), anySector(r)
		writes(t, d, still, b)
		flushes(t, d)
		for range 100 {
			i := r.Intn(sectors)
			switch {
			case r.Intn(10) == 0:
				flushes(t, d)
			case r.Intn(10) == 0:
				d.Crash(r.Uint64(), r.Intn(d.Waiting()+2)-1)
			case i == still:
				d.Write(still, anySector(r)[:r.Intn(64)])
			default:
				writes(t, d, i, anySector(r))
			}
			reads(t, d, still, b)
		}
	}
}

func TestASectorThatIsNeverWrittenStaysEmpty(t *testing.T) {
	r := rand.New(rand.NewSource(59))
	d := made(t, 9)
	for range 500 {
		i := r.Intn(9)
		if i == 4 {
			d.Crash(r.Uint64(), r.Intn(d.Waiting()+2)-1)
		} else {
			writes(t, d, i, anySector(r))
		}
		reads(t, d, 4, filled(0))
	}
}

func TestAWriteInTheCacheStaysTillACrash(t *testing.T) {
	r := rand.New(rand.NewSource(60))
	d, b := made(t, 5), anySector(r)
	writes(t, d, 2, b)
	for range 300 {
		writes(t, d, []int{0, 1, 3, 4}[r.Intn(4)], anySector(r))
		reads(t, d, 2, b)
	}
	d.Crash(1, 300)
	reads(t, d, 2, b)
}
