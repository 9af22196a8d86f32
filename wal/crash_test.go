package wal

import (
	"bytes"
	"fmt"
	"math"
	"math/rand"
	"slices"
	"strings"
	"testing"

	"almoner/api"
	"almoner/disk"
)

// scene is a log with records that aren't safe yet, made the same each time.
type scene struct {
	name    string
	sectors int
	begin   func(t *testing.T, d *disk.Disk) *Log
	safe    []string // what is there behind every crash, the snapshot first
	waiting []string // what was appended since
}

// long is data that takes so many sectors behind small numbers.
func long(name string, pieces int) string {
	return name + strings.Repeat(name, 63*pieces)[:63*pieces-20-len(name)]
}

func scenes() []scene {
	return []scene{
		{"a new disk", 24, func(t *testing.T, d *disk.Disk) *Log {
			l := formatted(t, d, "s")
			appended(t, l, "a", long("b", 2))
			synced(t, l)
			return l
		}, []string{"s", "a", long("b", 2)}, []string{"c", long("d", 2), "e", "f"}},
		{"nothing synced", 24, func(t *testing.T, d *disk.Disk) *Log {
			return formatted(t, d, long("s", 2))
		}, []string{long("s", 2)}, []string{long("a", 3), "b", long("c", 2)}},
		{"older records of both areas below", 24, func(t *testing.T, d *disk.Disk) *Log {
			l := formatted(t, d, "s")
			for _, name := range []string{"t", "u", "v"} {
				appended(t, l, long(name, 1), long(name, 2), name, long(name, 1), name)
				l.Checkpoint([]byte(name))
			}
			appended(t, l, "w")
			synced(t, l)
			return l
		}, []string{"v", "w"}, []string{long("x", 2), "y", long("z", 2)}},
		{"what an opening left out below", 24, func(t *testing.T, d *disk.Disk) *Log {
			l := formatted(t, d, "s")
			appended(t, l, "a", "lost", "kept 1", long("kept 2", 2), "kept 3")
			d.Crash(math.MaxUint64-2, -1)
			l = opens(t, d, "s", "a")
			return l
		}, []string{"s", "a"}, []string{"new", "b", long("c", 2)}},
		{"the smallest areas that have a record behind", 6, func(t *testing.T, d *disk.Disk) *Log {
			return formatted(t, d, "s")
		}, []string{"s"}, []string{"a"}},
		{"an odd number of sectors", 11, func(t *testing.T, d *disk.Disk) *Log {
			l := formatted(t, d, "s")
			l.Checkpoint([]byte("t"))
			return l
		}, []string{"t"}, []string{"a", long("b", 2)}},
	}
}

// played is a scene's log on a new disk, with what waits in the disk's cache.
func (s scene) played(t *testing.T) (*disk.Disk, *Log) {
	t.Helper()
	d := made(t, s.sectors)
	l := s.begin(t, d)
	if d.Waiting() != 0 {
		t.Fatalf("%s: Waiting %d", s.name, d.Waiting())
	}
	appended(t, l, s.waiting...)
	return d, l
}

// whole is how many records, from the first one on, stand on a disk as they do on another one.
func whole(d, model *disk.Disk) int {
	area, list, _ := newestOf(model)
	got, want := image(d), image(model)
	at := area * sizeOf(len(got))
	for i, e := range list {
		end := at + len(sectorsOf(frameOf(e.payload())))
		if !slices.EqualFunc(got[at:end], want[at:end], bytes.Equal) {
			return i
		}
		at = end
	}
	return len(list)
}

// P6.2: whatever a crash keeps and tears, Open gives the snapshot of the last Format or Checkpoint that ended, and a beginning of the data that was appended since, which has all that was synced.

func TestWhateverACrashKeepsAndTears(t *testing.T) {
	for _, s := range scenes() {
		full, _ := s.played(t)
		all := slices.Concat(s.safe, s.waiting)
		for keep := range uint64(1 << full.Waiting()) {
			for torn := -1; torn < full.Waiting(); torn++ {
				d, old := s.played(t)
				d.Crash(keep, torn)
				want := whole(d, full)
				if want < len(s.safe) {
					t.Fatalf("%s: only %d records are there", s.name, want)
				}
				l := opens(t, d, all[:want]...)
				if l.Epoch() != old.Epoch()+1 || l.Gen() != old.Gen() {
					t.Fatalf("%s: Epoch %d, Gen %d", s.name, l.Epoch(), l.Gen())
				}
			}
		}
	}
}

func TestASyncedRecordOutlivesCrashes(t *testing.T) {
	for _, s := range scenes() {
		d, l := s.played(t)
		synced(t, l)
		all := slices.Concat(s.safe, s.waiting)
		for range 3 {
			d.Crash(0, -1)
			l = opens(t, d, all...)
			l.Append([]byte("never synced"))
		}
	}
}

// cutCall is a call that a crash may cut.
type cutCall struct {
	name  string
	call  func(d *disk.Disk, l *Log) error
	fresh string // the snapshot that it begins the log anew with, if it does
}

func cutCalls() []cutCall {
	checkpoint := func(data string) cutCall {
		return cutCall{fmt.Sprint("Checkpoint of ", len(data)), func(d *disk.Disk, l *Log) error { return l.Checkpoint([]byte(data)) }, data}
	}
	format := func(data string) cutCall {
		return cutCall{fmt.Sprint("Format of ", len(data)), func(d *disk.Disk, l *Log) error { _, err := Format(d, []byte(data)); return err }, data}
	}
	open := cutCall{"Open", func(d *disk.Disk, l *Log) error { _, _, _, err := Open(d); return err }, ""}
	return []cutCall{checkpoint("!"), checkpoint(long("!", 1)), checkpoint(long("!", 3)), format("!"), format(long("!", 3)), open}
}

// writesOf is where the call wrote, from the disk's sectors behind it: groups of sectors, in order, each of which is flushed.
func writesOf(c cutCall, after *disk.Disk, epoch int, claimed bool) [][]int {
	var groups [][]int
	n := after.Sectors()
	if claimed {
		groups = append(groups, []int{n - 2 + epoch%2})
	}
	if c.fresh != "" {
		area, list, _ := newestOf(after)
		var places []int
		for i := range sectorsOf(frameOf(list[0].payload())) {
			places = append(places, area*sizeOf(n)+i)
		}
		groups = append(groups, places)
	}
	return groups
}

// cut is a scene's disk, with the call cut behind so many writes of its group, and a crash behind that.
func cut(t *testing.T, s scene, after [][]byte, groups [][]int, group, count int, keep uint64, torn int) *disk.Disk {
	t.Helper()
	d, _ := s.played(t)
	for _, places := range groups[:group] {
		for _, i := range places {
			d.Write(i, after[i])
		}
		d.Flush()
	}
	for _, i := range groups[group][:count] {
		d.Write(i, after[i])
	}
	d.Crash(keep, torn)
	return d
}

// crashes is what a crash may keep and tear of so many writes: all there is, if they are few.
func crashes(waiting int) (list []struct {
	keep uint64
	torn int
}) {
	for keep := range uint64(1 << waiting) {
		// What stands in the middle is much the same: the ends tell most.
		if waiting > 5 && keep > 20 && keep < 1<<waiting-20 && keep%7 != 0 {
			continue
		}
		for torn := -1; torn < waiting; torn++ {
			list = append(list, struct {
				keep uint64
				torn int
			}{keep, torn})
		}
	}
	return list
}

func TestACallThatIsCut(t *testing.T) {
	for _, s := range scenes() {
		for _, c := range cutCalls() {
			cutEverywhere(t, s, c)
		}
	}
}

func cutEverywhere(t *testing.T, s scene, c cutCall) {
	t.Helper()
	full, _ := s.played(t)
	after, l := s.played(t)
	if err := c.call(after, l); err != nil {
		// The smallest disk has no room for the longer ones.
		if err == api.ErrFull && s.sectors < 10 {
			return
		}
		t.Fatalf("%s, %s: %v", s.name, c.name, err)
	}
	claimed := !strings.HasPrefix(c.name, "Checkpoint")
	groups := writesOf(c, after, l.Epoch()+1, claimed)
	sectors := image(after)
	for group := range groups {
		for count := range len(groups[group]) + 1 {
			waiting := count
			if group == 0 {
				waiting += full.Waiting()
			}
			for _, crash := range crashes(waiting) {
				d := cut(t, s, sectors, groups, group, count, crash.keep, crash.torn)
				behindACut(t, s, c, d, after, full, l.Epoch())
			}
		}
	}
}

// behindACut asks what Open tells of a disk on which a call was cut: the log as it was, unless all of the new snapshot stands there; and that what is left out stays out.
func behindACut(t *testing.T, s scene, c cutCall, d, after, full *disk.Disk, epoch int) {
	t.Helper()
	want := slices.Concat(s.safe, s.waiting)[:whole(d, full)]
	if c.fresh != "" && whole(d, after) == 1 {
		want = []string{c.fresh}
	} else if len(want) < len(s.safe) {
		t.Fatalf("%s, %s: only %d records are there", s.name, c.name, len(want))
	}
	l := opens(t, d, want...)
	if l.Epoch() <= epoch {
		t.Fatalf("%s, %s: Epoch %d", s.name, c.name, l.Epoch())
	}
	if l.Append([]byte("on")) == nil {
		opens(t, d, slices.Concat(want, []string{"on"})...)
	}
	if err := l.Checkpoint([]byte("over")); err != nil {
		t.Fatal(err)
	}
	opens(t, d, "over")
}

func TestAnOpeningThatIsCutBehindItsClaim(t *testing.T) {
	for _, s := range scenes() {
		d, l := s.played(t)
		synced(t, l)
		epoch := l.Epoch()
		for range 5 {
			// The epoch is claimed, and nothing is done with it.
			again, _ := opened(t, d)
			d.Crash(0, -1)
			if again.Epoch() != epoch+1 || held(again)[0] != s.safe[0] {
				t.Fatalf("%s: Epoch %d; want %d", s.name, again.Epoch(), epoch+1)
			}
			epoch++
		}
		opens(t, d, slices.Concat(s.safe, s.waiting)...)
	}
}

func TestAClaimThatIsTornIsThere(t *testing.T) {
	// A cell's frame stands in the first half of its sector.
	for _, epoch := range []int{1, 2, 127, 128, 1 << 35, api.MaxTime - 1} {
		d := made(t, 8)
		formatted(t, d, "s")
		d.Write(6+epoch%2, cellOf(numbers(epoch)))
		d.Crash(1, 0)
		if l := opens(t, d, "s"); l.Epoch() != max(epoch, 1)+1 {
			t.Errorf("Epoch %d behind %d", l.Epoch(), epoch)
		}
	}
}

// P6.3: what Open left out never comes back.

func TestWhatOpenLeftOutNeverComesBack(t *testing.T) {
	// Each crash keeps any of the records of its opening, which take as many sectors, or more, or fewer.
	rows := [][]string{
		{"a", "b", "c", "d"},
		{"A", "B", "C"},
		{long("a", 2), "b", "c"},
		{"A", long("B", 2)},
		{"1", "2", "3", "4"},
	}
	for _, first := range rows {
		for _, second := range rows {
			for keep := range uint64(1 << 4) {
				for again := range uint64(1 << 4) {
					leftOut(t, first, second, keep, again)
				}
			}
		}
	}
}

func leftOut(t *testing.T, first, second []string, keep, again uint64) {
	t.Helper()
	d := made(t, 20)
	appended(t, formatted(t, d, "s"), first...)
	d.Crash(keep, -1)
	l, there := opened(t, d)
	renamed := make([]string, len(second))
	for i, s := range second {
		renamed[i] = "-" + s
	}
	appended(t, l, renamed...)
	all := slices.Concat(there, renamed)
	opens(t, d, all...)
	// An opening makes all safe: the same once more, on a disk that crashes first.
	d = made(t, 20)
	appended(t, formatted(t, d, "s"), first...)
	d.Crash(keep, -1)
	l, _ = opened(t, d)
	appended(t, l, renamed...)
	d.Crash(again, -1)
	_, list := opened(t, d)
	if len(list) < len(there) || !slices.Equal(list, all[:len(list)]) {
		t.Fatalf("%q, kept %04b, then %q, kept %04b: %q", first, keep, second, again, list)
	}
	if _, more := opened(t, d); !slices.Equal(more, list) {
		t.Fatalf("%q comes back as %q", list, more)
	}
}

// story is a log's life: what Open must tell, and what must not come back.
type story struct {
	d        *disk.Disk
	l        *Log
	serial   int
	snapshot string
	data     []string // appended since
	safe     int      // how many of them are synced
	out      map[string]int
}

// next is data that was never written.
func (s *story) next(r *rand.Rand) string {
	s.serial++
	return fmt.Sprintf("%06d", s.serial) + strings.Repeat("#", r.Intn(1+r.Intn(150)))
}

func (s *story) anew(data string) {
	s.snapshot, s.data, s.safe = data, nil, 0
}

// opened asks that Open tells what the story allows, and goes on with that.
func (s *story) opened(t *testing.T) {
	t.Helper()
	l, list := opened(t, s.d)
	for _, data := range list {
		if number, found := s.out[data]; found {
			t.Fatalf("%q, left out by Epoch %d, comes back", data, number)
		}
	}
	rest := list[1:]
	if list[0] != s.snapshot || len(rest) < s.safe || len(rest) > len(s.data) || !slices.Equal(rest, s.data[:len(rest)]) {
		t.Fatalf("%q; want %q and, of %q, %d", list, s.snapshot, s.data, s.safe)
	}
	for _, data := range s.data[len(rest):] {
		s.out[data] = l.Epoch()
	}
	s.l, s.data, s.safe = l, s.data[:len(rest)], len(rest)
}

func (s *story) step(t *testing.T, r *rand.Rand) {
	t.Helper()
	data := s.next(r)
	switch k := r.Intn(20); {
	case k < 11:
		if s.l.Append([]byte(data)) == nil {
			s.data = append(s.data, data)
		}
	case k < 13:
		synced(t, s.l)
		s.safe = len(s.data)
	case k < 14:
		if s.l.Checkpoint([]byte(data)) == nil {
			s.anew(data)
		}
	case k < 15:
		if l, err := Format(s.d, []byte(data)); err == nil {
			s.l = l
			s.anew(data)
		}
	case k < 19:
		s.d.Crash(r.Uint64()|r.Uint64(), r.Intn(s.d.Waiting()+2)-1)
		s.opened(t)
	default:
		s.safe = len(s.data)
		s.opened(t)
	}
}

func TestLongStories(t *testing.T) {
	r := rand.New(rand.NewSource(64))
	for range 300 {
		s := &story{d: made(t, 10+r.Intn(60)), out: map[string]int{}}
		s.l = formatted(t, s.d, "first")
		s.anew("first")
		for range 150 {
			s.step(t, r)
		}
	}
}
