package round

import (
	"bytes"
	"math/rand"
	"testing"

	"almoner/api"
	"almoner/disk"
	"almoner/voter"
)

// Voters on disks for the tests of agreement, with crashes in the middle of a call.

func newDisk(t *testing.T, sectors int) *disk.Disk {
	t.Helper()
	d, err := disk.New(sectors)
	if err != nil {
		t.Fatal(err)
	}
	return d
}

// image is all sectors of a disk, as they are read.
func image(d *disk.Disk) [][]byte {
	list := make([][]byte, d.Sectors())
	for i := range list {
		list[i], _ = d.Read(i)
	}
	return list
}

// laid is a new disk that holds an image, safe.
func laid(t *testing.T, held [][]byte) *disk.Disk {
	t.Helper()
	d := newDisk(t, len(held))
	for i, b := range held {
		if err := d.Write(i, b); err != nil {
			t.Fatal(err)
		}
	}
	if err := d.Flush(); err != nil {
		t.Fatal(err)
	}
	return d
}

// changed is where images differ, rising: a call writes its sectors in that order.
func changed(from, to [][]byte) []int {
	var places []int
	for i := range from {
		if !bytes.Equal(from[i], to[i]) {
			places = append(places, i)
		}
	}
	return places
}

// cutDisk is a disk on which a call was cut by a crash: behind some of its writes, of which some are kept, and one may be torn.
func cutDisk(t *testing.T, random *rand.Rand, from, to [][]byte) *disk.Disk {
	t.Helper()
	places := changed(from, to)
	count := random.Intn(len(places) + 1)
	keep, torn := uint64(1)<<count-1, -1
	if random.Intn(2) == 0 {
		torn = count - 1
	}
	// The writes of a checkpoint are safe ahead of those of the record behind it: then a beginning of all of them is kept.
	if !beginsAnArea(len(from), places) {
		keep, torn = keep&random.Uint64(), random.Intn(count+1)
	}
	d := laid(t, from)
	for _, i := range places[:count] {
		if err := d.Write(i, to[i]); err != nil {
			t.Fatal(err)
		}
	}
	d.Crash(keep, torn)
	return d
}

// beginsAnArea tells whether the first sector of one of a log's areas was written.
func beginsAnArea(sectors int, places []int) bool {
	return len(places) > 0 && (places[0] == 0 || places[0] == (sectors-2)/2)
}

// member is a voter on its disk.
type member struct {
	t      *testing.T
	random *rand.Rand
	d      *disk.Disk
	v      *voter.Voter
	number int
	cuts   float64
	came   map[string]int
}

func newMember(t *testing.T, random *rand.Rand, sectors, number int, came map[string]int) *member {
	t.Helper()
	m := &member{t: t, random: random, d: newDisk(t, sectors), number: number, came: came}
	var err error
	if m.v, err = voter.Format(m.d, number); err != nil {
		t.Fatal(err)
	}
	return m
}

// does makes a call of the voter; false, if it was cut by a crash, and so nothing was answered.
func (m *member) does(call func() error) bool {
	m.t.Helper()
	if m.random.Float64() >= m.cuts {
		err := call()
		if err != nil {
			m.came["refused "+err.Error()]++
		}
		return err == nil
	}
	from := image(m.d)
	err := call()
	to := image(m.d)
	m.d = cutDisk(m.t, m.random, from, to)
	m.open()
	m.notesCut(from, to, err)
	return false
}

// notesCut counts what is left of a call that was cut.
func (m *member) notesCut(from, to [][]byte, err error) {
	places := changed(from, to)
	if err != nil || len(places) == 0 {
		return
	}
	m.came["cut"]++
	if beginsAnArea(len(from), places) {
		m.came["cut in a checkpoint"]++
	}
	// The cells tell epochs alone.
	log := len(from) - 2
	switch now := image(m.d); {
	case len(changed(now[:log], to[:log])) == 0:
		m.came["cut behind it all"]++
	case len(changed(now[:log], from[:log])) == 0:
		m.came["cut ahead of it all"]++
	default:
		m.came["cut in the middle"]++
	}
}

// crash stops the voter between its calls, and opens it anew.
func (m *member) crash() {
	m.t.Helper()
	m.d.Crash(m.random.Uint64(), m.random.Intn(3)-1)
	m.open()
}

// open opens the voter anew; the opening too may be cut.
func (m *member) open() {
	m.t.Helper()
	var err error
	for {
		from := image(m.d)
		if m.v, err = voter.Open(m.d, m.number); err != nil {
			m.t.Fatalf("voter %d: %v", m.number, err)
		}
		if m.random.Float64() >= m.cuts {
			return
		}
		m.d = cutDisk(m.t, m.random, from, image(m.d))
	}
}

// The disks of cuts are those that a crash may leave.
func TestCutDisks(t *testing.T) {
	random := rand.New(rand.NewSource(194))
	came := map[string]int{}
	for range 300 {
		m := newMember(t, random, 40, 1, came)
		m.cuts = 0.5
		var promised, accepted api.Ballot
		for i := range 20 {
			b := ballot(i+1, random.Intn(7))
			if m.does(func() error { _, _, err := m.v.Prepare(b); return err }) {
				promised = b
			}
			if m.does(func() error { return m.v.Accept(b, row(random.Intn(4))) }) {
				accepted = b
			}
			got, _ := m.v.Accepted()
			if higher(promised, m.v.Promised()) || higher(accepted, got) || higher(got, m.v.Promised()) {
				t.Fatalf("promised %v, accepted %v; told %v, %v", promised, accepted, m.v.Promised(), got)
			}
		}
	}
	asked(t, came, 100, "cut", "cut in a checkpoint", "cut behind it all", "cut ahead of it all", "cut in the middle")
}
