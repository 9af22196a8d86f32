package wal

import (
	"bytes"
	"encoding/binary"
	"hash/crc32"
	"testing"

	"almoner/api"
	"almoner/disk"
)

// The model: the chapter's words, with the library's check and numbers in place of layers 3 and 4. It works on a disk of its own, to which the same is done.

// entry is a record.
type entry struct {
	gen, epoch, index int
	data              []byte
}

// numberOf is the number with which b begins, and what lies behind it.
func numberOf(b []byte) (int, []byte, bool) {
	v, size := binary.Uvarint(b)
	if size <= 0 || size != len(binary.AppendUvarint(nil, v)) || v > api.MaxTime {
		return 0, nil, false
	}
	return int(v), b[size:], true
}

func numbers(list ...int) []byte {
	var b []byte
	for _, n := range list {
		b = binary.AppendUvarint(b, uint64(n))
	}
	return b
}

// payloadOf is the payload of the frame with which b begins, and how many bytes the frame has.
func payloadOf(b []byte) ([]byte, int, bool) {
	if len(b) < 8 {
		return nil, 0, false
	}
	size := int(binary.LittleEndian.Uint32(b))
	if size > api.MaxRecord || len(b) < size+8 {
		return nil, 0, false
	}
	if crc32.ChecksumIEEE(b[:size+4]) != binary.LittleEndian.Uint32(b[size+4:]) {
		return nil, 0, false
	}
	return b[4 : size+4], size + 8, true
}

func frameOf(payload []byte) []byte {
	b := binary.LittleEndian.AppendUint32(nil, uint32(len(payload)))
	b = append(b, payload...)
	return binary.LittleEndian.AppendUint32(b, crc32.ChecksumIEEE(b))
}

func (e entry) payload() []byte {
	return append(numbers(e.gen, e.epoch, e.index, len(e.data)), e.data...)
}

// entryOf is the record of a payload.
func entryOf(b []byte) (entry, bool) {
	var list [4]int
	for i := range list {
		n, rest, ok := numberOf(b)
		if !ok {
			return entry{}, false
		}
		list[i], b = n, rest
	}
	return entry{list[0], list[1], list[2], b}, len(b) == list[3]
}

// sectorsOf is a frame as it lies: a sector for each of its pieces.
func sectorsOf(frame []byte) [][]byte {
	var list [][]byte
	for len(frame) > 0 {
		s := make([]byte, 64)
		if len(list) == 0 {
			s[0] = 1
		}
		frame = frame[copy(s[1:], frame):]
		list = append(list, s)
	}
	return list
}

func cellOf(payload []byte) []byte {
	b := make([]byte, 64)
	copy(b, frameOf(payload))
	return b
}

// image is all sectors of a disk, as they are read.
func image(d *disk.Disk) [][]byte {
	list := make([][]byte, d.Sectors())
	for i := range list {
		list[i], _ = d.Read(i)
	}
	return list
}

// sizeOf is how many sectors an area of a disk of n has.
func sizeOf(n int) int { return (n - 2) / 2 }

// lying is the records of an area, and the first sector behind them, counted in the area.
func lying(sectors [][]byte) ([]entry, int) {
	var list []entry
	at := 0
	for at < len(sectors) && sectors[at][0] == 1 {
		stream := bytes.Clone(sectors[at][1:])
		for _, s := range sectors[at+1:] {
			if s[0] != 0 {
				break
			}
			stream = append(stream, s[1:]...)
		}
		payload, _, ok := payloadOf(stream)
		if !ok {
			break
		}
		e, ok := entryOf(payload)
		if !ok || e.index != len(list) || e.gen == 0 {
			break
		}
		if len(list) > 0 && (e.gen != list[0].gen || e.epoch < list[len(list)-1].epoch) {
			break
		}
		list = append(list, e)
		at += len(sectorsOf(frameOf(payload)))
	}
	return list, at
}

// newestOf is the number of the newest area, its records, and the first sector behind them; -1 if no area is valid.
func newestOf(d *disk.Disk) (int, []entry, int) {
	all, h := image(d), sizeOf(d.Sectors())
	first, firstEnd := lying(all[:h])
	second, secondEnd := lying(all[h : 2*h])
	switch {
	case len(first) == 0 && len(second) == 0:
		return -1, nil, 0
	case len(first) == 0 || len(second) > 0 && second[0].gen > first[0].gen:
		return 1, second, secondEnd
	}
	return 0, first, firstEnd
}

// claimable is the epoch that is claimed next, above MaxTime if none is.
func claimable(d *disk.Disk, list []entry) int {
	most := 0
	if len(list) > 0 {
		most = list[len(list)-1].epoch
	}
	all := image(d)
	for _, s := range all[len(all)-2:] {
		payload, _, ok := payloadOf(s)
		if !ok {
			continue
		}
		if n, rest, ok := numberOf(payload); ok && len(rest) == 0 {
			most = max(most, n)
		}
	}
	return most + 1
}

func claimIn(d *disk.Disk, epoch int) {
	place := d.Sectors() - 1
	if epoch%2 == 0 {
		place = d.Sectors() - 2
	}
	d.Write(place, cellOf(numbers(epoch)))
	d.Flush()
}

// logModel is a log by the chapter's words.
type logModel struct {
	d                *disk.Disk
	area, gen, epoch int
	data             [][]byte
	next             int // counted in the area
}

// fits is the sectors of a record, and whether it may be written at a sector of an area.
func (m *logModel) fits(at int, e entry) ([][]byte, bool) {
	list := sectorsOf(frameOf(e.payload()))
	return list, at+len(list) <= sizeOf(m.d.Sectors()) && e.gen <= api.MaxTime
}

func (m *logModel) put(area, at int, list [][]byte) {
	for i, s := range list {
		m.d.Write(area*sizeOf(m.d.Sectors())+at+i, s)
	}
}

func modelFormat(d *disk.Disk, snapshot []byte) (*logModel, error) {
	switch {
	case d.Sectors() < 4:
		return nil, api.ErrNumber
	case d.Lost():
		return nil, api.ErrLost
	case len(snapshot) > 32000:
		return nil, api.ErrLarge
	}
	area, list, _ := newestOf(d)
	gen := 1
	if len(list) > 0 {
		gen = list[0].gen + 1
	}
	m := &logModel{d: d, area: 0, gen: gen, epoch: claimable(d, list), data: [][]byte{snapshot}}
	if area == 0 {
		m.area = 1
	}
	sectors, ok := m.fits(0, entry{m.gen, m.epoch, 0, snapshot})
	if !ok || m.epoch > api.MaxTime {
		return nil, api.ErrFull
	}
	claimIn(d, m.epoch)
	m.put(m.area, 0, sectors)
	d.Flush()
	m.next = len(sectors)
	return m, nil
}

func modelOpen(d *disk.Disk) (*logModel, error) {
	if d.Sectors() < 4 {
		return nil, api.ErrNumber
	}
	if d.Lost() {
		return nil, api.ErrLost
	}
	area, list, end := newestOf(d)
	if area < 0 {
		return nil, api.ErrGone
	}
	m := &logModel{d: d, area: area, gen: list[0].gen, epoch: claimable(d, list), next: end}
	for _, e := range list {
		m.data = append(m.data, e.data)
	}
	if m.epoch > api.MaxTime {
		return nil, api.ErrFull
	}
	claimIn(d, m.epoch)
	return m, nil
}

func (m *logModel) append(b []byte) error {
	if m.d.Lost() {
		return api.ErrLost
	}
	if len(b) > 32000 {
		return api.ErrLarge
	}
	sectors, ok := m.fits(m.next, entry{m.gen, m.epoch, len(m.data), b})
	if !ok {
		return api.ErrFull
	}
	m.put(m.area, m.next, sectors)
	m.data = append(m.data, b)
	m.next += len(sectors)
	return nil
}

func (m *logModel) checkpoint(b []byte) error {
	if m.d.Lost() {
		return api.ErrLost
	}
	if len(b) > 32000 {
		return api.ErrLarge
	}
	sectors, ok := m.fits(0, entry{m.gen + 1, m.epoch, 0, b})
	if !ok {
		return api.ErrFull
	}
	m.put(1-m.area, 0, sectors)
	m.d.Flush()
	m.area, m.gen, m.data, m.next = 1-m.area, m.gen+1, [][]byte{b}, len(sectors)
	return nil
}

// alike asks that two disks hold the same, and have done as much.
func alike(t *testing.T, d, m *disk.Disk) {
	t.Helper()
	if d.Waiting() != m.Waiting() || d.Writes() != m.Writes() || d.Lost() != m.Lost() {
		t.Fatalf("Waiting %d, Writes %d, Lost %v; want %d, %d, %v", d.Waiting(), d.Writes(), d.Lost(), m.Waiting(), m.Writes(), m.Lost())
	}
	got, want := image(d), image(m)
	for i := range got {
		if !bytes.Equal(got[i], want[i]) {
			t.Fatalf("sector %d: %x; want %x", i, got[i], want[i])
		}
	}
}

// tells asks what a log's calls without arguments answer.
func tells(t *testing.T, l *Log, m *logModel) {
	t.Helper()
	left := 63 * (sizeOf(m.d.Sectors()) - m.next)
	if l.Gen() != m.gen || l.Epoch() != m.epoch || l.Left() != left {
		t.Fatalf("Gen %d, Epoch %d, Left %d; want %d, %d, %d", l.Gen(), l.Epoch(), l.Left(), m.gen, m.epoch, left)
	}
	at := 0
	for i, b := range l.Records() {
		if i != at || at >= len(m.data) || !bytes.Equal(b, m.data[at]) {
			t.Fatalf("record %d at place %d of %d: %d bytes", i, at, len(m.data), len(b))
		}
		at++
	}
	if at != len(m.data) {
		t.Fatalf("%d records; want %d", at, len(m.data))
	}
}
