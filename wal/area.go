package wal

import (
	"almoner/api"
	"almoner/crc"
	"almoner/disk"
	"almoner/wire"
)

const cells = 2 // sectors behind the areas that tell the claimed epochs

// area is one of a disk's two areas, with its records.
type area struct {
	from, end int
	records   []record // none: the area isn't valid
	next      int      // the sector behind the last record
}

// emptyArea is an area without records.
func emptyArea(from, size int) area { return area{from: from, end: from + size, next: from} }

// other is the other area of the same disk, without records.
func (a area) other() area {
	size := a.end - a.from
	if a.from == 0 {
		return emptyArea(size, size)
	}
	return emptyArea(0, size)
}

// last is the last record; of an area without records one whose numbers are 0, as the first Gen and Epoch are counted from.
func (a area) last() record {
	if len(a.records) == 0 {
		return record{}
	}
	return a.records[len(a.records)-1]
}

// read is the area with the records that stand in it.
func (a area) read(d *disk.Disk) area {
	for {
		found, size, ok := standing(d, a.next, a.end)
		if !ok || !a.continues(found) {
			return a
		}
		a.records = append(a.records, found)
		a.next += size
	}
}

// continues tells whether a record that stands behind the last one is one of the area's.
func (a area) continues(r record) bool {
	if len(a.records) == 0 {
		return r.index == 0 && r.gen >= 1
	}
	last := a.last()
	// What a crash left of an older opening may still stand behind a newer record: its Epoch is below, and so it is out.
	return r.gen == last.gen && r.index == last.index+1 && r.epoch >= last.epoch
}

// with is the area with a record more, and that one's frame, yet to be written; ErrFull if it has no room, or the record's Gen is too great.
func (a area) with(r record) (area, []byte, error) {
	frame, err := r.frame()
	if err != nil {
		return area{}, nil, err
	}
	next := a.next + piecesOf(len(frame))
	if next > a.end || r.gen > api.MaxTime {
		return area{}, nil, api.ErrFull
	}
	a.records = append(a.records, r)
	a.next = next
	return a, frame, nil
}

// anew is the other area with a snapshot that begins the log anew, and its frame, yet to be written.
func (a area) anew(epoch int, snapshot []byte) (area, []byte, error) {
	return a.other().with(record{gen: a.last().gen + 1, epoch: epoch, data: snapshot})
}

// newest is the newest area; the second one, without records, if none is valid, so that a log begins in the first one.
func newest(d *disk.Disk) area {
	size := (d.Sectors() - cells) / 2
	first, second := emptyArea(0, size).read(d), emptyArea(size, size).read(d)
	if len(first.records) > 0 && first.last().gen >= second.last().gen {
		return first
	}
	return second
}

// nextEpoch is the epoch that a claim takes; ErrFull if there is none.
func nextEpoch(d *disk.Disk, a area) (int, error) {
	n := d.Sectors()
	epoch := 1 + max(cell(d, n-2), cell(d, n-1), a.last().epoch)
	if epoch > api.MaxTime {
		return 0, api.ErrFull
	}
	return epoch, nil
}

// cell is the number of the cell at a sector; 0 if it isn't valid.
func cell(d *disk.Disk, place int) int {
	sector, err := d.Read(place)
	if err != nil {
		return 0
	}
	payload, _, err := crc.Read(sector)
	if err != nil {
		return 0
	}
	r := wire.NewReader(payload)
	n, err := r.Num(api.MaxTime)
	if err != nil || r.End() != nil {
		return 0
	}
	return n
}

// claim makes an epoch safe, in the cell that doesn't hold the one ahead of it: a crash never takes both.
func claim(d *disk.Disk, epoch int) error {
	w := wire.NewWriter()
	w.Num(epoch)
	payload, err := w.Done()
	if err != nil {
		return err
	}
	frame, err := crc.Frame(payload)
	if err != nil {
		return err
	}
	var sector [api.SectorSize]byte
	copy(sector[:], frame)
	if err := d.Write(d.Sectors()-cells+epoch%2, sector[:]); err != nil {
		return err
	}
	return d.Flush()
}
