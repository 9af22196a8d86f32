package wal

import (
	"almoner/api"
	"almoner/crc"
	"almoner/disk"
	"almoner/wire"
)

const (
	firstMark = 1 // begins the sector of a record's first piece
	restMark  = 0 // begins the sectors of its other pieces
	pieceSize = api.SectorSize - 1
)

// record is what a record's frame tells.
type record struct {
	gen, epoch, index int
	data              []byte
}

// frame is the record's frame.
func (r record) frame() ([]byte, error) {
	w := wire.NewWriter()
	w.Num(r.gen)
	w.Num(r.epoch)
	w.Num(r.index)
	w.Bytes(r.data)
	payload, err := w.Done()
	if err != nil {
		return nil, err
	}
	return crc.Frame(payload)
}

// recordOf is the record whose payload it is; false if it isn't one's.
func recordOf(payload []byte) (record, bool) {
	var found record
	r := wire.NewReader(payload)
	for _, place := range []*int{&found.gen, &found.epoch, &found.index} {
		n, err := r.Num(api.MaxTime)
		if err != nil {
			return record{}, false
		}
		*place = n
	}
	// MaxData binds what is written alone: a record with more data is a record, as far as its frame holds it.
	data, err := r.Bytes(api.MaxRecord)
	if err != nil || r.End() != nil {
		return record{}, false
	}
	found.data = data
	return found, true
}

// piecesOf is how many sectors a frame of so many bytes takes.
func piecesOf(size int) int { return (size + pieceSize - 1) / pieceSize }

// standing is the record that stands at a sector of an area, and how many sectors it takes; false if there is none.
func standing(d *disk.Disk, place, end int) (record, int, bool) {
	payload, size, err := crc.Read(rests(d, place, end))
	if err != nil || size == 0 {
		return record{}, 0, false
	}
	found, ok := recordOf(payload)
	if !ok {
		return record{}, 0, false
	}
	return found, piecesOf(size), true
}

// rests is what a record that stands at a sector may be made of: the sectors behind their marks, till the area ends or a sector isn't of this record.
func rests(d *disk.Disk, place, end int) []byte {
	var all []byte
	mark := byte(firstMark)
	for ; place < end; place++ {
		sector, err := d.Read(place)
		if err != nil || sector[0] != mark {
			break
		}
		all = append(all, sector[1:]...)
		mark = restMark
	}
	return all
}

// write writes a frame's pieces at a sector and those behind it.
func write(d *disk.Disk, place int, frame []byte) error {
	mark := byte(firstMark)
	for from := 0; from < len(frame); from += pieceSize {
		sector := [api.SectorSize]byte{mark}
		copy(sector[1:], frame[from:])
		if err := d.Write(place, sector[:]); err != nil {
			return err
		}
		place++
		mark = restMark
	}
	return nil
}
