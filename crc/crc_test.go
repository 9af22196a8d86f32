package crc

import (
	"bytes"
	"encoding/binary"
	"hash/crc32"
	"math"
	"math/rand"
	"slices"
	"testing"

	"almoner/api"
)

func anyBytes(r *rand.Rand, size int) []byte {
	b := make([]byte, size)
	r.Read(b)
	return b
}

// form is the frame of a payload by the library, which has the same check.
func form(payload []byte) []byte {
	b := binary.LittleEndian.AppendUint32(nil, uint32(len(payload)))
	b = append(b, payload...)
	return binary.LittleEndian.AppendUint32(b, crc32.ChecksumIEEE(b))
}

// forms is the stream of the frames of payloads.
func forms(payloads [][]byte) []byte {
	var stream []byte
	for _, p := range payloads {
		stream = append(stream, form(p)...)
	}
	return stream
}

// framed is Frame of a payload that is not too large.
func framed(t *testing.T, payload []byte) []byte {
	t.Helper()
	f, err := Frame(payload)
	if err != nil {
		t.Fatalf("Frame of %d bytes: %v", len(payload), err)
	}
	return f
}

// same asks that two lists have the same payloads in the same order.
func same(a, b [][]byte) bool { return slices.EqualFunc(a, b, bytes.Equal) }

// reads asks what Read answers of a stream.
func reads(t *testing.T, stream, payload []byte, size int, want error) {
	t.Helper()
	p, n, err := Read(stream)
	if !bytes.Equal(p, payload) || n != size || err != want {
		t.Fatalf("Read of %d bytes (%.8x): %d bytes, %d, %v; want %d bytes, %d, %v", len(stream), stream, len(p), n, err, len(payload), size, want)
	}
	if size == 0 && p != nil {
		t.Fatalf("Read of %d bytes: a payload where there is none", len(stream))
	}
}

// splits asks what Split answers of a stream.
func splits(t *testing.T, stream []byte, payloads [][]byte, size int, want error) {
	t.Helper()
	list, n, err := Split(stream)
	if !same(list, payloads) || n != size || err != want {
		t.Fatalf("Split of %d bytes: %d payloads, %d, %v; want %d, %d, %v", len(stream), len(list), n, err, len(payloads), size, want)
	}
}

// some are payloads of many sizes, the edges among them.
func some(r *rand.Rand) [][]byte {
	list := [][]byte{nil, {}, {0}, {255}, {0, 0, 0, 0}, []byte("123456789")}
	for _, size := range []int{3, 4, 5, 7, 8, 9, 255, 256, 257, 4096, api.MaxRecord - 1, api.MaxRecord} {
		list = append(list, anyBytes(r, size), make([]byte, size))
	}
	return list
}

// P4.1: every call answers what is told, at all arguments.

func TestSumOfKnownBytes(t *testing.T) {
	for _, c := range []struct {
		b    string
		want uint32
	}{
		{"", 0},
		{"a", 0xe8b7be43},
		{"123456789", 0xcbf43926},
		{"\x00", 0xd202ef8d},
		{"\x00\x00\x00\x00", 0x2144df1c},
		{"\xff\xff\xff\xff", 0xffffffff},
	} {
		if got := Sum([]byte(c.b)); got != c.want {
			t.Errorf("Sum(%q) = %08x, want %08x", c.b, got, c.want)
		}
	}
	if Sum(nil) != 0 {
		t.Error("Sum(nil)")
	}
}

func TestSumIsTheLibrarys(t *testing.T) {
	r := rand.New(rand.NewSource(41))
	list := some(r)
	for range 2000 {
		list = append(list, anyBytes(r, r.Intn(40)))
	}
	list = append(list, anyBytes(r, 3*api.MaxRecord))
	for c := range 256 {
		list = append(list, []byte{byte(c)})
	}
	for _, b := range list {
		if got, want := Sum(b), crc32.ChecksumIEEE(b); got != want {
			t.Fatalf("Sum of %d bytes = %08x, want %08x", len(b), got, want)
		}
	}
}

func TestUpdateAtAllWords(t *testing.T) {
	r := rand.New(rand.NewSource(42))
	words := []uint32{0, 1, 2, 0x80000000, taps, math.MaxUint32 - 1, math.MaxUint32}
	for range 500 {
		words = append(words, r.Uint32())
	}
	for _, w := range words {
		if Update(w, nil) != w || Update(w, []byte{}) != w {
			t.Fatalf("Update(%08x) with no bytes", w)
		}
		b := anyBytes(r, 1+r.Intn(20))
		// The library turns the word's bits ahead and behind.
		if got, want := Update(w, b), ^crc32.Update(^w, crc32.IEEETable, b); got != want {
			t.Fatalf("Update(%08x, %x) = %08x, want %08x", w, b, got, want)
		}
	}
}

func TestUpdatePieceByPieceIsTheSum(t *testing.T) {
	r := rand.New(rand.NewSource(43))
	for range 500 {
		b := anyBytes(r, r.Intn(60))
		cut := r.Intn(len(b) + 1)
		if got := ^Update(Update(math.MaxUint32, b[:cut]), b[cut:]); got != Sum(b) {
			t.Fatalf("%x cut at %d: %08x, want %08x", b, cut, got, Sum(b))
		}
	}
}

func TestFrameOfKnownPayloads(t *testing.T) {
	for _, c := range []struct{ payload, want string }{
		{"", "\x00\x00\x00\x00\x1c\xdf\x44\x21"},
		{"ab", "\x02\x00\x00\x00ab\x3a\x5a\x50\x23"},
	} {
		if got := framed(t, []byte(c.payload)); string(got) != c.want {
			t.Errorf("Frame(%q) = %x, want %x", c.payload, got, c.want)
		}
	}
	if got := framed(t, nil); string(got) != "\x00\x00\x00\x00\x1c\xdf\x44\x21" {
		t.Errorf("Frame(nil) = %x", got)
	}
}

func TestFrameAtAllSizes(t *testing.T) {
	for _, p := range some(rand.New(rand.NewSource(44))) {
		if got := framed(t, p); !bytes.Equal(got, form(p)) {
			t.Errorf("Frame of %d bytes begins %.8x, want %.8x", len(p), got, form(p))
		}
	}
}

func TestFrameRefusesLargePayloads(t *testing.T) {
	for _, size := range []int{api.MaxRecord + 1, api.MaxRecord + 2, 2 * api.MaxRecord, 1 << 20} {
		if f, err := Frame(make([]byte, size)); f != nil || err != api.ErrLarge {
			t.Errorf("Frame of %d bytes: %d bytes, %v", size, len(f), err)
		}
	}
}

func TestReadOfStreamsThatAreNotWhole(t *testing.T) {
	reads(t, nil, nil, 0, nil)
	r := rand.New(rand.NewSource(45))
	for _, size := range []int{0, 1, 2, 3, 4, 5, 100} {
		f := form(anyBytes(r, size))
		for cut := range f {
			reads(t, f[:cut], nil, 0, nil)
		}
	}
	f := form(anyBytes(r, api.MaxRecord))
	for _, cut := range []int{3, 4, 5, len(f) / 2, len(f) - 5, len(f) - 4, len(f) - 1} {
		reads(t, f[:cut], nil, 0, nil)
	}
	// Fewer than four bytes are no number yet, and a wrong check isn't one until all of it is there.
	reads(t, []byte{255, 255, 255}, nil, 0, nil)
	reads(t, []byte{1, 0, 0, 0, 'x', 0, 0, 0}, nil, 0, nil)
}

func TestReadRefusesLargeNumbersAtOnce(t *testing.T) {
	r := rand.New(rand.NewSource(46))
	for _, n := range []uint32{
		api.MaxRecord + 1, api.MaxRecord + 2, 2 * api.MaxRecord, 1 << 16, 1 << 24, 1<<24 + 1,
		1 << 31, 1<<31 + 1, math.MaxInt32, math.MaxUint32 - 4, math.MaxUint32,
	} {
		b := binary.LittleEndian.AppendUint32(nil, n)
		reads(t, b, nil, 0, api.ErrLarge)
		reads(t, append(b, anyBytes(r, 100)...), nil, 0, api.ErrLarge)
	}
	reads(t, []byte{1, 128, 0, 0}, nil, 0, api.ErrLarge)
	reads(t, []byte{0, 128, 0, 0}, nil, 0, nil)
	// Of a frame that is whole, with a right check, the number is refused still.
	reads(t, form(make([]byte, api.MaxRecord+1)), nil, 0, api.ErrLarge)
}

func TestReadRefusesWrongChecks(t *testing.T) {
	reads(t, make([]byte, 8), nil, 0, api.ErrSum)
	reads(t, []byte("\x00\x00\x00\x00\x21\x44\xdf\x1c"), nil, 0, api.ErrSum)
	// The check is of the four bytes too, not of the payload alone.
	f := binary.LittleEndian.AppendUint32([]byte("\x02\x00\x00\x00ab"), crc32.ChecksumIEEE([]byte("ab")))
	reads(t, f, nil, 0, api.ErrSum)
	// What stands behind the frame doesn't mend it.
	reads(t, append(f, form([]byte("cd"))...), nil, 0, api.ErrSum)
}

func TestSplitOfWholeStreams(t *testing.T) {
	splits(t, nil, nil, 0, nil)
	splits(t, []byte{}, nil, 0, nil)
	all := some(rand.New(rand.NewSource(47)))
	for n := range all {
		stream := forms(all[:n])
		splits(t, stream, all[:n], len(stream), nil)
	}
	empty := make([][]byte, 50)
	splits(t, forms(empty), empty, 400, nil)
}

func TestSplitEndsAtTheFirstFrameThatIsNotWhole(t *testing.T) {
	payloads := [][]byte{[]byte("one"), nil, []byte("three"), {}, []byte("the fifth")}
	stream := forms(payloads)
	for cut := range len(stream) + 1 {
		whole, size := 0, 0
		for whole < len(payloads) && size+len(payloads[whole])+8 <= cut {
			size += len(payloads[whole]) + 8
			whole++
		}
		splits(t, stream[:cut], payloads[:whole], size, nil)
	}
}

func TestSplitWithAWrongFrameGivesNothing(t *testing.T) {
	large := []byte{1, 128, 0, 0}
	wrong := form([]byte("wrong"))
	wrong[6] ^= 4
	one, two := form([]byte("one")), form([]byte("two"))
	for _, c := range []struct {
		stream []byte
		want   error
	}{
		{large, api.ErrLarge},
		{wrong, api.ErrSum},
		{slices.Concat(one, large), api.ErrLarge},
		{slices.Concat(one, wrong), api.ErrSum},
		{slices.Concat(one, wrong, two), api.ErrSum},
		{slices.Concat(one, two, large), api.ErrLarge},
		{slices.Concat(one, wrong, large), api.ErrSum},
		{slices.Concat(one, large, wrong), api.ErrLarge},
	} {
		splits(t, c.stream, nil, 0, c.want)
		if list, _, _ := Split(c.stream); list != nil {
			t.Errorf("Split with %v: payloads", c.want)
		}
	}
	// As long as the wrong frame isn't whole nothing is wrong.
	splits(t, slices.Concat(one, wrong[:len(wrong)-1]), [][]byte{[]byte("one")}, len(one), nil)
	splits(t, slices.Concat(one, large[:3]), [][]byte{[]byte("one")}, len(one), nil)
}

func TestWhatIsHandedInStaysAsItWas(t *testing.T) {
	payload := []byte("payload")
	room := slices.Concat(payload, []byte("behind"))
	Sum(room[:7])
	Update(5, room[:7])
	framed(t, room[:7])
	if string(room) != "payloadbehind" {
		t.Errorf("%q", room)
	}
	stream := slices.Concat(form(payload), form(nil), []byte("room"))
	was := bytes.Clone(stream)
	reads(t, stream[:15], payload, 15, nil)
	splits(t, stream[:23], [][]byte{payload, nil}, 23, nil)
	if !bytes.Equal(stream, was) {
		t.Errorf("%x, was %x", stream, was)
	}
}

func TestWhatLiesBehindTheLengthIsNotRead(t *testing.T) {
	stream := slices.Concat(form([]byte("one")), form([]byte("two")))
	reads(t, stream[:10], nil, 0, nil)
	reads(t, stream[:3], nil, 0, nil)
	splits(t, stream[:11], [][]byte{[]byte("one")}, 11, nil)
	splits(t, stream[:21], [][]byte{[]byte("one")}, 11, nil)
}

func TestAnswersAreNewMemory(t *testing.T) {
	payload := []byte("payload")
	f := framed(t, payload)
	p, _, _ := Read(f)
	stream := forms([][]byte{payload, payload, payload})
	list, _, _ := Split(stream)
	clear(payload)
	clear(stream)
	if string(f) != string(form([]byte("payload"))) {
		t.Error("the frame changed with its payload")
	}
	clear(f)
	if string(p) != "payload" {
		t.Error("the payload changed with its frame")
	}
	for i := range list {
		if string(list[i]) != "payload" {
			t.Errorf("payload %d: %q", i, list[i])
		}
		clear(list[i][:cap(list[i])])
	}
	if a, b := framed(t, p), framed(t, p); &a[0] == &b[0] {
		t.Error("two frames in one place")
	}
}

// P4.2: Read of Frame, whatever stands behind, gives the payload; a frame with one bit turned behind its first four bytes is refused.

func TestReadOfFrameGivesThePayload(t *testing.T) {
	r := rand.New(rand.NewSource(48))
	list := some(r)
	for range 1000 {
		list = append(list, anyBytes(r, r.Intn(100)))
	}
	for _, p := range list {
		f := framed(t, p)
		reads(t, f, p, len(p)+8, nil)
		reads(t, append(bytes.Clone(f), anyBytes(r, 1+r.Intn(20))...), p, len(p)+8, nil)
		reads(t, append(bytes.Clone(f), 255, 255, 255, 255), p, len(p)+8, nil)
		reads(t, append(bytes.Clone(f), f...), p, len(p)+8, nil)
	}
}

func TestOneBitTurnedIsRefused(t *testing.T) {
	r := rand.New(rand.NewSource(49))
	for _, p := range [][]byte{nil, {0}, {255}, []byte("ab"), make([]byte, 64), anyBytes(r, 300)} {
		f := framed(t, p)
		for bit := 32; bit < 8*len(f); bit++ {
			f[bit/8] ^= 1 << (bit % 8)
			reads(t, f, nil, 0, api.ErrSum)
			reads(t, slices.Concat(f, form(p)), nil, 0, api.ErrSum)
			splits(t, slices.Concat(form(p), f), nil, 0, api.ErrSum)
			f[bit/8] ^= 1 << (bit % 8)
		}
		reads(t, f, p, len(f), nil)
	}
}

func TestOneBitTurnedOfTheLargestFrameIsRefused(t *testing.T) {
	r := rand.New(rand.NewSource(50))
	f := framed(t, anyBytes(r, api.MaxRecord))
	bits := []int{32, 39, 8*len(f) - 33, 8*len(f) - 32, 8*len(f) - 1}
	for range 50 {
		bits = append(bits, 32+r.Intn(8*len(f)-32))
	}
	for _, bit := range bits {
		f[bit/8] ^= 1 << (bit % 8)
		reads(t, f, nil, 0, api.ErrSum)
		f[bit/8] ^= 1 << (bit % 8)
	}
}

// P4.3: however a stream of frames is cut, Split of all pieces, one behind the other, gives the payloads.

// pieced is the payloads that Split gives of pieces that come one behind the other: what a Split left waits for the next piece.
func pieced(t *testing.T, pieces [][]byte) [][]byte {
	t.Helper()
	var list [][]byte
	var rest []byte
	for _, p := range pieces {
		rest = append(rest, p...)
		more, size, err := Split(rest)
		if err != nil {
			t.Fatal(err)
		}
		list = append(list, more...)
		rest = rest[size:]
	}
	if len(rest) > 0 {
		t.Fatalf("%d bytes are left", len(rest))
	}
	return list
}

// cutAt is a stream in pieces that end at rising places.
func cutAt(stream []byte, places ...int) [][]byte {
	var pieces [][]byte
	from := 0
	for _, at := range append(places, len(stream)) {
		pieces = append(pieces, stream[from:at])
		from = at
	}
	return pieces
}

func TestAStreamCutAnywhereInThree(t *testing.T) {
	payloads := [][]byte{[]byte("first"), nil, []byte("12345678"), {0}, nil, nil, []byte("the last")}
	stream := forms(payloads)
	for a := range len(stream) + 1 {
		for b := a; b <= len(stream); b++ {
			if got := pieced(t, cutAt(stream, a, b)); !same(got, payloads) {
				t.Fatalf("cut at %d and %d: %q", a, b, got)
			}
		}
	}
}

func TestAStreamByteByByte(t *testing.T) {
	r := rand.New(rand.NewSource(51))
	payloads := [][]byte{nil, anyBytes(r, 1), anyBytes(r, 70), nil, anyBytes(r, 257)}
	stream := forms(payloads)
	places := make([]int, len(stream))
	for i := range places {
		places[i] = i
	}
	if got := pieced(t, cutAt(stream, places...)); !same(got, payloads) {
		t.Fatalf("%d payloads", len(got))
	}
}

func TestAnyStreamsCutAnyhow(t *testing.T) {
	r := rand.New(rand.NewSource(52))
	for range 400 {
		var payloads [][]byte
		for range r.Intn(12) {
			payloads = append(payloads, anyBytes(r, r.Intn(1<<r.Intn(10))))
		}
		if r.Intn(40) == 0 {
			payloads = append(payloads, anyBytes(r, api.MaxRecord))
		}
		var stream []byte
		for _, p := range payloads {
			stream = append(stream, framed(t, p)...)
		}
		places := make([]int, r.Intn(20))
		for i := range places {
			places[i] = r.Intn(len(stream) + 1)
		}
		slices.Sort(places)
		if got := pieced(t, cutAt(stream, places...)); !same(got, payloads) {
			t.Fatalf("%d payloads, want %d", len(got), len(payloads))
		}
		splits(t, stream, payloads, len(stream), nil)
	}
}
