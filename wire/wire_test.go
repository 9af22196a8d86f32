package wire

import (
	"bytes"
	"encoding/binary"
	"hash/fnv"
	"math"
	"math/rand"
	"slices"
	"strings"
	"testing"

	"almoner/api"
)

const most = math.MaxInt

// edges are the numbers at which a form gets a byte more, and those beside them.
func edges() []int {
	list := []int{0, 1, 2, most - 1, most}
	for size := 1; size < maxNum; size++ {
		list = append(list, 1<<(7*size)-1, 1<<(7*size), 1<<(7*size)+1)
	}
	return list
}

// anyNum is a number of any size from 0 on.
func anyNum(r *rand.Rand) int { return int(r.Uint64()>>1) >> r.Intn(64) }

func anyBytes(r *rand.Rand, size int) []byte {
	b := make([]byte, size)
	r.Read(b)
	return b
}

// form is the form of a number by the library, which has the same groups.
func form(n int) []byte { return binary.AppendUvarint(nil, uint64(n)) }

// listForm is the form of a list of bytes.
func listForm(b []byte) []byte { return append(form(len(b)), b...) }

// plain is the number at the beginning of b, by the library: what was read must be written the same way again.
func plain(b []byte) (int, int, bool) {
	n, size := binary.Uvarint(b)
	if size <= 0 || n > math.MaxInt || !bytes.HasPrefix(b, form(int(n))) || len(form(int(n))) != size {
		return 0, 0, false
	}
	return int(n), size, true
}

// written is what a writer holds that was used so.
func written(t *testing.T, use func(w *Writer)) []byte {
	t.Helper()
	w := NewWriter()
	use(w)
	b, err := w.Done()
	if err != nil {
		t.Fatal(err)
	}
	return b
}

// stands asks that a reader has that many bytes left, and that End says so.
func stands(t *testing.T, r *Reader, left int) {
	t.Helper()
	var want error
	if left > 0 {
		want = api.ErrBytes
	}
	if got := r.Left(); got != left {
		t.Fatalf("Left = %d, want %d", got, left)
	}
	if err := r.End(); err != want {
		t.Fatalf("End with %d left = %v", left, err)
	}
}

// P3.1: every call answers what is told, in every order of calls.

func TestNumIsWrittenInGroups(t *testing.T) {
	for _, c := range []struct {
		n    int
		want string
	}{
		{0, "\x00"},
		{1, "\x01"},
		{127, "\x7f"},
		{128, "\x80\x01"},
		{300, "\xac\x02"},
		{16383, "\xff\x7f"},
		{16384, "\x80\x80\x01"},
		{1<<56 - 1, "\xff\xff\xff\xff\xff\xff\xff\x7f"},
		{1 << 56, "\x80\x80\x80\x80\x80\x80\x80\x80\x01"},
		{1 << 62, "\x80\x80\x80\x80\x80\x80\x80\x80\x40"},
		{most, "\xff\xff\xff\xff\xff\xff\xff\xff\x7f"},
	} {
		if got := written(t, func(w *Writer) { w.Num(c.n) }); string(got) != c.want {
			t.Errorf("Num(%d) = %x, want %x", c.n, got, c.want)
		}
	}
}

func TestNumAtAllSizes(t *testing.T) {
	list := edges()
	r := rand.New(rand.NewSource(31))
	for range 20000 {
		list = append(list, anyNum(r))
	}
	for _, n := range list {
		if got := written(t, func(w *Writer) { w.Num(n) }); !bytes.Equal(got, form(n)) {
			t.Fatalf("Num(%d) = %x, want %x", n, got, form(n))
		}
	}
}

func TestTextsAndListsAreWrittenBehindTheirSizes(t *testing.T) {
	for _, s := range []string{
		"", "a", "ab", "\x00", "\x80\x00", "ä€\U0001f600", "\xff\xfe not of runes \xc3",
		strings.Repeat("x", 127), strings.Repeat("y", 128), strings.Repeat("z", 20000),
	} {
		want := listForm([]byte(s))
		if got := written(t, func(w *Writer) { w.Text(s) }); !bytes.Equal(got, want) {
			t.Errorf("Text of %d bytes begins %.8x, want %.8x", len(s), got, want)
		}
		if got := written(t, func(w *Writer) { w.Bytes([]byte(s)) }); !bytes.Equal(got, want) {
			t.Errorf("Bytes of %d bytes begins %.8x, want %.8x", len(s), got, want)
		}
	}
	if got := written(t, func(w *Writer) { w.Bytes(nil) }); string(got) != "\x00" {
		t.Errorf("Bytes(nil) = %x", got)
	}
}

func TestPutsStandOneBehindTheOther(t *testing.T) {
	got := written(t, func(w *Writer) {
		w.Num(0)
		w.Num(127)
		w.Num(128)
		w.Num(300)
		w.Text("ab")
		w.Bytes([]byte{9})
		w.Text("")
		w.Bytes(nil)
		w.Num(5)
	})
	if want := "\x00\x7f\x80\x01\xac\x02\x02ab\x01\x09\x00\x00\x05"; string(got) != want {
		t.Errorf("%x, want %x", got, want)
	}
}

func TestDoneOfNothingIsEmpty(t *testing.T) {
	w := NewWriter()
	for range 2 {
		if b, err := w.Done(); len(b) != 0 || err != nil {
			t.Error(b, err)
		}
	}
}

func TestNumBelowZeroSpoilsForEver(t *testing.T) {
	for _, n := range []int{-1, -127, -128, math.MinInt + 1, math.MinInt} {
		for _, ahead := range []int{0, 3} {
			w, other := NewWriter(), NewWriter()
			for range ahead {
				w.Text("kept")
			}
			w.Num(n)
			for range 3 {
				if b, err := w.Done(); b != nil || err != api.ErrNumber {
					t.Fatalf("Done behind Num(%d) = %v, %v", n, b, err)
				}
				w.Num(1)
				w.Text("more")
				w.Bytes([]byte("more"))
			}
			other.Num(1)
			if b, err := other.Done(); string(b) != "\x01" || err != nil {
				t.Fatalf("another writer behind Num(%d) = %v, %v", n, b, err)
			}
		}
	}
}

func TestDoneAheadOfSpoilingStays(t *testing.T) {
	w := NewWriter()
	w.Text("ab")
	b, err := w.Done()
	w.Num(-1)
	if string(b) != "\x02ab" || err != nil {
		t.Error(b, err)
	}
}

func TestDoneBehindFurtherPuts(t *testing.T) {
	w := NewWriter()
	var all []byte
	var answers [][]byte
	for i := range 300 {
		w.Num(i)
		all = append(all, form(i)...)
		b, err := w.Done()
		if !bytes.Equal(b, all) || err != nil {
			t.Fatalf("Done behind %d puts: %v, %v", i+1, b, err)
		}
		answers = append(answers, b)
	}
	for _, b := range answers {
		if !bytes.HasPrefix(all, b) {
			t.Fatalf("an answer of %d bytes was changed later", len(b))
		}
	}
}

func TestDoneAnswersNewMemory(t *testing.T) {
	w := NewWriter()
	w.Text("abc")
	first, _ := w.Done()
	second, _ := w.Done()
	clear(first[:cap(first)])
	_ = append(first, 'x', 'y', 'z')
	w.Num(1)
	if third, _ := w.Done(); string(second) != "\x03abc" || string(third) != "\x03abc\x01" {
		t.Errorf("%q, %q", second, third)
	}
}

func TestWriterKeepsNothingHandedIn(t *testing.T) {
	given := []byte("abcdef")
	w := NewWriter()
	w.Bytes(given[:3])
	w.Num(7)
	if string(given) != "abcdef" {
		t.Errorf("changed to %q", given)
	}
	clear(given)
	if got, _ := w.Done(); string(got) != "\x03abc\x07" {
		t.Errorf("%q", got)
	}
}

func TestNumIsReadUpToMost(t *testing.T) {
	for _, n := range append(edges(), 300) {
		b := append(form(n), 0x55)
		for _, upTo := range []int{n, most} {
			r := NewReader(b)
			if got, err := r.Num(upTo); got != n || err != nil {
				t.Errorf("Num(%d) of %x = %d, %v", upTo, b, got, err)
			}
			stands(t, r, 1)
		}
		for _, upTo := range []int{n - 1, -1, math.MinInt} {
			r := NewReader(b)
			if got, err := r.Num(upTo); got != 0 || err != api.ErrBytes {
				t.Errorf("Num(%d) of %x = %d, %v", upTo, b, got, err)
			}
			stands(t, r, len(b))
		}
	}
}

func TestNumRefusesWhatIsNoNumber(t *testing.T) {
	for _, s := range []string{
		"",
		"\x80", "\xff", "\x80\x80", strings.Repeat("\x80", 8), strings.Repeat("\xff", 9),
		"\x80\x00", "\xff\x00", "\x81\x80\x00", "\x80\x80\x00",
		strings.Repeat("\x80", 8) + "\x00", strings.Repeat("\xff", 8) + "\x00",
		strings.Repeat("\x80", 9) + "\x01", strings.Repeat("\xff", 9) + "\x01",
		strings.Repeat("\x80", 9) + "\x00", strings.Repeat("\xff", 9) + "\x00",
		strings.Repeat("\x80", 9) + "\x02", strings.Repeat("\x80", 10) + "\x01",
		strings.Repeat("\xff", 20) + "\x01", strings.Repeat("\x80", 200),
	} {
		r := NewReader([]byte(s))
		for range 2 {
			if n, err := r.Num(most); n != 0 || err != api.ErrBytes {
				t.Errorf("Num of %x = %d, %v", s, n, err)
			}
			if b, err := r.Bytes(most); b != nil || err != api.ErrBytes {
				t.Errorf("Bytes of %x = %v, %v", s, b, err)
			}
			if text, err := r.Text(most); text != "" || err != api.ErrBytes {
				t.Errorf("Text of %x = %q, %v", s, text, err)
			}
			stands(t, r, len(s))
		}
	}
}

// readsNum asks that Num of these bytes answers what the library reads there.
func readsNum(t *testing.T, b []byte, upTo int) {
	t.Helper()
	n, size, ok := plain(b)
	var want error
	if !ok || n > upTo {
		n, size, want = 0, 0, api.ErrBytes
	}
	r := NewReader(b)
	if got, err := r.Num(upTo); got != n || err != want {
		t.Fatalf("Num(%d) of %x = %d, %v; want %d, %v", upTo, b, got, err, n, want)
	}
	stands(t, r, len(b)-size)
}

func TestNumOfAllShortBytes(t *testing.T) {
	for a := range 256 {
		readsNum(t, []byte{byte(a)}, most)
		readsNum(t, []byte{byte(a)}, 100)
		for b := range 256 {
			readsNum(t, []byte{byte(a), byte(b)}, most)
			readsNum(t, []byte{byte(a), byte(b)}, 1000)
		}
	}
}

func TestNumOfRandomBytes(t *testing.T) {
	r := rand.New(rand.NewSource(32))
	for range 40000 {
		b := anyBytes(r, r.Intn(13))
		for i := range r.Intn(len(b) + 1) {
			b[i] |= 128
		}
		if len(b) > 0 && r.Intn(3) == 0 {
			b[len(b)-1] &= 1
		}
		readsNum(t, b, most)
		readsNum(t, b, anyNum(r))
	}
}

func TestTextsAndListsAreReadUpToMost(t *testing.T) {
	for _, s := range []string{"", "a", "ab", "\x00\xff", strings.Repeat("x", 127), strings.Repeat("y", 128), strings.Repeat("z", 20000)} {
		b := append(listForm([]byte(s)), 0x55)
		for _, upTo := range []int{len(s), len(s) + 1, most} {
			r := NewReader(b)
			if got, err := r.Text(upTo); got != s || err != nil {
				t.Errorf("Text(%d) of %.8x: %d bytes, %v", upTo, b, len(got), err)
			}
			stands(t, r, 1)
			r = NewReader(b)
			if got, err := r.Bytes(upTo); string(got) != s || err != nil {
				t.Errorf("Bytes(%d) of %.8x: %d bytes, %v", upTo, b, len(got), err)
			}
			stands(t, r, 1)
		}
		for _, upTo := range []int{len(s) - 1, -1, math.MinInt} {
			r := NewReader(b)
			if got, err := r.Text(upTo); got != "" || err != api.ErrBytes {
				t.Errorf("Text(%d) of %.8x: %d bytes, %v", upTo, b, len(got), err)
			}
			if got, err := r.Bytes(upTo); got != nil || err != api.ErrBytes {
				t.Errorf("Bytes(%d) of %.8x: %d bytes, %v", upTo, b, len(got), err)
			}
			stands(t, r, len(b))
		}
	}
}

func TestTextsAndListsThatEndTooEarly(t *testing.T) {
	for _, s := range []string{
		"\x01", "\x02a", "\x05abcd", "\x80\x01a", "\x81\x00a", "\x83\x80\x00abc",
		string(form(most)), string(form(most)) + "abc", string(form(most-8)) + "abcdefgh",
		string(form(1<<31)) + "a", string(form(1<<32)) + "a", string(form(1<<32+1)) + "a",
	} {
		r := NewReader([]byte("\x01" + s))
		// One number ahead: the place isn't the beginning.
		if n, err := r.Num(1); n != 1 || err != nil {
			t.Fatal(n, err)
		}
		if got, err := r.Text(most); got != "" || err != api.ErrBytes {
			t.Errorf("Text of %x = %q, %v", s, got, err)
		}
		if got, err := r.Bytes(most); got != nil || err != api.ErrBytes {
			t.Errorf("Bytes of %x = %v, %v", s, got, err)
		}
		stands(t, r, len(s))
	}
}

func TestPlaceStaysWhereACallWasRefused(t *testing.T) {
	r := NewReader([]byte("\x05\x03abc\x80\x01\x80"))
	if _, err := r.Num(4); err != api.ErrBytes {
		t.Error(err)
	}
	if n, err := r.Num(5); n != 5 || err != nil {
		t.Error(n, err)
	}
	if _, err := r.Text(2); err != api.ErrBytes {
		t.Error(err)
	}
	if _, err := r.Num(2); err != api.ErrBytes {
		t.Error(err)
	}
	if s, err := r.Text(3); s != "abc" || err != nil {
		t.Error(s, err)
	}
	if _, err := r.Bytes(most); err != api.ErrBytes {
		t.Error(err)
	}
	if n, err := r.Num(most); n != 128 || err != nil {
		t.Error(n, err)
	}
	if _, err := r.Num(most); err != api.ErrBytes {
		t.Error(err)
	}
	stands(t, r, 1)
}

func TestReaderAtItsEnd(t *testing.T) {
	ended := NewReader([]byte("\x01\x00"))
	stands(t, ended, 2)
	if n, err := ended.Num(1); n != 1 || err != nil {
		t.Error(n, err)
	}
	if b, err := ended.Bytes(0); len(b) != 0 || err != nil {
		t.Error(b, err)
	}
	for _, r := range []*Reader{ended, NewReader(nil), NewReader([]byte{})} {
		for range 2 {
			stands(t, r, 0)
			if n, err := r.Num(most); n != 0 || err != api.ErrBytes {
				t.Error(n, err)
			}
			if s, err := r.Text(most); s != "" || err != api.ErrBytes {
				t.Error(s, err)
			}
			if b, err := r.Bytes(most); b != nil || err != api.ErrBytes {
				t.Error(b, err)
			}
		}
	}
}

func TestReaderKeepsNothingHandedIn(t *testing.T) {
	given := []byte("\x03abc\x02de\x01f")
	r := NewReader(given[:7])
	if string(given) != "\x03abc\x02de\x01f" {
		t.Errorf("changed to %q", given)
	}
	clear(given)
	stands(t, r, 7)
	first, err := r.Bytes(3)
	if string(first) != "abc" || err != nil {
		t.Fatal(first, err)
	}
	// The answer is no piece of what is still to be read, nor is its spare room.
	clear(first[:cap(first)])
	if s, err := r.Text(2); s != "de" || err != nil {
		t.Error(s, err)
	}
	stands(t, r, 0)
}

func TestBytesAnswersNothingBehindItsLength(t *testing.T) {
	r := NewReader([]byte("\x01a\x01b"))
	b, err := r.Bytes(1)
	if err != nil {
		t.Fatal(err)
	}
	if room := b[:cap(b)]; bytes.ContainsAny(room, "b\x01") {
		t.Errorf("%q", room)
	}
}

func TestSumIsAsTold(t *testing.T) {
	for _, c := range []struct {
		s    string
		want uint32
	}{
		{"", 2166136261}, {"a", 3826002220}, {"\x00", 84696351}, {"foobar", 0xbf9cf968},
	} {
		if got := Sum([]byte(c.s)); got != c.want {
			t.Errorf("Sum(%q) = %d, want %d", c.s, got, c.want)
		}
	}
	r := rand.New(rand.NewSource(33))
	for size := range 600 {
		b := anyBytes(r, size)
		h := fnv.New32a()
		h.Write(b)
		if got := Sum(b); got != h.Sum32() {
			t.Fatalf("Sum(%x) = %d, want %d", b, got, h.Sum32())
		}
	}
}

func TestSealPutsTheSumHighestFirst(t *testing.T) {
	if got := Seal([]byte("foobar")); string(got) != "foobar\xbf\x9c\xf9\x68" {
		t.Errorf("%x", got)
	}
	if got := Seal(nil); string(got) != "\x81\x1c\x9d\xc5" {
		t.Errorf("%x", got)
	}
	r := rand.New(rand.NewSource(34))
	for size := range 300 {
		b := anyBytes(r, size)
		if got, want := Seal(b), binary.BigEndian.AppendUint32(slices.Clone(b), Sum(b)); !bytes.Equal(got, want) {
			t.Fatalf("Seal(%x) = %x", b, got)
		}
	}
}

func TestSealAndOpenAnswerNewMemory(t *testing.T) {
	given := []byte("abcdefgh")
	sealed := Seal(given[:2])
	if string(given) != "abcdefgh" {
		t.Errorf("Seal changed what was handed in to %q", given)
	}
	clear(given)
	want := append([]byte("ab"), binary.BigEndian.AppendUint32(nil, Sum([]byte("ab")))...)
	if !bytes.Equal(sealed, want) {
		t.Errorf("%x", sealed)
	}
	opened, err := Open(sealed)
	if string(opened) != "ab" || err != nil || !bytes.Equal(sealed, want) {
		t.Fatal(opened, err)
	}
	clear(opened[:cap(opened)])
	if !bytes.Equal(sealed, want) {
		t.Errorf("Open answered a piece of what was handed in")
	}
}

func TestOpenRefusesTooFewBytes(t *testing.T) {
	whole := Seal(nil)
	for size := range len(whole) {
		// The spare room holds what is missing: it isn't read.
		if b, err := Open(whole[:size]); b != nil || err != api.ErrBytes {
			t.Errorf("Open of %d bytes = %v, %v", size, b, err)
		}
	}
	if b, err := Open(nil); b != nil || err != api.ErrBytes {
		t.Error(b, err)
	}
	if b, err := Open(whole); len(b) != 0 || err != nil {
		t.Error(b, err)
	}
}

func TestOpenRefusesWrongSums(t *testing.T) {
	for _, s := range []string{
		"\x00\x00\x00\x00", "\xc5\x9d\x1c\x81", "\x81\x1c\x9d\xc5\x00", "\x00\x81\x1c\x9d\xc5",
		"foobar\x68\xf9\x9c\xbf", "foobar\xbf\x9c\xf9", "oobar\xbf\x9c\xf9\x68", "ofobar\xbf\x9c\xf9\x68",
	} {
		if b, err := Open([]byte(s)); b != nil || err != api.ErrSum {
			t.Errorf("Open(%q) = %v, %v", s, b, err)
		}
	}
}

// pen is a writer beside what it must hold.
type pen struct {
	w      *Writer
	all    []byte
	spoilt bool
}

func (p *pen) step(t *testing.T, r *rand.Rand) {
	t.Helper()
	switch b := anyBytes(r, r.Intn(6)); r.Intn(8) {
	case 0, 1:
		n := anyNum(r)
		p.w.Num(n)
		p.all = append(p.all, form(n)...)
	case 2, 3:
		p.w.Text(string(b))
		p.all = append(p.all, listForm(b)...)
	case 4, 5:
		p.w.Bytes(b)
		p.all = append(p.all, listForm(b)...)
	case 6:
		if r.Intn(10) == 0 {
			p.w.Num(-1 - anyNum(r))
			p.spoilt = true
		}
	}
	p.asks(t)
}

func (p *pen) asks(t *testing.T) {
	t.Helper()
	got, err := p.w.Done()
	if p.spoilt && (got != nil || err != api.ErrNumber) {
		t.Fatalf("Done of a spoilt writer = %v, %v", got, err)
	}
	if !p.spoilt && (!bytes.Equal(got, p.all) || err != nil) {
		t.Fatalf("Done = %x, %v; want %x", got, err, p.all)
	}
}

// eye is a reader beside the bytes that must be left.
type eye struct {
	r    *Reader
	left []byte
}

func (e *eye) num(t *testing.T, upTo int) {
	t.Helper()
	n, size, ok := plain(e.left)
	got, err := e.r.Num(upTo)
	if !ok || n > upTo {
		if got != 0 || err != api.ErrBytes {
			t.Fatalf("Num(%d) at %x = %d, %v", upTo, e.left, got, err)
		}
		return
	}
	e.left = e.left[size:]
	if got != n || err != nil {
		t.Fatalf("Num(%d) = %d, %v; want %d", upTo, got, err, n)
	}
}

func (e *eye) list(t *testing.T, upTo int, read func(most int) (string, error)) {
	t.Helper()
	n, size, ok := plain(e.left)
	got, err := read(upTo)
	if !ok || n > upTo || n > len(e.left)-size {
		if got != "" || err != api.ErrBytes {
			t.Fatalf("a list up to %d at %x = %q, %v", upTo, e.left, got, err)
		}
		return
	}
	want := string(e.left[size : size+n])
	e.left = e.left[size+n:]
	if got != want || err != nil {
		t.Fatalf("a list up to %d = %q, %v; want %q", upTo, got, err, want)
	}
}

func (e *eye) step(t *testing.T, r *rand.Rand) {
	t.Helper()
	upTo := []int{most, 1 << 20, 3, 0, -1}[r.Intn(5)]
	switch r.Intn(4) {
	case 0, 1:
		e.num(t, upTo)
	case 2:
		e.list(t, upTo, e.r.Text)
	case 3:
		e.list(t, upTo, func(most int) (string, error) {
			b, err := e.r.Bytes(most)
			return string(b), err
		})
	}
	stands(t, e.r, len(e.left))
}

func TestManyWritersAndReadersInTurns(t *testing.T) {
	r := rand.New(rand.NewSource(35))
	for range 200 {
		var pens []*pen
		var eyes []*eye
		for range 3 {
			b := anyBytes(r, r.Intn(60))
			for i := range b {
				b[i] %= 140
			}
			pens = append(pens, &pen{w: NewWriter()})
			eyes = append(eyes, &eye{r: NewReader(b), left: b})
		}
		for range 150 {
			if r.Intn(2) == 0 {
				pens[r.Intn(3)].step(t, r)
			} else {
				eyes[r.Intn(3)].step(t, r)
			}
		}
		for i := range pens {
			pens[i].asks(t)
			stands(t, eyes[i].r, len(eyes[i].left))
		}
	}
}

// P3.2: what was put is read back by the same calls in the same order; a strict beginning isn't.

// thing is a number, or, of the other kinds, a text or a list of bytes.
type thing struct {
	kind int
	n    int
	s    string
}

func anyThings(r *rand.Rand) []thing {
	list := make([]thing, 1+r.Intn(8))
	for i := range list {
		list[i].kind = r.Intn(3)
		switch {
		case list[i].kind > 0:
			list[i].s = string(anyBytes(r, r.Intn(6)))
		case r.Intn(2) == 0:
			list[i].n = edges()[r.Intn(len(edges()))]
		default:
			list[i].n = anyNum(r)
		}
	}
	return list
}

func putAll(w *Writer, list []thing) {
	for _, x := range list {
		switch x.kind {
		case 0:
			w.Num(x.n)
		case 1:
			w.Text(x.s)
		case 2:
			w.Bytes([]byte(x.s))
		}
	}
}

// readAll reads by the same calls, each up to what was put, as far as they answer.
func readAll(r *Reader, list []thing) ([]thing, error) {
	var got []thing
	for _, x := range list {
		y := thing{kind: x.kind}
		var err error
		switch x.kind {
		case 0:
			y.n, err = r.Num(x.n)
		case 1:
			y.s, err = r.Text(len(x.s))
		case 2:
			var b []byte
			b, err = r.Bytes(len(x.s))
			y.s = string(b)
		}
		if err != nil {
			return got, err
		}
		got = append(got, y)
	}
	return got, r.End()
}

func TestWhatWasPutIsReadBack(t *testing.T) {
	r := rand.New(rand.NewSource(36))
	for range 3000 {
		list := anyThings(r)
		b := written(t, func(w *Writer) { putAll(w, list) })
		if got, err := readAll(NewReader(b), list); !slices.Equal(got, list) || err != nil {
			t.Fatalf("%v was read back as %v, %v", list, got, err)
		}
	}
}

func TestNothingPutIsReadBack(t *testing.T) {
	b := written(t, func(w *Writer) {})
	if err := NewReader(b).End(); err != nil {
		t.Error(err)
	}
}

func TestStrictBeginningsAreNotReadToTheirEnd(t *testing.T) {
	r := rand.New(rand.NewSource(37))
	for range 1000 {
		list := anyThings(r)
		b := written(t, func(w *Writer) { putAll(w, list) })
		for size := range len(b) {
			got, err := readAll(NewReader(b[:size]), list)
			if err != api.ErrBytes || len(got) == len(list) || !slices.Equal(got, list[:len(got)]) {
				t.Fatalf("%d of %d bytes of %v were read as %v, %v", size, len(b), list, got, err)
			}
		}
	}
}

func TestMoreThanWasPutIsNotTheEnd(t *testing.T) {
	r := rand.New(rand.NewSource(38))
	for range 300 {
		list := anyThings(r)
		b := written(t, func(w *Writer) { putAll(w, list) })
		if got, err := readAll(NewReader(append(b, 0)), list); !slices.Equal(got, list) || err != api.ErrBytes {
			t.Fatalf("%v and a byte more were read as %v, %v", list, got, err)
		}
	}
}

// P3.3: Open of Seal gives the bytes back; a changed byte is told.

// samples are bytes of many sizes; some are alike, so that changes have little to stand out from.
func samples() [][]byte {
	list := [][]byte{nil, {0}, {255}, make([]byte, 50), bytes.Repeat([]byte{255}, 50)}
	r := rand.New(rand.NewSource(39))
	for size := 1; size < 70; size += 3 {
		list = append(list, anyBytes(r, size))
	}
	return list
}

func TestOpenOfSealGivesTheBytesBack(t *testing.T) {
	r := rand.New(rand.NewSource(40))
	list := append(samples(), anyBytes(r, 1000), anyBytes(r, api.MaxRecord))
	for _, b := range list {
		if got, err := Open(Seal(b)); !bytes.Equal(got, b) || err != nil {
			t.Errorf("of %d bytes: %d bytes, %v", len(b), len(got), err)
		}
	}
	twice := Seal(Seal([]byte("ab")))
	once, err := Open(twice)
	if err != nil || !bytes.Equal(once, Seal([]byte("ab"))) {
		t.Error(once, err)
	}
}

func TestOneChangedByteIsTold(t *testing.T) {
	for _, b := range samples() {
		sealed := Seal(b)
		for i := range sealed {
			for by := 1; by < 256; by++ {
				sealed[i] ^= byte(by)
				if got, err := Open(sealed); got != nil || err != api.ErrSum {
					t.Fatalf("%d bytes, byte %d changed by %d: %v, %v", len(b), i, by, got, err)
				}
				sealed[i] ^= byte(by)
			}
		}
	}
}
