package wide

import (
	"math"
	"math/big"
	"math/rand"
	"testing"

	"almoner/api"
)

const (
	full = math.MaxUint64
	most = math.MaxInt
)

// top is 2^128 - 1.
var top = api.Wide{Hi: full, Lo: full}

func w(hi, lo uint64) api.Wide { return api.Wide{Hi: hi, Lo: lo} }

func part(n, d uint64) api.Part { return api.Part{N: Of(n), D: Of(d)} }

// bigOf is the number that a Wide stands for.
func bigOf(a api.Wide) *big.Int {
	n := new(big.Int).SetUint64(a.Hi)
	n.Lsh(n, 64)
	return n.Add(n, new(big.Int).SetUint64(a.Lo))
}

func bigInt(n int) *big.Int { return big.NewInt(int64(n)) }

func times(a, b *big.Int) *big.Int { return new(big.Int).Mul(a, b) }

// fits tells whether a Wide can stand for n.
func fits(n *big.Int) bool { return n.Sign() >= 0 && n.BitLen() <= 128 }

// wideOf is the Wide of an exact number, or the zero Wide and false.
func wideOf(n *big.Int) (api.Wide, bool) {
	if !fits(n) {
		return api.Wide{}, false
	}
	low := new(big.Int).And(n, new(big.Int).SetUint64(full))
	return w(new(big.Int).Rsh(n, 64).Uint64(), low.Uint64()), true
}

// edges are the numbers at which a half fills, borrows or runs over.
func edges() []api.Wide {
	var list []api.Wide
	for _, hi := range []uint64{0, 1, 2, 1 << 63, 1<<63 - 1, full - 1, full} {
		for _, lo := range []uint64{0, 1, 2, 3, 1 << 32, 1<<63 - 1, 1 << 63, full - 1, full} {
			list = append(list, w(hi, lo))
		}
	}
	return list
}

// lows are the numbers of 64 bits that edges go with.
func lows() []uint64 {
	return []uint64{0, 1, 2, 3, 10, 1<<32 - 1, 1 << 32, 1<<63 - 1, 1 << 63, full - 1, full}
}

// anyWide is a number of any size from 0 to 128 bits.
func anyWide(r *rand.Rand) api.Wide {
	a, _ := Shift(w(r.Uint64(), r.Uint64()), -r.Intn(129))
	return a
}

func anyLow(r *rand.Rand) uint64 { return r.Uint64() >> r.Intn(65) }

func anyInt(r *rand.Rand) int { return int(r.Uint64()) >> r.Intn(64) }

// pairs goes over all pairs of edges, and over random pairs of all sizes.
func pairs(do func(a, b api.Wide)) {
	for _, a := range edges() {
		for _, b := range edges() {
			do(a, b)
		}
	}
	r := rand.New(rand.NewSource(2))
	for range 20000 {
		do(anyWide(r), anyWide(r))
	}
}

// mixed goes over all edges with all numbers of 64 bits, and over random ones.
func mixed(do func(a api.Wide, n uint64)) {
	for _, a := range edges() {
		for _, n := range lows() {
			do(a, n)
		}
	}
	r := rand.New(rand.NewSource(3))
	for range 20000 {
		do(anyWide(r), anyLow(r))
	}
}

func same(t *testing.T, name string, got api.Wide, ok bool, exact *big.Int) {
	t.Helper()
	if want, fits := wideOf(exact); got != want || ok != fits {
		t.Fatalf("%s = %v, %v; want %v, %v", name, got, ok, want, fits)
	}
}

// P2.1: every call answers what is told, at all arguments.

func TestOf(t *testing.T) {
	for _, n := range lows() {
		if got := Of(n); got != w(0, n) {
			t.Errorf("Of(%d) = %v", n, got)
		}
	}
}

func TestAddAtTheEdges(t *testing.T) {
	for _, r := range []struct {
		a, b, want api.Wide
		ok         bool
	}{
		{w(0, 2), w(0, 3), w(0, 5), true},
		{w(0, full), w(0, 1), w(1, 0), true},
		{w(full, 0), w(0, full), top, true},
		{w(full, full-1), w(0, 1), top, true},
		{top, w(0, 0), top, true},
		{top, w(0, 1), w(0, 0), false},
		{w(0, 1), top, w(0, 0), false},
		{w(1<<63, 0), w(1<<63, 0), w(0, 0), false},
		{w(1<<63, 5), w(1<<63, 7), w(0, 0), false},
		{w(1<<63, 0), w(1<<63-1, full), top, true},
	} {
		if got, ok := Add(r.a, r.b); got != r.want || ok != r.ok {
			t.Errorf("Add(%v, %v) = %v, %v", r.a, r.b, got, ok)
		}
	}
}

func TestSubAtTheEdges(t *testing.T) {
	for _, r := range []struct {
		a, b, want api.Wide
		ok         bool
	}{
		{w(0, 5), w(0, 3), w(0, 2), true},
		{w(1, 0), w(0, 1), w(0, full), true},
		{top, top, w(0, 0), true},
		{w(0, 0), w(0, 0), w(0, 0), true},
		{w(0, 0), w(0, 1), w(0, 0), false},
		{w(0, 1), w(0, 2), w(0, 0), false},
		{w(1, 0), w(1, 1), w(0, 0), false},
		{w(0, full), w(1, 0), w(0, 0), false},
		{w(0, 0), top, w(0, 0), false},
	} {
		if got, ok := Sub(r.a, r.b); got != r.want || ok != r.ok {
			t.Errorf("Sub(%v, %v) = %v, %v", r.a, r.b, got, ok)
		}
	}
}

func TestMulAtTheEdges(t *testing.T) {
	for _, r := range []struct {
		a    api.Wide
		n    uint64
		want api.Wide
		ok   bool
	}{
		{w(0, 6), 7, w(0, 42), true},
		{top, 1, top, true},
		{top, 0, w(0, 0), true},
		{w(0, 0), full, w(0, 0), true},
		{top, 2, w(0, 0), false},
		{w(1<<63-1, full), 2, w(full, full-1), true},
		{w(1<<63, 0), 2, w(0, 0), false},
		{w(0, full), full, w(full-1, 1), true},
		{w(1, 1), full, top, true},
		{w(1, 2), full, w(0, 0), false},
		{w(1, 0), full, w(full, 0), true},
		{w(2, 0), full, w(0, 0), false},
	} {
		if got, ok := Mul(r.a, r.n); got != r.want || ok != r.ok {
			t.Errorf("Mul(%v, %d) = %v, %v", r.a, r.n, got, ok)
		}
	}
}

func TestDivAtTheEdges(t *testing.T) {
	for _, r := range []struct {
		a    api.Wide
		n    uint64
		want api.Wide
		rest uint64
		ok   bool
	}{
		{w(0, 17), 5, w(0, 3), 2, true},
		{w(1, 0), 2, w(0, 1<<63), 0, true},
		{w(1, 0), full, w(0, 1), 1, true},
		{top, 1, top, 0, true},
		{top, full, w(1, 1), 0, true},
		{w(full-1, full), full, w(0, full), full - 1, true},
		{w(0, 0), 1, w(0, 0), 0, true},
		{w(0, 3), full, w(0, 0), 3, true},
		{w(0, 0), 0, w(0, 0), 0, false},
		{w(0, 1), 0, w(0, 0), 0, false},
		{top, 0, w(0, 0), 0, false},
	} {
		if got, rest, ok := Div(r.a, r.n); got != r.want || rest != r.rest || ok != r.ok {
			t.Errorf("Div(%v, %d) = %v, %d, %v", r.a, r.n, got, rest, ok)
		}
	}
}

func TestShiftAtTheEdges(t *testing.T) {
	for _, r := range []struct {
		a    api.Wide
		n    int
		want api.Wide
		ok   bool
	}{
		{w(0, 5), 3, w(0, 40), true},
		{w(0, 5), -1, w(0, 2), true},
		{w(3, 5), 0, w(3, 5), true},
		{w(0, 3), 63, w(1, 1<<63), true},
		{w(0, 3), 64, w(3, 0), true},
		{w(0, 3), 65, w(6, 0), true},
		{w(0, 1), 127, w(1<<63, 0), true},
		{w(0, 1), 128, w(0, 0), false},
		{w(0, 3), 127, w(0, 0), false},
		{w(0, 1), most, w(0, 0), false},
		{top, 0, top, true},
		{top, 1, w(0, 0), false},
		{w(1<<63, 0), 1, w(0, 0), false},
		{w(0, 0), 128, w(0, 0), true},
		{w(0, 0), most, w(0, 0), true},
		{w(0, 0), math.MinInt, w(0, 0), true},
		{top, -1, w(1<<63-1, full), true},
		{top, -63, w(1, full), true},
		{top, -64, w(0, full), true},
		{top, -65, w(0, 1<<63-1), true},
		{top, -127, w(0, 1), true},
		{top, -128, w(0, 0), true},
		{top, -129, w(0, 0), true},
		{top, -most, w(0, 0), true},
		{top, math.MinInt, w(0, 0), true},
	} {
		if got, ok := Shift(r.a, r.n); got != r.want || ok != r.ok {
			t.Errorf("Shift(%v, %d) = %v, %v", r.a, r.n, got, ok)
		}
	}
}

func TestBitsAtTheEdges(t *testing.T) {
	for _, r := range []struct {
		a    api.Wide
		want int
	}{
		{w(0, 0), 0}, {w(0, 1), 1}, {w(0, 2), 2}, {w(0, 3), 2}, {w(0, 1<<63), 64},
		{w(0, full), 64}, {w(1, 0), 65}, {w(1<<63, 0), 128}, {top, 128},
	} {
		if got := Bits(r.a); got != r.want {
			t.Errorf("Bits(%v) = %d, want %d", r.a, got, r.want)
		}
	}
}

func TestPairsAgainstExactNumbers(t *testing.T) {
	pairs(func(a, b api.Wide) {
		x, y := bigOf(a), bigOf(b)
		sum, ok := Add(a, b)
		same(t, "Add", sum, ok, new(big.Int).Add(x, y))
		less, ok := Sub(a, b)
		same(t, "Sub", less, ok, new(big.Int).Sub(x, y))
		if got := Compare(a, b); got != x.Cmp(y) {
			t.Fatalf("Compare(%v, %v) = %d", a, b, got)
		}
		if got := Bits(a); got != x.BitLen() {
			t.Fatalf("Bits(%v) = %d", a, got)
		}
	})
}

func TestMulAndDivAgainstExactNumbers(t *testing.T) {
	mixed(func(a api.Wide, n uint64) {
		x, y := bigOf(a), new(big.Int).SetUint64(n)
		product, ok := Mul(a, n)
		same(t, "Mul", product, ok, times(x, y))
		quotient, rest, ok := Div(a, n)
		if n == 0 {
			if quotient != (api.Wide{}) || rest != 0 || ok {
				t.Fatalf("Div(%v, 0) = %v, %d, %v", a, quotient, rest, ok)
			}
			return
		}
		q, m := new(big.Int).DivMod(x, y, new(big.Int))
		same(t, "Div", quotient, ok, q)
		if rest != m.Uint64() {
			t.Fatalf("Div(%v, %d) leaves %d", a, n, rest)
		}
	})
}

func TestShiftAgainstExactNumbers(t *testing.T) {
	list := edges()
	r := rand.New(rand.NewSource(4))
	for range 200 {
		list = append(list, anyWide(r))
	}
	for _, a := range list {
		for n := -200; n <= 200; n++ {
			exact := new(big.Int)
			if n < 0 {
				exact.Rsh(bigOf(a), uint(-n))
			} else {
				exact.Lsh(bigOf(a), uint(n))
			}
			got, ok := Shift(a, n)
			same(t, "Shift", got, ok, exact)
		}
	}
}

func TestPlusAtTheEdges(t *testing.T) {
	one := Of(1)
	for _, r := range []struct {
		p    api.Part
		q, t int
		want api.Part
		ok   bool
	}{
		{part(0, 1), 1, 2, part(1, 2), true},
		{part(1, 2), 1, 3, part(5, 6), true},
		{part(2, 4), 2, 4, part(16, 16), true},
		{part(0, 1), 0, 1, part(0, 1), true},
		{part(3, 4), 0, 2, part(6, 8), true},
		{part(3, 0), 1, 2, api.Part{}, false},
		{part(0, 0), 0, 1, api.Part{}, false},
		{part(1, 2), -1, 2, api.Part{}, false},
		{part(1, 2), math.MinInt, 2, api.Part{}, false},
		{part(1, 2), 1, 0, api.Part{}, false},
		{part(1, 2), 1, -3, api.Part{}, false},
		{part(1, 2), 1, math.MinInt, api.Part{}, false},
		{api.Part{N: top, D: one}, 0, 1, api.Part{N: top, D: one}, true},
		{api.Part{N: top, D: one}, 1, 1, api.Part{}, false},
		{api.Part{N: top, D: one}, 0, 2, api.Part{}, false},
		{api.Part{N: one, D: top}, 0, 1, api.Part{N: one, D: top}, true},
		{api.Part{N: Of(0), D: top}, 1, 1, api.Part{N: top, D: top}, true},
		{api.Part{N: one, D: top}, 1, 1, api.Part{}, false},
		{api.Part{N: Of(0), D: top}, 2, 1, api.Part{}, false},
		{api.Part{N: Of(0), D: top}, 0, 2, api.Part{}, false},
	} {
		if got, ok := Plus(r.p, r.q, r.t); got != r.want || ok != r.ok {
			t.Errorf("Plus(%v, %d, %d) = %v, %v", r.p, r.q, r.t, got, ok)
		}
	}
}

func TestCrossAtTheEdges(t *testing.T) {
	for _, r := range []struct {
		a, b, c, d, want int
		ok               bool
	}{
		{1, 3, 2, 6, 0, true},
		{1, 3, 1, 2, -1, true},
		{1, 2, 1, 3, 1, true},
		{0, 1, 0, most, 0, true},
		{0, 1, 1, most, -1, true},
		{most, 1, most, 1, 0, true},
		{most, 1, most - 1, 1, 1, true},
		{most - 1, most, most, most, -1, true},
		{most - 1, most, most - 2, most - 1, 1, true},
		{1, most, 1, most - 1, -1, true},
		{-1, 1, 0, 1, 0, false},
		{1, 1, -1, 1, 0, false},
		{math.MinInt, 1, 1, 1, 0, false},
		{1, 0, 1, 1, 0, false},
		{1, 1, 1, 0, 0, false},
		{1, -1, 2, 1, 0, false},
		{1, 1, 2, -1, 0, false},
		{1, 1, 2, math.MinInt, 0, false},
	} {
		if got, ok := Cross(r.a, r.b, r.c, r.d); got != r.want || ok != r.ok {
			t.Errorf("Cross(%d, %d, %d, %d) = %d, %v", r.a, r.b, r.c, r.d, got, ok)
		}
	}
}

func TestAgainstAtTheEdges(t *testing.T) {
	one := Of(1)
	for _, r := range []struct {
		p          api.Part
		q, t, want int
		ok         bool
	}{
		{part(5, 6), 1, 1, -1, true},
		{part(5, 6), 10, 12, 0, true},
		{part(5, 6), 4, 5, 1, true},
		{part(0, 6), 0, 5, 0, true},
		{part(5, 0), 1, 1, 0, false},
		{part(0, 0), 0, 1, 0, false},
		{part(5, 6), -1, 1, 0, false},
		{part(5, 6), 1, 0, 0, false},
		{part(5, 6), 1, -1, 0, false},
		{part(5, 6), 1, math.MinInt, 0, false},
		{api.Part{N: top, D: one}, 1, 1, 1, true},
		{api.Part{N: top, D: one}, 1, 2, 0, false},
		{api.Part{N: one, D: top}, 1, 1, -1, true},
		{api.Part{N: one, D: top}, 2, 1, 0, false},
		{api.Part{N: one, D: top}, 0, most, 1, true},
		{api.Part{N: top, D: top}, 1, 1, 0, true},
	} {
		if got, ok := Against(r.p, r.q, r.t); got != r.want || ok != r.ok {
			t.Errorf("Against(%v, %d, %d) = %d, %v", r.p, r.q, r.t, got, ok)
		}
	}
}

// exactPlus is what Plus must answer, by numbers of any size.
func exactPlus(p api.Part, q, t int) (api.Part, bool) {
	if bigOf(p.D).Sign() == 0 || q < 0 || t < 1 {
		return api.Part{}, false
	}
	mine, its := times(bigOf(p.N), bigInt(t)), times(bigOf(p.D), bigInt(q))
	n, d := new(big.Int).Add(mine, its), times(bigOf(p.D), bigInt(t))
	if !fits(n) || !fits(d) {
		return api.Part{}, false
	}
	up, _ := wideOf(n)
	low, _ := wideOf(d)
	return api.Part{N: up, D: low}, true
}

// exactAgainst is what Against must answer, by numbers of any size.
func exactAgainst(p api.Part, q, t int) (int, bool) {
	if bigOf(p.D).Sign() == 0 || q < 0 || t < 1 {
		return 0, false
	}
	mine, its := times(bigOf(p.N), bigInt(t)), times(bigOf(p.D), bigInt(q))
	if !fits(mine) || !fits(its) {
		return 0, false
	}
	return mine.Cmp(its), true
}

func TestFractionsAgainstExactNumbers(t *testing.T) {
	r := rand.New(rand.NewSource(5))
	for range 40000 {
		p, q, d := api.Part{N: anyWide(r), D: anyWide(r)}, anyInt(r), anyInt(r)
		want, fits := exactPlus(p, q, d)
		if got, ok := Plus(p, q, d); got != want || ok != fits {
			t.Fatalf("Plus(%v, %d, %d) = %v, %v; want %v, %v", p, q, d, got, ok, want, fits)
		}
		order, told := exactAgainst(p, q, d)
		if got, ok := Against(p, q, d); got != order || ok != told {
			t.Fatalf("Against(%v, %d, %d) = %d, %v; want %d, %v", p, q, d, got, ok, order, told)
		}
	}
}

func TestCrossAgainstExactNumbers(t *testing.T) {
	r := rand.New(rand.NewSource(6))
	for range 40000 {
		a, b, c, d := anyInt(r), anyInt(r), anyInt(r), anyInt(r)
		want, told := 0, a >= 0 && c >= 0 && b > 0 && d > 0
		if told {
			want = times(bigInt(a), bigInt(d)).Cmp(times(bigInt(c), bigInt(b)))
		}
		if got, ok := Cross(a, b, c, d); got != want || ok != told {
			t.Fatalf("Cross(%d, %d, %d, %d) = %d, %v; want %d, %v", a, b, c, d, got, ok, want, told)
		}
	}
}

// P2.2: what one call does, another undoes.

func TestSubUndoesAdd(t *testing.T) {
	met := 0
	pairs(func(a, b api.Wide) {
		sum, ok := Add(a, b)
		if !ok {
			return
		}
		met++
		if back, ok := Sub(sum, b); back != a || !ok {
			t.Fatalf("Sub(Add(%v, %v)) = %v, %v", a, b, back, ok)
		}
	})
	if met == 0 {
		t.Error("no sum fitted")
	}
}

func TestDivTimesAndRest(t *testing.T) {
	mixed(func(a api.Wide, n uint64) {
		if n == 0 {
			return
		}
		q, rest, _ := Div(a, n)
		product, ok := Mul(q, n)
		back, fits := Add(product, Of(rest))
		if back != a || !ok || !fits || rest >= n {
			t.Fatalf("Div(%v, %d) = %v, %d", a, n, q, rest)
		}
	})
}

func TestShiftAndBack(t *testing.T) {
	for _, a := range edges() {
		for n := 0; n <= 130; n++ {
			up, ok := Shift(a, n)
			if ok != (a == api.Wide{} || n+Bits(a) <= 128) {
				t.Fatalf("Shift(%v, %d): %v", a, n, ok)
			}
			if back, _ := Shift(up, -n); ok && back != a {
				t.Fatalf("Shift(%v, %d) and back = %v", a, n, back)
			}
			down, _ := Shift(a, -n)
			lost, _ := Shift(down, n)
			rest, below := Sub(a, lost)
			if !below || Bits(rest) > n {
				t.Fatalf("Shift(%v, %d) and back = %v", a, -n, lost)
			}
		}
	}
}

// P2.3: fractions put together in any order are as great, and Against tells it.

// together puts the fractions together in that order.
func together(t *testing.T, list [][2]int, order []int) api.Part {
	t.Helper()
	p := part(0, 1)
	for _, i := range order {
		next, ok := Plus(p, list[i][0], list[i][1])
		if !ok {
			t.Fatalf("Plus(%v, %v)", p, list[i])
		}
		p = next
	}
	return p
}

func TestAnyOrderIsAsGreat(t *testing.T) {
	r := rand.New(rand.NewSource(7))
	for range 500 {
		list := make([][2]int, 8)
		for i := range list {
			list[i] = [2]int{r.Intn(257), 1 + r.Intn(256)}
		}
		first := together(t, list, r.Perm(8))
		second := together(t, list, r.Perm(8))
		if first != second {
			t.Fatalf("%v and %v", first, second)
		}
	}
}

func TestPlusAndAgainstAgree(t *testing.T) {
	r := rand.New(rand.NewSource(8))
	for range 2000 {
		p := part(uint64(r.Intn(1000)), 1+uint64(r.Intn(1000)))
		q, d := r.Intn(1000), 1+r.Intn(1000)
		sum, ok := Plus(p, q, d)
		if !ok {
			t.Fatalf("Plus(%v, %d, %d)", p, q, d)
		}
		if c, ok := Against(sum, q, d); !ok || (c == 0) != (p.N.Lo == 0) || c < 0 {
			t.Fatalf("Plus(%v, %d, %d) against its part: %d, %v", p, q, d, c, ok)
		}
		if c, ok := Against(sum, int(p.N.Lo), int(p.D.Lo)); !ok || (c == 0) != (q == 0) || c < 0 {
			t.Fatalf("Plus(%v, %d, %d) against the other part: %d, %v", p, q, d, c, ok)
		}
		if c, ok := Against(sum, int(sum.N.Lo), int(sum.D.Lo)); c != 0 || !ok {
			t.Fatalf("%v against itself: %d, %v", sum, c, ok)
		}
		one, ok := Against(p, q, d)
		other, told := Cross(int(p.N.Lo), int(p.D.Lo), q, d)
		if one != other || !ok || !told {
			t.Fatalf("Against(%v, %d, %d) = %d, Cross %d", p, q, d, one, other)
		}
	}
}
