package tick

import (
	"math"
	"math/big"
	"math/rand"
	"slices"
	"testing"
)

const (
	least = math.MinInt
	most  = math.MaxInt
)

// edges are the numbers at which results begin or cease to fit, and their neighbours.
func edges() []int {
	list := []int{0, 7, -7, 12, -18, 60, 1000003, -1000003, 3037000499, 3037000500, -3037000500}
	for _, n := range []int{0, 1, 31, 32, 61, 62} {
		for d := -2; d <= 2; d++ {
			list = append(list, 1<<n+d, -(1<<n)+d)
		}
	}
	for d := 0; d <= 2; d++ {
		list = append(list, least+d, most-d)
	}
	return list
}

// pairs goes over all pairs of edges, and over random pairs of all sizes.
func pairs(do func(a, b int)) {
	list := edges()
	for _, a := range list {
		for _, b := range list {
			do(a, b)
		}
	}
	r := rand.New(rand.NewSource(1))
	for range 20000 {
		do(int(r.Uint64())>>r.Intn(64), int(r.Uint64())>>r.Intn(64))
	}
}

func bigOf(n int) *big.Int { return big.NewInt(int64(n)) }

func bigAmount(n int) *big.Int { return new(big.Int).Abs(bigOf(n)) }

// same holds an answer against the exact one, which fits or not.
func same(t *testing.T, name string, a, b, got int, ok bool, exact *big.Int) {
	t.Helper()
	want, fits := 0, exact.IsInt64()
	if fits {
		want = int(exact.Int64())
	}
	if got != want || ok != fits {
		t.Fatalf("%s(%d, %d) = %d, %v; want %d, %v", name, a, b, got, ok, want, fits)
	}
}

// row is a call with two numbers, and its answer.
type row struct {
	a, b, want int
	ok         bool
}

func checkRows(t *testing.T, name string, call func(a, b int) (int, bool), rows []row) {
	t.Helper()
	for _, r := range rows {
		if got, ok := call(r.a, r.b); got != r.want || ok != r.ok {
			t.Errorf("%s(%d, %d) = %d, %v; want %d, %v", name, r.a, r.b, got, ok, r.want, r.ok)
		}
	}
}

// P1.1: sums, differences and products are exact, or told not to fit.

func TestAddAtTheEdges(t *testing.T) {
	checkRows(t, "Add", Add, []row{
		{2, 3, 5, true},
		{-2, -3, -5, true},
		{most, 0, most, true},
		{most - 1, 1, most, true},
		{most, 1, 0, false},
		{1, most, 0, false},
		{most, most, 0, false},
		{least, 0, least, true},
		{least + 1, -1, least, true},
		{least, -1, 0, false},
		{-1, least, 0, false},
		{least, least, 0, false},
		{least, most, -1, true},
	})
}

func TestSubAtTheEdges(t *testing.T) {
	checkRows(t, "Sub", Sub, []row{
		{2, 3, -1, true},
		{0, most, -most, true},
		{0, least, 0, false},
		{-1, least, most, true},
		{-2, least, most - 1, true},
		{least, least, 0, true},
		{least, 1, 0, false},
		{least, 0, least, true},
		{most, -1, 0, false},
		{most, least, 0, false},
		{most, most, 0, true},
		{-2, most, 0, false},
		{-1, most, least, true},
	})
}

func TestMulAtTheEdges(t *testing.T) {
	checkRows(t, "Mul", Mul, []row{
		{-6, 7, -42, true},
		{0, least, 0, true},
		{-5, 0, 0, true},
		{least, 1, least, true},
		{least, -1, 0, false},
		{-1, least, 0, false},
		{most, -1, -most, true},
		{1 << 32, 1 << 31, 0, false},
		{-1 << 32, 1 << 31, least, true},
		{1 << 32, -1 << 32, 0, false},
		{1 << 32, 1 << 32, 0, false},
		{-1 << 32, -1 << 31, 0, false},
		{7 * 7 * 73 * 127, 337 * 92737 * 649657, most, true},
		{least, least, 0, false},
		{most, most, 0, false},
	})
}

func TestAddSubMulAreExact(t *testing.T) {
	pairs(func(a, b int) {
		n, ok := Add(a, b)
		same(t, "Add", a, b, n, ok, new(big.Int).Add(bigOf(a), bigOf(b)))
		n, ok = Sub(a, b)
		same(t, "Sub", a, b, n, ok, new(big.Int).Sub(bigOf(a), bigOf(b)))
		n, ok = Mul(a, b)
		same(t, "Mul", a, b, n, ok, new(big.Int).Mul(bigOf(a), bigOf(b)))
	})
}

// P1.1: only the sum of all matters, not the sums on the way.

func TestSumOfGivenLists(t *testing.T) {
	rows := []struct {
		list []int
		want int
		ok   bool
	}{
		{nil, 0, true},
		{[]int{}, 0, true},
		{[]int{-4}, -4, true},
		{[]int{1, 2, 3}, 6, true},
		{[]int{least}, least, true},
		{[]int{most}, most, true},
		{[]int{most, 1}, 0, false},
		{[]int{least, -1}, 0, false},
		{[]int{most, 5, -9}, most - 4, true},
		{[]int{most, 1, -1}, most, true},
		{[]int{least, -1, 1}, least, true},
		{[]int{most, most, most, least, least, least}, -3, true},
		{[]int{least, least, most, most}, -2, true},
		{[]int{least, least, most, most, 2, most}, most, true},
		{[]int{least, least, most, most, 2, most, 1}, 0, false},
		{[]int{most, most, 2}, 0, false},
		{[]int{least, least}, 0, false},
		{[]int{least, least, least, least}, 0, false},
	}
	for _, r := range rows {
		if got, ok := Sum(r.list...); got != r.want || ok != r.ok {
			t.Errorf("Sum(%v) = %d, %v; want %d, %v", r.list, got, ok, r.want, r.ok)
		}
	}
	if got, ok := Sum(); got != 0 || !ok {
		t.Errorf("Sum() = %d, %v", got, ok)
	}
}

func TestSumIsExact(t *testing.T) {
	r := rand.New(rand.NewSource(2))
	ends := edges()
	for range 20000 {
		list := make([]int, r.Intn(9))
		exact := new(big.Int)
		for i := range list {
			list[i] = ends[r.Intn(len(ends))]
			exact.Add(exact, bigOf(list[i]))
		}
		got, ok := Sum(list...)
		if ok != exact.IsInt64() || ok && int64(got) != exact.Int64() || !ok && got != 0 {
			t.Fatalf("Sum(%v) = %d, %v; want %v", list, got, ok, exact)
		}
	}
}

func TestSumOfALongList(t *testing.T) {
	const half = 10000
	list := append(slices.Repeat([]int{most}, half), slices.Repeat([]int{least}, half)...)
	if got, ok := Sum(list...); got != -half || !ok {
		t.Errorf("Sum = %d, %v", got, ok)
	}
	if got, ok := Sum(list[:half]...); got != 0 || ok {
		t.Errorf("Sum = %d, %v", got, ok)
	}
}

func TestSumLeavesItsListAlone(t *testing.T) {
	room := []int{1, 2, 3, 4}
	if got, ok := Sum(room[:2]...); got != 3 || !ok {
		t.Errorf("Sum = %d, %v", got, ok)
	}
	if !slices.Equal(room, []int{1, 2, 3, 4}) {
		t.Errorf("the list is now %v", room)
	}
}

// P1.1 and P1.2: quotients are rounded down and up, and what is left is 0 to b - 1.

func TestDivideAtTheEdges(t *testing.T) {
	checkRows(t, "Floor", Floor, []row{
		{7, 2, 3, true},
		{-7, 2, -4, true},
		{-8, 2, -4, true},
		{0, 5, 0, true},
		{-1, most, -1, true},
		{least, 1, least, true},
		{least, most, -2, true},
		{most, 1, most, true},
		{most, most, 1, true},
	})
	checkRows(t, "Ceil", Ceil, []row{
		{7, 2, 4, true},
		{-7, 2, -3, true},
		{-8, 2, -4, true},
		{0, 5, 0, true},
		{1, most, 1, true},
		{-1, most, 0, true},
		{least, 1, least, true},
		{least, most, -1, true},
		{most, 1, most, true},
		{most, 2, 1 << 62, true},
	})
	checkRows(t, "Mod", Mod, []row{
		{7, 2, 1, true},
		{-7, 2, 1, true},
		{-8, 2, 0, true},
		{0, 5, 0, true},
		{-1, most, most - 1, true},
		{least, 1, 0, true},
		{least, most, most - 1, true},
		{most, most, 0, true},
	})
}

func TestDivideByLessThanOneIsRefused(t *testing.T) {
	for _, a := range edges() {
		for _, b := range []int{0, -1, -2, least, least + 1} {
			refused := []row{{a, b, 0, false}}
			checkRows(t, "Floor", Floor, refused)
			checkRows(t, "Ceil", Ceil, refused)
			checkRows(t, "Mod", Mod, refused)
		}
	}
}

func TestFloorAndModMakeUpTheWhole(t *testing.T) {
	pairs(func(a, b int) {
		if b < 1 {
			return
		}
		f, okFloor := Floor(a, b)
		c, okCeil := Ceil(a, b)
		m, okMod := Mod(a, b)
		if !okFloor || !okCeil || !okMod {
			t.Fatalf("%d by %d is refused", a, b)
		}
		if m < 0 || m >= b {
			t.Fatalf("Mod(%d, %d) = %d", a, b, m)
		}
		whole := new(big.Int).Mul(bigOf(b), bigOf(f))
		if whole.Add(whole, bigOf(m)).Cmp(bigOf(a)) != 0 {
			t.Fatalf("Floor(%d, %d) = %d, Mod %d", a, b, f, m)
		}
		if m == 0 && c != f || m != 0 && c != f+1 {
			t.Fatalf("Ceil(%d, %d) = %d, Floor %d", a, b, c, f)
		}
	})
}

// P1.1 and P1.3: divisors and multiples are those of the amounts.

func TestGcdAtTheEdges(t *testing.T) {
	rows := []struct {
		a, b int
		want uint64
	}{
		{12, 18, 6},
		{12, -18, 6},
		{-12, -18, 6},
		{0, 0, 0},
		{0, -5, 5},
		{5, 0, 5},
		{least, 0, 1 << 63},
		{0, least, 1 << 63},
		{least, least, 1 << 63},
		{least, most, 1},
		{least, -1, 1},
		{least, 96, 32},
		{most, most, most},
		{most, 0, most},
	}
	for _, r := range rows {
		if got := Gcd(r.a, r.b); got != r.want {
			t.Errorf("Gcd(%d, %d) = %d; want %d", r.a, r.b, got, r.want)
		}
	}
}

func TestLcmAtTheEdges(t *testing.T) {
	checkRows(t, "Lcm", Lcm, []row{
		{4, 6, 12, true},
		{-4, 6, 12, true},
		{-4, -6, 12, true},
		{0, 0, 0, true},
		{0, least, 0, true},
		{least, 0, 0, true},
		{least, 1, 0, false},
		{least, least, 0, false},
		{-1 << 62, 1 << 61, 1 << 62, true},
		{1 << 62, 3, 0, false},
		{most, most, most, true},
		{most, 7, most, true},
		{most, 2, 0, false},
		{most, most - 1, 0, false},
		{-most, 1, most, true},
	})
}

func TestGcdAndLcmAreExact(t *testing.T) {
	pairs(func(a, b int) {
		exact := new(big.Int).GCD(nil, nil, bigAmount(a), bigAmount(b))
		gcd := new(big.Int).SetUint64(Gcd(a, b))
		if gcd.Cmp(exact) != 0 {
			t.Fatalf("Gcd(%d, %d) = %v; want %v", a, b, gcd, exact)
		}
		product := new(big.Int).Mul(bigAmount(a), bigAmount(b))
		multiple := new(big.Int)
		if product.Sign() != 0 {
			multiple.Div(product, exact)
		}
		n, ok := Lcm(a, b)
		same(t, "Lcm", a, b, n, ok, multiple)
		if ok && new(big.Int).Mul(bigOf(n), gcd).Cmp(product) != 0 {
			t.Fatalf("Lcm(%d, %d) = %d, Gcd %v", a, b, n, gcd)
		}
	})
}

func TestEveryCommonDivisorDividesGcd(t *testing.T) {
	for a := -40; a <= 40; a++ {
		for b := -40; b <= 40; b++ {
			if a == 0 && b == 0 {
				continue
			}
			g := int(Gcd(a, b))
			if g < 1 || a%g != 0 || b%g != 0 {
				t.Fatalf("Gcd(%d, %d) = %d", a, b, g)
			}
			for d := 1; d <= 40; d++ {
				if a%d == 0 && b%d == 0 && g%d != 0 {
					t.Fatalf("%d divides %d and %d, not their Gcd %d", d, a, b, g)
				}
			}
		}
	}
}

// P1.1: shifts by any n, great ones included.

func TestShiftAtTheEdges(t *testing.T) {
	checkRows(t, "Shift", Shift, []row{
		{3, 4, 48, true},
		{-3, 4, -48, true},
		{5, 0, 5, true},
		{least, 0, least, true},
		{most, 0, most, true},
		{-3, -1, -2, true},
		{3, -1, 1, true},
		{1, 62, 1 << 62, true},
		{1, 63, 0, false},
		{-1, 63, least, true},
		{-1, 64, 0, false},
		{1, 64, 0, false},
		{2, 62, 0, false},
		{-2, 62, least, true},
		{-3, 62, 0, false},
		{most, 1, 0, false},
		{least, 1, 0, false},
		{1 << 62, 1, 0, false},
		{-1 << 62, 1, least, true},
		{0, 99, 0, true},
		{0, most, 0, true},
		{0, least, 0, true},
		{1, most, 0, false},
		{-1, most, 0, false},
		{1, 1 << 32, 0, false},
		{1, 256, 0, false},
		{5, -256, 0, true},
		{-5, -(1 << 32), -1, true},
		{most, least, 0, true},
		{least, least, -1, true},
		{-1, least, -1, true},
		{least, -63, -1, true},
		{least, -62, -2, true},
		{most, -62, 1, true},
		{most, -63, 0, true},
		{most, -64, 0, true},
		{least, -64, -1, true},
	})
}

func TestShiftIsExact(t *testing.T) {
	for _, a := range edges() {
		for n := 0; n <= 140; n++ {
			got, ok := Shift(a, n)
			same(t, "Shift", a, n, got, ok, new(big.Int).Lsh(bigOf(a), uint(n)))
			got, ok = Shift(a, -n)
			same(t, "Shift", a, -n, got, ok, new(big.Int).Rsh(bigOf(a), uint(n)))
		}
	}
}
