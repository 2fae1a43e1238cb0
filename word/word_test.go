package word_test

import (
	"math"
	"math/big"
	"testing"

	"ballast/api"
	"ballast/word"
)

// Some words: both ends, single bits at the ends of halves and bytes, and mixed ones.
var words = []uint64{
	0, 1, 2, 0x80, 0xff, 0x100, 0x1234, 1<<31 - 1, 1 << 31, 1<<32 - 1, 1 << 32,
	0x5555555555555555, 0xaaaaaaaaaaaaaaaa, 0x0123456789abcdef, 0xfedcba9876543210,
	1<<63 - 1, 1 << 63, math.MaxUint64 - 1, math.MaxUint64,
}

// Numbers that may or may not be the first bit or the width of a field.
func numbers() []int {
	l := []int{math.MinInt, math.MinInt + 1, -64, math.MaxInt - 63, math.MaxInt - 1, math.MaxInt, 1 << 32, 1<<32 + 1}
	for n := -2; n <= 67; n++ {
		l = append(l, n)
	}
	return l
}

func isField(from, width int) bool {
	for f := 0; f <= 63; f++ {
		for n := 1; n <= 64-f; n++ {
			if f == from && n == width {
				return true
			}
		}
	}
	return false
}

func number(w uint64) *big.Int { return new(big.Int).SetUint64(w) }

func power(n int) *big.Int { return new(big.Int).Exp(big.NewInt(2), big.NewInt(int64(n)), nil) }

// value is the value of a field by its definition: divided, rounded down, and modulo.
func value(w uint64, from, width int) uint64 {
	n := new(big.Int).Div(number(w), power(from))
	return n.Mod(n, power(width)).Uint64()
}

// changed is a word whose field became v, by its definition: its bits alone are others.
func changed(w uint64, from, width int, v uint64) uint64 {
	n := number(w)
	n.Sub(n, new(big.Int).Mul(number(value(w, from, width)), power(from)))
	return n.Add(n, new(big.Int).Mul(number(v), power(from))).Uint64()
}

func fits(v uint64, width int) bool { return number(v).Cmp(power(width)) < 0 }

func eachField(do func(from, width int)) {
	for from := 0; from <= 63; from++ {
		for width := 1; width <= 64-from; width++ {
			do(from, width)
		}
	}
}

func get(t *testing.T, w uint64, from, width int) uint64 {
	t.Helper()
	v, e := word.Get(w, from, width)
	if e != api.OK {
		t.Fatalf("Get(%#x, %d, %d): %v", w, from, width, e)
	}
	return v
}

func set(t *testing.T, w uint64, from, width int, v uint64) uint64 {
	t.Helper()
	r, e := word.Set(w, from, width, v)
	if e != api.OK {
		t.Fatalf("Set(%#x, %d, %d, %#x): %v", w, from, width, v, e)
	}
	return r
}

// P1.1 and the examples of the chapter.
func TestExamples(t *testing.T) {
	if v, e := word.Get(0x1234, 4, 8); v != 0x23 || e != api.OK {
		t.Errorf("Get: %#x, %v", v, e)
	}
	if w, e := word.Set(0x1234, 4, 8, 0xff); w != 0x1ff4 || e != api.OK {
		t.Errorf("Set: %#x, %v", w, e)
	}
	if b := word.Bytes(0x0102); b != [8]byte{2, 1} {
		t.Errorf("Bytes: %v", b)
	}
	if w := word.Of([8]byte{2, 1}); w != 0x0102 {
		t.Errorf("Of: %#x", w)
	}
}

// P1.1: Get, for all fields and for what is no field.
func TestGet(t *testing.T) {
	for _, from := range numbers() {
		for _, width := range numbers() {
			ok := isField(from, width)
			for _, w := range words {
				want, err := uint64(0), api.ErrArg
				if ok {
					want, err = value(w, from, width), api.OK
				}
				if v, e := word.Get(w, from, width); v != want || e != err {
					t.Fatalf("Get(%#x, %d, %d) = %#x, %v; want %#x, %v", w, from, width, v, e, want, err)
				}
			}
		}
	}
}

// P1.1: Set, for all fields, for values that fit and that do not.
func TestSet(t *testing.T) {
	eachField(func(from, width int) {
		for _, w := range words {
			for _, v := range valuesFor(width) {
				want, err := uint64(0), api.ErrRange
				if fits(v, width) {
					want, err = changed(w, from, width, v), api.OK
				}
				if r, e := word.Set(w, from, width, v); r != want || e != err {
					t.Fatalf("Set(%#x, %d, %d, %#x) = %#x, %v; want %#x, %v", w, from, width, v, r, e, want, err)
				}
			}
		}
	})
}

// valuesFor has values on both sides of 2 to the power of a width.
func valuesFor(width int) []uint64 {
	l := []uint64{0, 1, math.MaxUint64, 1 << 63, 0x0123456789abcdef}
	edge := power(width)
	for _, d := range []int64{-2, -1, 0, 1} {
		if n := new(big.Int).Add(edge, big.NewInt(d)); n.IsUint64() {
			l = append(l, n.Uint64())
		}
	}
	return append(l, value(0x0123456789abcdef, 0, width))
}

// P1.1: what is no field is told before a value that does not fit (R1), and nothing else is returned.
func TestSetArg(t *testing.T) {
	for _, from := range numbers() {
		for _, width := range numbers() {
			if isField(from, width) {
				continue
			}
			for _, v := range []uint64{0, 1, 2, math.MaxUint64} {
				if r, e := word.Set(0xfedcba9876543210, from, width, v); r != 0 || e != api.ErrArg {
					t.Fatalf("Set(.., %d, %d, %#x) = %#x, %v; want 0, ErrArg", from, width, v, r, e)
				}
			}
		}
	}
}

// P1.1: the edges by hand, so that they do not hang on the helpers above.
func TestEdges(t *testing.T) {
	const w = 0xfedcba9876543210
	for _, x := range []struct {
		from, width int
		v, got, set uint64
		getErr, err api.Errno
	}{
		{0, 64, 0, w, 0, api.OK, api.OK},
		{0, 64, math.MaxUint64, w, math.MaxUint64, api.OK, api.OK},
		{0, 65, 0, 0, 0, api.ErrArg, api.ErrArg},
		{1, 63, 1<<63 - 1, w >> 1, math.MaxUint64 - 1, api.OK, api.OK},
		{1, 63, 1 << 63, w >> 1, 0, api.OK, api.ErrRange},
		{1, 64, 1 << 63, 0, 0, api.ErrArg, api.ErrArg},
		{63, 1, 0, 1, 0x7edcba9876543210, api.OK, api.OK},
		{63, 1, 2, 1, 0, api.OK, api.ErrRange},
		{63, 2, 2, 0, 0, api.ErrArg, api.ErrArg},
		{64, 1, 0, 0, 0, api.ErrArg, api.ErrArg},
		{64, 0, 0, 0, 0, api.ErrArg, api.ErrArg},
		{0, 0, 0, 0, 0, api.ErrArg, api.ErrArg},
		{0, 1, 1, 0, w + 1, api.OK, api.OK},
		{-1, 1, 0, 0, 0, api.ErrArg, api.ErrArg},
		{-1, 65, 0, 0, 0, api.ErrArg, api.ErrArg},
		{1, -1, 9, 0, 0, api.ErrArg, api.ErrArg},
		{math.MinInt, math.MaxInt, 0, 0, 0, api.ErrArg, api.ErrArg},
		{1, math.MaxInt, 0, 0, 0, api.ErrArg, api.ErrArg},
	} {
		if v, e := word.Get(w, x.from, x.width); v != x.got || e != x.getErr {
			t.Errorf("Get %+v: %#x, %v", x, v, e)
		}
		if r, e := word.Set(w, x.from, x.width, x.v); r != x.set || e != x.err {
			t.Errorf("Set %+v: %#x, %v", x, r, e)
		}
	}
}

// P1.2: the bytes of a word are its fields of the width 8; Of is the word that has them.
func TestBytes(t *testing.T) {
	for _, w := range words {
		b := word.Bytes(w)
		for i, x := range b {
			if uint64(x) != value(w, 8*i, 8) {
				t.Errorf("Bytes(%#x)[%d] = %#x", w, i, x)
			}
		}
		if r := word.Of(b); r != w {
			t.Errorf("Of(%v) = %#x; want %#x", b, r, w)
		}
	}
	want := [8]byte{0xef, 0xcd, 0xab, 0x89, 0x67, 0x45, 0x23, 0x01}
	if b := word.Bytes(0x0123456789abcdef); b != want {
		t.Errorf("Bytes: %#x", b)
	}
	if w := word.Of(want); w != 0x0123456789abcdef {
		t.Errorf("Of: %#x", w)
	}
}

// P1.3: a field that was set has this value, and all bits outside of it stay.
func TestPackedAndUnpacked(t *testing.T) {
	eachField(func(from, width int) {
		for _, w := range words {
			v := value(^w*0x9e3779b97f4a7c15, 0, width)
			r := set(t, w, from, width, v)
			if g := get(t, r, from, width); g != v {
				t.Fatalf("%#x, %d, %d: %#x was set, it is %#x", w, from, width, v, g)
			}
			for bit := 0; bit < 64; bit++ {
				inside := bit >= from && bit < from+width
				if !inside && value(w, bit, 1) != value(r, bit, 1) {
					t.Fatalf("%#x, %d, %d: the bit %d is another", w, from, width, bit)
				}
			}
		}
	})
}

// P1.3: set to its own value nothing is changed; set twice it has the last one.
func TestSetAgain(t *testing.T) {
	eachField(func(from, width int) {
		for _, w := range words {
			if r := set(t, w, from, width, get(t, w, from, width)); r != w {
				t.Fatalf("%#x, %d, %d: its own value gives %#x", w, from, width, r)
			}
			first, last := value(^w, 0, width), value(w+0x0f1e2d3c4b5a6978, 0, width)
			twice := set(t, set(t, w, from, width, first), from, width, last)
			if once := set(t, w, from, width, last); twice != once {
				t.Fatalf("%#x, %d, %d: twice %#x, once %#x", w, from, width, twice, once)
			}
		}
	})
}

// P1.3: fields that do not overlap may be set in any order.
func TestAnyOrder(t *testing.T) {
	eachField(func(from, width int) {
		for other := from + width; other <= 63; other++ {
			n := 1 + (other*7+from)%(64-other)
			for _, w := range words[len(words)-4:] {
				a, b := value(^w, 0, width), value(0x5a5a5a5a5a5a5a5a, 0, n)
				one := set(t, set(t, w, from, width, a), other, n, b)
				two := set(t, set(t, w, other, n, b), from, width, a)
				if one != two || get(t, one, from, width) != a || get(t, one, other, n) != b {
					t.Fatalf("%#x: %d, %d and %d, %d: %#x and %#x", w, from, width, other, n, one, two)
				}
			}
		}
	})
}

// P1.3: words and bytes are a bijection; a word is the sum of its bytes, each one multiplied by 256 to the power of its place.
func TestBijection(t *testing.T) {
	for place := range 8 {
		for x := range 256 {
			b := [8]byte{1, 2, 3, 4, 0xfc, 0xfd, 0xfe, 0xff}
			b[place] = byte(x)
			sum := new(big.Int)
			for i, y := range b {
				sum.Add(sum, new(big.Int).Mul(big.NewInt(int64(y)), power(8*i)))
			}
			w := word.Of(b)
			if !sum.IsUint64() || w != sum.Uint64() {
				t.Fatalf("Of(%v) = %#x; want %#x", b, w, sum)
			}
			if r := word.Bytes(w); r != b {
				t.Fatalf("Bytes(Of(%v)) = %v", b, r)
			}
		}
	}
}

// P1: arguments are not modified, and nothing is kept from call to call (R2); with an error nothing happened (R1).
func TestNothingIsKept(t *testing.T) {
	b := [8]byte{1, 2, 3, 4, 5, 6, 7, 8}
	w := word.Of(b)
	first := word.Bytes(w)
	for _, x := range words {
		other := word.Bytes(x)
		other[0]++
		word.Of(other)
		word.Get(x, 64, 1)
		word.Set(x, 0, 1, 2)
		set(t, x, 0, 64, ^x)
		if word.Of(b) != w || word.Bytes(w) != first || b != first {
			t.Fatalf("behind calls with %#x: %v, %#x", x, b, word.Of(b))
		}
		if get(t, w, 8, 8) != 2 || set(t, w, 8, 8, 9) != 0x0807060504030901 {
			t.Fatalf("behind calls with %#x: another field", x)
		}
	}
}
