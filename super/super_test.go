package super_test

import (
	"encoding/binary"
	"hash/fnv"
	"math"
	"slices"
	"testing"

	"ballast/api"
	"ballast/super"
)

// Numbers around those of valid superblocks, and far from them.
var far = []int{
	math.MinInt, math.MinInt + 1, math.MinInt + 256, -1 << 32, -1<<32 + 256, -2048, -512, -256, -9, -8, -7, -2, -1,
	0, 1, 7, 8, 9, 10, 16, 128, 247, 248, 249, 255, 256, 257, 260, 263, 264, 265, 2040, 2047, 2048, 2049, 2052, 2055, 2056, 2057, 4096,
	1 << 31, 1 << 32, 1<<32 + 2, 1<<32 + 256, math.MaxInt - 255, math.MaxInt - 7, math.MaxInt - 1, math.MaxInt,
}

// valid returns all valid superblocks, counted up by the definition.
func valid() []api.Super {
	var l []api.Super
	for words := 256; words <= 2048; words += 8 {
		for types := 0; types <= 8; types++ {
			l = append(l, api.Super{Words: words, Types: types})
		}
	}
	return l
}

// some returns a few valid superblocks, those at all ends with them.
func some() []api.Super {
	return []api.Super{
		{Words: 256}, {Words: 256, Types: 2}, {Words: 256, Types: 8}, {Words: 264, Types: 1},
		{Words: 512, Types: 3}, {Words: 1024, Types: 5}, {Words: 2040, Types: 7}, {Words: 2048}, {Words: 2048, Types: 8},
	}
}

// bad returns superblocks that are not valid: for their words, for their types, and for both.
func bad() []api.Super {
	isValid := map[api.Super]bool{}
	for _, s := range valid() {
		isValid[s] = true
	}
	var l []api.Super
	for _, words := range far {
		for _, types := range far {
			if s := (api.Super{Words: words, Types: types}); !isValid[s] {
				l = append(l, s)
			}
		}
	}
	return l
}

// sealed returns words and, behind them, their sum, by the library's FNV-1a.
func sealed(l ...uint64) []uint64 {
	h := fnv.New64a()
	for _, w := range l {
		h.Write(binary.LittleEndian.AppendUint64(nil, w))
	}
	return append(slices.Clone(l), h.Sum64())
}

// wordsOf returns, as the chapter defines them, the words of a superblock.
func wordsOf(s api.Super) []uint64 {
	return sealed(0x7473616c6c6162, 1, uint64(s.Words), uint64(s.Types), 0, 0, 0)
}

// otherByte returns words that differ from some in one byte, which is changed where flip has ones.
func otherByte(l []uint64, at, place int, flip byte) []uint64 {
	r := slices.Clone(l)
	r[at] ^= uint64(flip) << (8 * place)
	return r
}

// roomy returns words with room behind them that is not theirs.
func roomy(l []uint64) []uint64 {
	r := append(slices.Clone(l), 7, 77, 777, 7777)
	return r[:len(l)]
}

func write(t *testing.T, s api.Super) []uint64 {
	t.Helper()
	l, e := super.Write(s)
	if e != api.OK {
		t.Fatalf("Write(%v): %v", s, e)
	}
	return l
}

func read(t *testing.T, l []uint64) api.Super {
	t.Helper()
	s, e := super.Read(l)
	if e != api.OK {
		t.Fatalf("Read(%#x): %v", l, e)
	}
	return s
}

// noRead fails unless words are those of no superblock, and nothing but that is given.
func noRead(t *testing.T, l []uint64, want api.Errno) {
	t.Helper()
	if s, e := super.Read(l); s != (api.Super{}) || e != want {
		t.Fatalf("Read(%#x) = %v, %v; want no superblock, %v", l, s, e, want)
	}
}

// The chapter's example.
func TestExample(t *testing.T) {
	l := write(t, api.Super{Words: 256, Types: 2})
	if want := []uint64{0x7473616c6c6162, 1, 256, 2, 0, 0, 0}; !slices.Equal(l[:7], want) {
		t.Errorf("Write begins with %#x; want %#x", l[:7], want)
	}
	l[3] = 3
	noRead(t, l, api.ErrCorrupt)
}

// P6.1: Check and Write, for all valid superblocks.
func TestValid(t *testing.T) {
	l := valid()
	if len(l) != 225*9 {
		t.Fatalf("%d valid superblocks", len(l))
	}
	for _, s := range l {
		if e := super.Check(s); e != api.OK {
			t.Fatalf("Check(%v): %v", s, e)
		}
		if w, want := write(t, s), wordsOf(s); !slices.Equal(w, want) {
			t.Fatalf("Write(%v) = %#x; want %#x", s, w, want)
		}
	}
}

// P6.1: ErrBad for superblocks that are not valid, and Write gives nothing else.
func TestBad(t *testing.T) {
	for _, s := range bad() {
		if e := super.Check(s); e != api.ErrBad {
			t.Fatalf("Check(%v) = %v; want ErrBad", s, e)
		}
		if l, e := super.Write(s); l != nil || e != api.ErrBad {
			t.Fatalf("Write(%v) = %#x, %v; want nil, ErrBad", s, l, e)
		}
	}
}

// P6.1: by their definition, superblocks with all numbers around those that are valid.
func TestAround(t *testing.T) {
	for words := -20; words <= 2100; words++ {
		for types := -3; types <= 12; types++ {
			want := api.ErrBad
			if words >= 256 && words <= 2048 && words/8*8 == words && types >= 0 && types <= 8 {
				want = api.OK
			}
			s := api.Super{Words: words, Types: types}
			if e := super.Check(s); e != want {
				t.Fatalf("Check(%v) = %v; want %v", s, e, want)
			}
			if l, e := super.Write(s); e != want || len(l) != 0 && e != api.OK {
				t.Fatalf("Write(%v) = %#x, %v; want %v", s, l, e, want)
			}
		}
	}
}

// P6.1 and P6.2: words whose sums were found in another way, so that they do not hang on the definition above.
func TestByHand(t *testing.T) {
	for _, x := range []struct {
		words, types int
		sum          uint64
	}{
		{256, 0, 0x3e8a07b46b844b36},
		{256, 2, 0x33d8a1e72597ca34},
		{256, 8, 0x694f9ee983364f3e},
		{264, 0, 0x336a4e080219203e},
		{512, 3, 0x5326b61b1dbb8958},
		{1024, 5, 0x6c8ca5ae35330a78},
		{2040, 7, 0x327bcf20837de983},
		{2048, 0, 0xf4ad07c4f79a4e69},
		{2048, 8, 0xc9e7708fdfe84a61},
	} {
		s := api.Super{Words: x.words, Types: x.types}
		want := []uint64{0x7473616c6c6162, 1, uint64(x.words), uint64(x.types), 0, 0, 0, x.sum}
		if l := write(t, s); !slices.Equal(l, want) {
			t.Errorf("Write(%v) = %#x; want %#x", s, l, want)
		}
		if r := read(t, want); r != s {
			t.Errorf("Read(%#x) = %v; want %v", want, r, s)
		}
	}
}

// P6.2: Read, for the words of all valid superblocks.
func TestRead(t *testing.T) {
	for _, s := range valid() {
		if r := read(t, wordsOf(s)); r != s {
			t.Fatalf("Read(the words of %v) = %v", s, r)
		}
	}
}

// P6.2 and R1: ErrArg unless there are eight words, whatever they are.
func TestReadArg(t *testing.T) {
	for _, s := range some() {
		l := roomy(wordsOf(s))
		for n := range len(l) {
			noRead(t, l[:n], api.ErrArg)
			noRead(t, l[len(l)-n:], api.ErrArg)
		}
		noRead(t, l[:9], api.ErrArg)
		noRead(t, append(slices.Clone(l), 0), api.ErrArg)
		noRead(t, append([]uint64{0}, l...), api.ErrArg)
		noRead(t, append(slices.Clone(l), l...), api.ErrArg)
	}
	for _, n := range []int{0, 1, 7, 9, 16, 256, 2048, 2049, 1 << 16} {
		noRead(t, make([]uint64, n), api.ErrArg)
	}
}

// P6.2: ErrCorrupt for eight words with the right sum that begin in another way.
func TestReadHead(t *testing.T) {
	for _, magic := range []uint64{0, 1, 0x62616c6c617374, 0x62616c6c61737400, 0x7473616c6c6163, 0x217473616c6c6162, math.MaxUint64} {
		noRead(t, sealed(magic, 1, 256, 2, 0, 0, 0), api.ErrCorrupt)
	}
	for _, version := range []uint64{0, 2, 3, 256, 1<<32 + 1, 1<<63 + 1, math.MaxUint64} {
		noRead(t, sealed(api.Magic, version, 256, 2, 0, 0, 0), api.ErrCorrupt)
	}
	noRead(t, sealed(1, api.Magic, 256, 2, 0, 0, 0), api.ErrCorrupt)
	noRead(t, sealed(api.Magic, 1, 2, 256, 0, 0, 0), api.ErrCorrupt)
}

// P6.2: ErrCorrupt for eight words with the right sum whose numbers are those of no valid superblock.
func TestReadNumbers(t *testing.T) {
	for _, s := range bad() {
		noRead(t, wordsOf(s), api.ErrCorrupt)
	}
	for bit := 12; bit < 64; bit++ {
		noRead(t, sealed(api.Magic, 1, 1<<bit, 2, 0, 0, 0), api.ErrCorrupt)
		noRead(t, sealed(api.Magic, 1, 1<<bit+256, 2, 0, 0, 0), api.ErrCorrupt)
	}
	for bit := 4; bit < 64; bit++ {
		noRead(t, sealed(api.Magic, 1, 256, 1<<bit, 0, 0, 0), api.ErrCorrupt)
		noRead(t, sealed(api.Magic, 1, 256, 1<<bit+2, 0, 0, 0), api.ErrCorrupt)
	}
}

// P6.2: ErrCorrupt for eight words with the right sum of which one is not 0 where it should be.
func TestReadRest(t *testing.T) {
	for _, s := range some() {
		for at := 4; at < 7; at++ {
			for bit := range 64 {
				l := wordsOf(s)[:7]
				l[at] = 1 << bit
				noRead(t, sealed(l...), api.ErrCorrupt)
			}
		}
	}
}

// P6.2: ErrCorrupt for eight words whose last one is not the sum of those in front of it, by FNV-1a, and of nothing else.
func TestReadSum(t *testing.T) {
	noRead(t, make([]uint64, 8), api.ErrCorrupt)
	noRead(t, slices.Repeat([]uint64{math.MaxUint64}, 8), api.ErrCorrupt)
	for _, s := range some() {
		l := wordsOf(s)
		right := l[7]
		for _, wrong := range []uint64{
			0, 1, right + 1, right - 1, ^right, right << 1, right & (1<<32 - 1), right &^ 1,
			sealed()[0], sealed(l[:4]...)[4], sealed(l[:6]...)[6], sealed(append(l[:7:7], 0)...)[8], math.MaxUint64,
		} {
			l[7] = wrong
			if wrong != right {
				noRead(t, l, api.ErrCorrupt)
			}
		}
	}
	for _, s := range some() {
		for _, other := range some() {
			if s != other {
				noRead(t, append(wordsOf(s)[:7], wordsOf(other)[7]), api.ErrCorrupt)
			}
		}
	}
}

// P6.2: the words in other orders are those of no superblock.
func TestReadOrder(t *testing.T) {
	for _, s := range some() {
		for i := range 8 {
			for j := range i {
				l := wordsOf(s)
				if l[i], l[j] = l[j], l[i]; !slices.Equal(l, wordsOf(s)) {
					noRead(t, l, api.ErrCorrupt)
				}
			}
		}
	}
}

// P6.3: what is written is read as it, and what is read has just these words.
func TestOneForm(t *testing.T) {
	for _, s := range valid() {
		l := write(t, s)
		if len(l) != 8 {
			t.Fatalf("Write(%v) gives %d words", s, len(l))
		}
		r := read(t, l)
		if r != s {
			t.Fatalf("%v was written, and %v is read", s, r)
		}
		if again := write(t, r); !slices.Equal(again, l) {
			t.Fatalf("%#x was read, and %#x is written", l, again)
		}
	}
}

// P6.3: different superblocks have different words, also different sums, and the same first two words.
func TestDifferent(t *testing.T) {
	words, sums := map[[8]uint64]api.Super{}, map[uint64]api.Super{}
	for _, s := range valid() {
		l := [8]uint64(write(t, s))
		if other, ok := words[l]; ok {
			t.Fatalf("%v and %v have the same words", s, other)
		}
		if other, ok := sums[l[7]]; ok {
			t.Fatalf("%v and %v have the same sum", s, other)
		}
		words[l], sums[l[7]] = s, s
		if l[0] != api.Magic || l[1] != api.Version {
			t.Fatalf("the words of %v begin with %#x", s, l[:2])
		}
	}
}

// P6.3: with one byte that is another one, in any of the words, they are those of no superblock: all values of each byte.
func TestOtherByte(t *testing.T) {
	for _, s := range some() {
		l := write(t, s)
		for at := range l {
			for place := range 8 {
				for flip := 1; flip < 256; flip++ {
					noRead(t, otherByte(l, at, place, byte(flip)), api.ErrCorrupt)
				}
			}
		}
	}
}

// P6.3: the same for all superblocks, with some values of each byte.
func TestOtherByteOfAll(t *testing.T) {
	for _, s := range valid() {
		l := write(t, s)
		for at := range l {
			for place := range 8 {
				for _, flip := range []byte{1, 8, 0x80, 0xff} {
					noRead(t, otherByte(l, at, place, flip), api.ErrCorrupt)
				}
			}
		}
	}
}

// P6.3: two words of which one byte each is another one, the other numbers of a superblock among them, need the other sum as well.
func TestTwoBytes(t *testing.T) {
	l := write(t, api.Super{Words: 256, Types: 2})
	for words := range 256 {
		for types := range 256 {
			if words == 0 && types == 0 {
				continue
			}
			noRead(t, otherByte(otherByte(l, 2, 0, byte(words)), 3, 0, byte(types)), api.ErrCorrupt)
			noRead(t, otherByte(otherByte(l, 2, 1, byte(words)), 3, 0, byte(types)), api.ErrCorrupt)
		}
	}
}

// P1, R2: words are not modified, up to their capacity, and those behind them make no difference.
func TestArgumentsStay(t *testing.T) {
	for _, s := range some() {
		for _, l := range [][]uint64{wordsOf(s), otherByte(wordsOf(s), 5, 3, 9), wordsOf(s)[:7], append(wordsOf(s), 5)} {
			one, clipped := roomy(l), slices.Clip(slices.Clone(l))
			was := slices.Clone(one[:cap(one)])
			r, e := super.Read(one)
			other, otherE := super.Read(clipped)
			if r != other || e != otherE {
				t.Errorf("Read(%#x) = %v, %v; with room behind the words %v, %v", l, other, otherE, r, e)
			}
			if !slices.Equal(one[:cap(one)], was) {
				t.Errorf("Read modified %#x: %#x", was, one[:cap(one)])
			}
		}
	}
}

// P1, R2: results share no memory with each other, up to their capacity, and nothing is kept from call to call.
func TestNothingIsKept(t *testing.T) {
	for _, s := range some() {
		l := write(t, s)
		for i := range l[:cap(l)] {
			l[:cap(l)][i] = 99
		}
		for _, other := range some() {
			write(t, other)
			read(t, wordsOf(other))
			noRead(t, l, api.ErrCorrupt)
			super.Write(api.Super{Words: 9})
		}
		if slices.ContainsFunc(l, func(w uint64) bool { return w != 99 }) {
			t.Fatalf("the words of %v were changed by later calls: %v", s, l)
		}
		if again := write(t, s); !slices.Equal(again, wordsOf(s)) {
			t.Fatalf("Write(%v) gives something else behind other calls: %#x", s, again)
		}
		if r := read(t, wordsOf(s)); r != s {
			t.Fatalf("Read gives %v behind other calls; want %v", r, s)
		}
	}
}

// P1, R3: no words are the same, nil or empty.
func TestNoWords(t *testing.T) {
	for _, l := range [][]uint64{nil, {}, make([]uint64, 0, 8), wordsOf(api.Super{Words: 256})[:0]} {
		noRead(t, l, api.ErrArg)
	}
}
