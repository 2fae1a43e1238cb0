package sum_test

import (
	"encoding/binary"
	"hash/fnv"
	"math"
	"math/big"
	"slices"
	"testing"

	"ballast/api"
	"ballast/sum"
	"ballast/word"
)

const first uint64 = 14695981039346656037

// states has states at both ends, the first one, and mixed ones.
var states = []uint64{
	0, 1, 2, 97, 0xff, 0x100, 1099511628211, 1<<32 - 1, 1 << 32, 1<<63 - 1, 1 << 63,
	0x0123456789abcdef, 0xfedcba9876543210, first - 1, first, first + 1, math.MaxUint64 - 1, math.MaxUint64,
}

// some returns so many words that all differ, with room behind them that is not theirs.
func some(words int) []uint64 {
	l := make([]uint64, words, words+16)
	for i := range l[:cap(l)] {
		l[:cap(l)][i] = 0x9e3779b97f4a7c15 * uint64(i+1)
	}
	return l
}

// same returns so many times one word.
func same(w uint64, words int) []uint64 {
	return slices.Repeat([]uint64{w}, words)
}

// lists returns words of many kinds, made anew by each call.
func lists() [][]uint64 {
	l := [][]uint64{
		nil, {}, {0}, {1}, {97}, {0xff}, {0x100}, {97 << 56}, {1 << 63}, {math.MaxUint64},
		{0, 0}, {0, 1}, {1, 0}, {1, 2}, {2, 1}, {0x0123456789abcdef, 0xfedcba9876543210},
		{first}, {first, first}, same(0, 7), same(math.MaxUint64, 8), {5, 0, 0, 0}, {0, 0, 0, 5},
	}
	for _, words := range []int{3, 7, 8, 9, 64, 255, 256, 1000, 2047, 2048} {
		l = append(l, some(words))
	}
	return append(l, same(0, 2048), same(math.MaxUint64, 2048))
}

// tooMany returns lists with more words than are allowed.
func tooMany() [][]uint64 {
	return [][]uint64{some(2049), same(0, 2049), some(2050), some(4096), some(2048)[:2049], same(1, 1<<17)}
}

// behind returns, as the chapter defines it, the state behind words.
func behind(state uint64, l []uint64) uint64 {
	s, modulus, factor, byteValues := new(big.Int).SetUint64(state), new(big.Int).Lsh(big.NewInt(1), 64), big.NewInt(1099511628211), big.NewInt(256)
	for _, w := range l {
		left := new(big.Int).SetUint64(w)
		for range 8 {
			lowest := new(big.Int)
			left.DivMod(left, byteValues, lowest)
			s.Xor(s, lowest)
			s.Mul(s, factor)
			s.Mod(s, modulus)
		}
	}
	return s.Uint64()
}

// lowOf returns the lowest bits of a sum, so many.
func lowOf(s uint64, width int) uint64 {
	r := uint64(0)
	for bit := range width {
		r += s & (1 << bit)
	}
	return r
}

// hashOf returns what the library's FNV-1a gives of words.
func hashOf(l []uint64) uint64 {
	h := fnv.New64a()
	for _, w := range l {
		h.Write(binary.LittleEndian.AppendUint64(nil, w))
	}
	return h.Sum64()
}

// widths has numbers that are widths of low parts, and others.
func widths() (right, wrong []int) {
	for n := 8; n <= 64; n++ {
		right = append(right, n)
	}
	wrong = []int{math.MinInt, math.MinInt + 1, -1 << 32, -64, -8, 128, 256, 1 << 31, 1 << 32, 1<<32 + 8, 1<<32 + 64, math.MaxInt - 1, math.MaxInt}
	for n := -2; n < 8; n++ {
		wrong = append(wrong, n)
	}
	for n := 65; n <= 73; n++ {
		wrong = append(wrong, n)
	}
	return right, wrong
}

// otherByte returns words that differ from some in one byte, that with a place in one word.
func otherByte(l []uint64, at, place int, x byte) []uint64 {
	r := slices.Clone(l)
	b := word.Bytes(r[at])
	b[place] = x
	r[at] = word.Of(b)
	return r
}

func next(t *testing.T, state uint64, l []uint64) uint64 {
	t.Helper()
	s, e := sum.Next(state, l)
	if e != api.OK {
		t.Fatalf("Next(%#x, %d words): %v", state, len(l), e)
	}
	return s
}

func of(t *testing.T, l []uint64) uint64 {
	t.Helper()
	s, e := sum.Of(l)
	if e != api.OK {
		t.Fatalf("Of(%d words): %v", len(l), e)
	}
	return s
}

func low(t *testing.T, l []uint64, width int) uint64 {
	t.Helper()
	v, e := sum.Low(l, width)
	if e != api.OK {
		t.Fatalf("Low(%d words, %d): %v", len(l), width, e)
	}
	return v
}

// The chapter's examples; a word with the byte 97 takes seven more steps, with bytes 0.
func TestExamples(t *testing.T) {
	for _, state := range states {
		if s := next(t, state, nil); s != state {
			t.Errorf("Next(%#x) of no words = %#x", state, s)
		}
	}
	if s := of(t, nil); s != 14695981039346656037 {
		t.Errorf("Of no words = %d", s)
	}
	want := uint64(12638187200555641996)
	for range 7 {
		want *= 1099511628211
	}
	if s := of(t, []uint64{97}); s != want {
		t.Errorf("Of 97 = %d; want %d", s, want)
	}
}

// P5.1: Next by numbers that were found in another way, so that it does not hang on the definition above.
func TestNextByHand(t *testing.T) {
	for _, x := range []struct {
		state uint64
		l     []uint64
		want  uint64
	}{
		{first, []uint64{0}, 0xa8c7f832281a39c5},
		{first, []uint64{1}, 0x89cd31291d2aefa4},
		{first, []uint64{97}, 0x6926124a7b1433c4},
		{first, []uint64{97 << 56}, 0xa8c81732281a6e72},
		{first, []uint64{0, 0}, 0x88201fb960ff6465},
		{first, []uint64{math.MaxUint64}, 0x8cf51a8bfca3883d},
		{0, []uint64{0}, 0},
		{0, []uint64{1}, 0x1efac7090aef4a21},
		{0, []uint64{1, 2}, 0x8cf3a3da28f3ac83},
		{1, []uint64{0x0123456789abcdef, 0xfedcba9876543210}, 0xc5f666efb702ae21},
		{9, []uint64{1, 2}, 0xb5e63c52ae87564a},
		{1099511628211, []uint64{97}, 0x53c86f75e794f012},
		{math.MaxUint64, []uint64{math.MaxUint64}, 0x919ed7123fe5d057},
		{first, same(0, 2048), 0x9c1bda7f8c872325},
		{first, same(math.MaxUint64, 2048), 0x0d65b7532d396325},
	} {
		if s := next(t, x.state, x.l); s != x.want {
			t.Errorf("Next(%#x, %d words) = %#x; want %#x", x.state, len(x.l), s, x.want)
		}
	}
}

// P5.1: Next, from many states on, behind words of many kinds.
func TestNext(t *testing.T) {
	for _, l := range lists() {
		for _, state := range states {
			if s, want := next(t, state, l), behind(state, l); s != want {
				t.Fatalf("Next(%#x, %d words) = %#x; want %#x", state, len(l), s, want)
			}
		}
	}
}

// P5.1: Next behind one word, for all values of each of its bytes.
func TestNextBytes(t *testing.T) {
	for _, state := range []uint64{0, 0xfedcba9876543210, first, math.MaxUint64} {
		for place := range 8 {
			for x := range 256 {
				l := otherByte([]uint64{0x0123456789abcdef}, 0, place, byte(x))
				if s, want := next(t, state, l), behind(state, l); s != want {
					t.Fatalf("Next(%#x, %#x) = %#x; want %#x", state, l[0], s, want)
				}
			}
		}
	}
}

// P5.2: Of by texts, eight bytes a word, of which FNV-1a is known.
func TestOfTexts(t *testing.T) {
	for _, x := range []struct {
		text string
		want uint64
	}{
		{"", 0xcbf29ce484222325},
		{"ballast!", 0x4afc1e3c7eb80223},
		{"chongo was here!", 0x858e2fa32a55e61d},
		{"The quick brown fox jumps over a", 0x62fbfb1b8067e434},
	} {
		var l []uint64
		for i := 0; i < len(x.text); i += 8 {
			l = append(l, binary.LittleEndian.Uint64([]byte(x.text[i:])))
		}
		if s := of(t, l); s != x.want {
			t.Errorf("Of %q = %#x; want %#x", x.text, s, x.want)
		}
	}
}

// P5.2: Of is the state behind words from the first state on, which is FNV-1a of their bytes.
func TestOf(t *testing.T) {
	for _, l := range lists() {
		s := of(t, l)
		if want := behind(first, l); s != want {
			t.Fatalf("Of %d words = %#x; want %#x", len(l), s, want)
		}
		if want := hashOf(l); s != want {
			t.Fatalf("Of %d words = %#x; FNV-1a of their bytes is %#x", len(l), s, want)
		}
		if want := next(t, first, l); s != want {
			t.Fatalf("Of %d words = %#x; Next from the first state on is %#x", len(l), s, want)
		}
	}
}

// P5.2: Low, for all widths.
func TestLow(t *testing.T) {
	right, _ := widths()
	for _, l := range lists() {
		s := hashOf(l)
		for _, width := range right {
			if v, want := low(t, l, width), lowOf(s, width); v != want {
				t.Fatalf("Low(%d words, %d) = %#x; want %#x", len(l), width, v, want)
			}
		}
	}
}

// P5.2: Low by hand; the sum of no words is 0xcbf29ce484222325.
func TestLowByHand(t *testing.T) {
	for width, want := range map[int]uint64{
		8: 0x25, 9: 0x125, 10: 0x325, 12: 0x325, 13: 0x325, 14: 0x2325, 16: 0x2325, 17: 0x2325, 18: 0x22325,
		31: 0x4222325, 32: 0x84222325, 48: 0x9ce484222325, 58: 0x3f29ce484222325, 63: 0x4bf29ce484222325, 64: 0xcbf29ce484222325,
	} {
		if v := low(t, nil, width); v != want {
			t.Errorf("Low(no words, %d) = %#x; want %#x", width, v, want)
		}
	}
}

// P5.2: ErrArg for what is no width of a low part, and nothing else is given.
func TestLowArg(t *testing.T) {
	_, wrong := widths()
	for _, l := range lists() {
		for _, width := range wrong {
			if v, e := sum.Low(l, width); v != 0 || e != api.ErrArg {
				t.Fatalf("Low(%d words, %d) = %#x, %v; want 0, ErrArg", len(l), width, v, e)
			}
		}
	}
}

// P5.1, P5.2: ErrMany for more than 2048 words, also (R1) before what is no width, and nothing else is given.
func TestMany(t *testing.T) {
	right, wrong := widths()
	for _, l := range tooMany() {
		for _, state := range states {
			if s, e := sum.Next(state, l); s != 0 || e != api.ErrMany {
				t.Fatalf("Next(%#x, %d words) = %#x, %v; want 0, ErrMany", state, len(l), s, e)
			}
		}
		if s, e := sum.Of(l); s != 0 || e != api.ErrMany {
			t.Fatalf("Of %d words = %#x, %v; want 0, ErrMany", len(l), s, e)
		}
		for _, width := range append(right, wrong...) {
			if v, e := sum.Low(l, width); v != 0 || e != api.ErrMany {
				t.Fatalf("Low(%d words, %d) = %#x, %v; want 0, ErrMany", len(l), width, v, e)
			}
		}
	}
}

// P5.3: the state behind words, and then behind others, is that behind all of them.
func TestParts(t *testing.T) {
	for _, l := range lists() {
		for cut := 0; cut <= len(l); cut += 1 + cut/8 {
			for _, state := range states {
				if parts, all := next(t, next(t, state, l[:cut]), l[cut:]), next(t, state, l); parts != all {
					t.Fatalf("%d words and then %d from %#x on: %#x; together %#x", cut, len(l)-cut, state, parts, all)
				}
			}
			if parts, all := next(t, of(t, l[:cut]), l[cut:]), of(t, l); parts != all {
				t.Fatalf("the sum of %d words, and then %d: %#x; together %#x", cut, len(l)-cut, parts, all)
			}
		}
	}
	s := uint64(5)
	for _, w := range some(300) {
		s = next(t, s, []uint64{w})
	}
	if all := next(t, 5, some(300)); s != all {
		t.Fatalf("300 words, one by one: %#x; together %#x", s, all)
	}
}

// P5.3: words that differ in one byte alone have sums whose low parts differ, for each width; the least one tells for all.
func TestEachByteMatters(t *testing.T) {
	for _, words := range []int{1, 2, 3, 7, 40} {
		l := some(words)
		for at := range l {
			for place := range 8 {
				for _, flip := range []byte{1, 2, 0x10, 0x80, 0xff} {
					other := otherByte(l, at, place, word.Bytes(l[at])[place]^flip)
					for width := 8; width <= 64; width++ {
						if low(t, l, width) == low(t, other, width) {
							t.Fatalf("%d words, the byte %d of the word %d changed by %#x: the low part of %d bits stays", words, place, at, flip, width)
						}
					}
				}
			}
		}
	}
}

// P5.3: words that differ in one byte alone have different states behind them, from the same state on, for all values of the byte.
func TestEachValueMatters(t *testing.T) {
	for _, state := range states {
		for place := range 8 {
			seen := map[uint64]bool{}
			for x := range 256 {
				seen[next(t, state, otherByte([]uint64{7, 8, 9}, 1, place, byte(x)))] = true
			}
			if len(seen) != 256 {
				t.Fatalf("from %#x on, the byte %d: %d states behind 256 values", state, place, len(seen))
			}
		}
	}
}

// P5.3: among as many words as are allowed each one matters, also the first and the last one.
func TestEachWordMatters(t *testing.T) {
	l := some(2048)
	for at := 0; at < len(l); at++ {
		if at > 20 && at < 2030 && at%97 != 0 {
			continue
		}
		for place := range 8 {
			other := otherByte(l, at, place, word.Bytes(l[at])[place]+1)
			if next(t, 3, l) == next(t, 3, other) || low(t, l, 8) == low(t, other, 8) || low(t, l, 58) == low(t, other, 58) {
				t.Fatalf("the byte %d of the word %d of 2048 makes no difference", place, at)
			}
		}
	}
}

// P5.3: different states stay different behind the same words.
func TestStatesStayDifferent(t *testing.T) {
	from := slices.Clone(states)
	for bit := range 64 {
		from = append(from, 1<<bit^0x5a5a5a5a5a5a5a5a)
	}
	for _, l := range lists() {
		seen := map[uint64]uint64{}
		for _, state := range from {
			s := next(t, state, l)
			if other, ok := seen[s]; ok {
				t.Fatalf("behind %d words %#x and %#x both are %#x", len(l), other, state, s)
			}
			seen[s] = state
		}
	}
}

// P1, R2: arguments are not modified, up to their capacity, and nothing is kept from call to call.
func TestArgumentsStayAndNothingIsKept(t *testing.T) {
	for i, l := range lists() {
		s, n, v := of(t, l), next(t, 9, l), low(t, l, 32)
		for _, other := range append(lists(), tooMany()...) {
			sum.Next(s, other)
			sum.Of(other)
			sum.Low(other, 8)
			sum.Low(other, 65)
		}
		if of(t, l) != s || next(t, 9, l) != n || low(t, l, 32) != v {
			t.Fatalf("list %d: behind other calls the same calls give something else", i)
		}
		was := lists()[i]
		if len(l) != len(was) || !slices.Equal(l[:min(cap(l), cap(was))], was[:min(cap(l), cap(was))]) {
			t.Fatalf("list %d was modified", i)
		}
	}
}

// P1, R2: words between the length and the capacity of a list make no difference.
func TestRoomBehind(t *testing.T) {
	for _, words := range []int{0, 1, 9, 2048} {
		one, two := some(words), slices.Clip(some(words))
		for i := len(one); i < cap(one); i++ {
			one[:cap(one)][i] = 0
		}
		if of(t, one) != of(t, two) || next(t, 4, one) != next(t, 4, two) || low(t, one, 20) != low(t, two, 20) {
			t.Errorf("%d words with room behind them have another sum", words)
		}
	}
}

// P1, R3: no words are the same, nil or empty.
func TestNoWords(t *testing.T) {
	for _, l := range [][]uint64{nil, {}, some(0), some(2049)[:0]} {
		if next(t, 77, l) != 77 || of(t, l) != first || low(t, l, 16) != 0x2325 {
			t.Errorf("no words: %#x, %#x, %#x", next(t, 77, l), of(t, l), low(t, l, 16))
		}
	}
}
