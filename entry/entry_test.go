package entry_test

import (
	"math"
	"slices"
	"testing"

	"ballast/api"
	"ballast/entry"
)

// The numbers of words that a valid image may have, counted up by the definition of layer 2.
func sizes() []int {
	var l []int
	for words := 256; words <= 2048; words += 8 {
		l = append(l, words)
	}
	return l
}

// A few of them, those at both ends with them.
var someSizes = []int{256, 264, 520, 1024, 2040, 2048}

// Numbers of words that are none of an image.
var noSizes = []int{
	0, 1, 8, 15, 16, 24, 96, 128, 131, 248, 252, 255, 257, 260, 263, 1025, 2044, 2047, 2049, 2052, 2056, 4096, 1 << 32, 1<<32 + 256, math.MaxInt - 7, math.MaxInt,
	-1, -8, -256, -2048, math.MinInt, math.MinInt + 256,
}

// Numbers that are no address of any image.
var noAddresses = []int{-1, -2, -8, -16, -130, -256, 2048, 2049, 1 << 16, 1 << 31, 1<<32 + 130, math.MaxInt, math.MaxInt - 130, math.MinInt, math.MinInt + 130}

// addresses returns all addresses that may be changed on a device of so many words: those of the phase line, and all behind the journal.
func addresses(words int) []int {
	l := []int{16, 17, 18, 19, 20, 21, 22, 23}
	for at := 96; at < words; at++ {
		l = append(l, at)
	}
	return l
}

// isImage says whether an image may have so many words.
func isImage(words int) bool { return words >= 256 && words <= 2048 && words%8 == 0 }

// value returns a value for a number; all of them differ.
func value(i int) uint64 { return 0x9e3779b97f4a7c15 * uint64(i+1) }

// some returns so many words that all differ.
func some(words int) []uint64 {
	l := make([]uint64, words)
	for i := range l {
		l[i] = value(i)
	}
	return l
}

// change returns n entries, with other values for another seed, whose addresses go around among those that may be changed with steps of a prime number, so that they are all different.
func change(words, n, seed int) []api.Entry {
	const prime = 9973
	may := addresses(words)
	var l []api.Entry
	for i := range n {
		l = append(l, api.Entry{At: may[(seed+i*prime)%len(may)], Value: value(5000 + 100*seed + i)})
	}
	return l
}

// roomy returns elements with room behind them that is not theirs.
func roomy[T any](l []T, other T) []T {
	r := append(slices.Clone(l), slices.Repeat([]T{other}, 20)...)
	return r[:len(l)]
}

// replaced returns elements with another one in the place of that with an index.
func replaced[T any](l []T, i int, v T) []T {
	r := slices.Clone(l)
	r[i] = v
	return r
}

// journal returns an image with words in its journal.
func journal(m []uint64, w []uint64) []uint64 {
	r := slices.Clone(m)
	copy(r[32:96], w)
	return r
}

// fault returns the error of a list of entries, by the chapter's definitions: each one is compared with all addresses that may be changed, and with all others.
func fault(l []api.Entry, words int) api.Errno {
	if !isImage(words) {
		return api.ErrArg
	}
	if len(l) > 32 {
		return api.ErrMany
	}
	may := addresses(words)
	for i, x := range l {
		if _, found := slices.BinarySearch(may, x.At); !found {
			return api.ErrBad
		}
		for j, y := range l {
			if i != j && x.At == y.At {
				return api.ErrBad
			}
		}
	}
	return api.OK
}

// flat returns addresses and values as words.
func flat(l []api.Entry) []uint64 {
	var w []uint64
	for _, x := range l {
		w = append(w, uint64(x.At))
		w = append(w, x.Value)
	}
	return w
}

// standing returns the entries that stand in a journal, and the error of reading them, by the chapter's definitions.
func standing(m []uint64, n int) ([]api.Entry, api.Errno) {
	if !isImage(len(m)) {
		return nil, api.ErrBad
	}
	if n < 0 || n > 32 {
		return nil, api.ErrArg
	}
	var l []api.Entry
	for i := range n {
		at, v := m[32+2*i], m[33+2*i]
		if at > 2047 {
			return nil, api.ErrCorrupt
		}
		l = append(l, api.Entry{At: int(at), Value: v})
	}
	if fault(l, len(m)) != api.OK {
		return nil, api.ErrCorrupt
	}
	return l, api.OK
}

// applied returns each word of an image after a change, looked for among its entries, and the error of applying it.
func applied(m []uint64, l []api.Entry) ([]uint64, api.Errno) {
	if !isImage(len(m)) {
		return nil, api.ErrBad
	}
	if e := fault(l, len(m)); e != api.OK {
		return nil, e
	}
	var r []uint64
	for at, v := range m {
		i := slices.IndexFunc(l, func(x api.Entry) bool { return x.At == at })
		if i >= 0 {
			v = l[i].Value
		}
		r = append(r, v)
	}
	return r, api.OK
}

// zeroIf fails if a result that comes with an error has elements.
func zeroIf[T any](t *testing.T, l []T, e api.Errno) {
	t.Helper()
	if e != api.OK && len(l) != 0 {
		t.Fatalf("with %v comes %v", e, l)
	}
}

// checkList fails unless Check and Words give for entries what they should, and returns the error.
func checkList(t *testing.T, l []api.Entry, words int) api.Errno {
	t.Helper()
	want := fault(l, words)
	if e := entry.Check(l, words); e != want {
		t.Fatalf("Check(%v, %d) = %v; want %v", l, words, e, want)
	}
	w, e := entry.Words(l, words)
	zeroIf(t, w, e)
	if e != want || e == api.OK && !slices.Equal(w, flat(l)) {
		t.Fatalf("Words(%v, %d) = %v, %v; want %v, %v", l, words, w, e, flat(l), want)
	}
	return want
}

// checkRead fails unless Read gives what it should, and returns that.
func checkRead(t *testing.T, m []uint64, n int) ([]api.Entry, api.Errno) {
	t.Helper()
	want, f := standing(m, n)
	l, e := entry.Read(m, n)
	zeroIf(t, l, e)
	if e != f || !slices.Equal(l, want) {
		t.Fatalf("Read(%d words, %d) = %v, %v; want %v, %v", len(m), n, l, e, want, f)
	}
	return want, f
}

// checkApply fails unless Apply gives what it should, and returns that.
func checkApply(t *testing.T, m []uint64, l []api.Entry) ([]uint64, api.Errno) {
	t.Helper()
	want, f := applied(m, l)
	r, e := entry.Apply(m, l)
	zeroIf(t, r, e)
	if e != f || !slices.Equal(r, want) {
		t.Fatalf("Apply(%d words, %v): %d words, %v; want %d words, %v", len(m), l, len(r), e, len(want), f)
	}
	return want, f
}

// The chapter's examples.
func TestExample(t *testing.T) {
	w, e := entry.Words([]api.Entry{{At: 130, Value: 5}, {At: 16, Value: 7}}, 256)
	if !slices.Equal(w, []uint64{130, 5, 16, 7}) || e != api.OK {
		t.Errorf("Words = %v, %v", w, e)
	}
	for at, want := range map[int]bool{24: false, 95: false, 23: true, 96: true} {
		if may, e := entry.May(at, 256); may != want || e != api.OK {
			t.Errorf("May(%d, 256) = %v, %v", at, may, e)
		}
	}
}

// P8.1: addresses at all ends, by hand.
func TestMayByHand(t *testing.T) {
	for _, x := range []struct {
		at, words int
		may       bool
	}{
		{0, 256, false}, {7, 256, false}, {8, 256, false}, {15, 256, false}, {16, 256, true}, {23, 256, true},
		{24, 256, false}, {25, 256, false}, {31, 256, false}, {32, 256, false}, {33, 2048, false}, {94, 256, false}, {95, 256, false},
		{96, 256, true}, {111, 256, true}, {112, 256, true}, {127, 256, true}, {128, 256, true}, {254, 256, true}, {255, 256, true},
		{256, 256, false}, {257, 256, false}, {256, 264, true}, {263, 264, true}, {264, 264, false},
		{2039, 2040, true}, {2040, 2040, false}, {2047, 2048, true}, {2048, 2048, false}, {-1, 2048, false}, {-16, 256, false},
	} {
		if may, e := entry.May(x.at, x.words); may != x.may || e != api.OK {
			t.Errorf("May(%d, %d) = %v, %v; want %v, OK", x.at, x.words, may, e, x.may)
		}
	}
}

// P8.1: all addresses of all sizes, and what is around them.
func TestMay(t *testing.T) {
	for _, words := range sizes() {
		may := map[int]bool{}
		for _, at := range addresses(words) {
			may[at] = true
		}
		all := slices.Clone(noAddresses)
		for at := -20; at < words+20; at++ {
			all = append(all, at)
		}
		for _, at := range all {
			if is, e := entry.May(at, words); is != may[at] || e != api.OK {
				t.Fatalf("May(%d, %d) = %v, %v; want %v, OK", at, words, is, e, may[at])
			}
		}
	}
}

// P8.1: a list of one entry is a change if its address may be changed, whatever its value is.
func TestOneEntry(t *testing.T) {
	for _, words := range someSizes {
		all := slices.Clone(noAddresses)
		for at := -20; at < 2100; at++ {
			all = append(all, at)
		}
		for _, at := range all {
			for _, v := range []uint64{0, 5, math.MaxUint64} {
				checkList(t, []api.Entry{{At: at, Value: v}}, words)
			}
		}
	}
}

// All with a number of words: ErrArg goes before all others, unless it is that of an image.
func TestWordsFirst(t *testing.T) {
	bad := append(slices.Clone(noSizes), 100000)
	for words := -300; words < 2400; words++ {
		if !isImage(words) {
			bad = append(bad, words)
		}
	}
	lists := [][]api.Entry{
		nil, {}, change(256, 1, 0), change(256, 32, 0), {{At: 3}}, {{At: 130}, {At: 130}}, change(256, 33, 0), slices.Repeat([]api.Entry{{At: -1}}, 40),
	}
	for _, words := range bad {
		for _, at := range []int{-1, 0, 16, 24, 96, 130, 255, 256, words, words - 1, math.MaxInt, math.MinInt} {
			if may, e := entry.May(at, words); may || e != api.ErrArg {
				t.Fatalf("May(%d, %d) = %v, %v; want false, ErrArg", at, words, may, e)
			}
		}
		for _, l := range lists {
			if e := checkList(t, l, words); e != api.ErrArg {
				t.Fatalf("the error for %d words is %v", words, e)
			}
		}
	}
}

// P8.1: up to 32 entries are a change, for all sizes; ErrMany goes before ErrBad.
func TestHowMany(t *testing.T) {
	for _, words := range sizes() {
		for n := range 45 {
			want := api.OK
			if n > 32 {
				want = api.ErrMany
			}
			if e := checkList(t, change(words, n, n), words); e != want {
				t.Fatalf("%d entries: %v", n, e)
			}
		}
	}
	for _, n := range []int{31, 32, 33, 34, 64, 65, 1000, 100000} {
		for _, at := range []int{-1, 3, 24, 95, 130, 256, 1 << 40} {
			want := api.ErrBad
			if n > 32 {
				want = api.ErrMany
			}
			if e := checkList(t, slices.Repeat([]api.Entry{{At: at, Value: 1}}, n), 256); e != want {
				t.Fatalf("%d entries at %d: %v", n, at, e)
			}
		}
	}
}

// P8.1: one address of a change that may not be changed is enough, wherever it stands.
func TestOneBadAddress(t *testing.T) {
	for _, words := range someSizes {
		for _, n := range []int{1, 2, 3, 31, 32} {
			l := change(words, n, 7)
			for i := range l {
				for _, at := range append([]int{0, 7, 8, 15, 24, 31, 32, 60, 95, words, words + 1, words + 8}, noAddresses...) {
					if e := checkList(t, replaced(l, i, api.Entry{At: at, Value: 1}), words); e != api.ErrBad {
						t.Fatalf("%d of %d entries at %d: %v", i, n, at, e)
					}
				}
			}
		}
	}
}

// P8.1: any two entries with one address are no change, with the same value and with another one; entries with one value are.
func TestSameAddress(t *testing.T) {
	for _, words := range []int{256, 2048} {
		l := change(words, 32, 3)
		for i := range l {
			for j := range l {
				if i == j {
					continue
				}
				for _, v := range []uint64{0, l[i].Value, l[j].Value} {
					if e := checkList(t, replaced(l, j, api.Entry{At: l[i].At, Value: v}), words); e != api.ErrBad {
						t.Fatalf("the entries %d and %d are both at %d: %v", i, j, l[i].At, e)
					}
				}
				if e := checkList(t, replaced(l, j, api.Entry{At: l[j].At, Value: l[i].Value}), words); e != api.OK {
					t.Fatalf("the entries %d and %d have one value: %v", i, j, e)
				}
			}
		}
	}
}

// P8.1: all pairs of addresses of one image, from the superblock to behind the end.
func TestAllPairs(t *testing.T) {
	for a := range 260 {
		for b := range 260 {
			checkList(t, []api.Entry{{At: a, Value: 1}, {At: b, Value: 2}}, 256)
		}
	}
}

// P8.1 and P8.2: lists by hand: what is a change depends on how many words there are.
func TestByHand(t *testing.T) {
	l := []api.Entry{{At: 300, Value: 1}, {At: 16, Value: math.MaxUint64}, {At: 127, Value: 0}}
	w := []uint64{300, 1, 16, math.MaxUint64, 127, 0}
	for _, x := range []struct {
		words         int
		listed, stand api.Errno
	}{{256, api.ErrBad, api.ErrCorrupt}, {296, api.ErrBad, api.ErrCorrupt}, {304, api.OK, api.OK}, {2048, api.OK, api.OK}} {
		if e := entry.Check(l, x.words); e != x.listed {
			t.Errorf("Check for %d words: %v", x.words, e)
		}
		r, e := entry.Words(l, x.words)
		if e != x.listed || e == api.OK && !slices.Equal(r, w) || e != api.OK && r != nil {
			t.Errorf("Words for %d words: %v, %v", x.words, r, e)
		}
		back, e := entry.Read(journal(some(x.words), w), 3)
		if e != x.stand || e == api.OK && !slices.Equal(back, l) || e != api.OK && back != nil {
			t.Errorf("Read of %d words: %v, %v", x.words, back, e)
		}
		m, e := entry.Apply(make([]uint64, x.words), l)
		if e != x.listed || e == api.OK && (m[300] != 1 || m[16] != math.MaxUint64 || m[127] != 0) || e != api.OK && m != nil {
			t.Errorf("Apply to %d words: %d words, %v", x.words, len(m), e)
		}
	}
}

// P8.2: the journal starts with the address 32, and what is in front of it and behind the entries makes no difference.
func TestWhereJournalIs(t *testing.T) {
	for _, words := range someSizes {
		for n := range 33 {
			l := change(words, n, 11)
			for _, m := range [][]uint64{make([]uint64, words), some(words), slices.Repeat([]uint64{130}, words)} {
				m = journal(m, flat(l))
				if back, e := checkRead(t, m, n); !slices.Equal(back, l) || e != api.OK {
					t.Fatalf("%v is read as %v, %v", l, back, e)
				}
				for _, at := range []int{0, 16, 24, 30, 31, 32 + 2*n, 33 + 2*n, 95, 96, words - 1} {
					if at >= 32 && at < 32+2*n {
						continue
					}
					if back, e := checkRead(t, replaced(m, at, m[at]+1), n); !slices.Equal(back, l) || e != api.OK {
						t.Fatalf("with another word at %d, %v is read as %v, %v", at, l, back, e)
					}
				}
			}
		}
	}
}

// P8.2: fewer entries than stand there are read as the first ones; all words of the journal are those of a full one.
func TestFewerEntries(t *testing.T) {
	l := change(512, 32, 5)
	m := journal(make([]uint64, 512), flat(l))
	for n := range 33 {
		if back, e := entry.Read(m, n); !slices.Equal(back, l[:n]) || e != api.OK {
			t.Errorf("Read of %d = %v, %v", n, back, e)
		}
		if n > 0 {
			short := journal(make([]uint64, 512), flat(l[:n-1]))
			if back, e := entry.Read(short, n); back != nil || e != api.ErrCorrupt {
				t.Errorf("Read of %d, where one is fewer, = %v, %v", n, back, e)
			}
		}
	}
}

// P8.2: each word of the journal that is an address, with numbers that are none that may be changed, and with some that look like one when they are cut off.
func TestCorrupt(t *testing.T) {
	for _, words := range []int{256, 264, 2048} {
		for _, n := range []int{1, 2, 17, 32} {
			l := change(words, n, 23)
			m := journal(make([]uint64, words), flat(l))
			for i, x := range l {
				right := uint64(x.At)
				for _, at := range []uint64{
					0, 8, 15, 24, 31, 32, 95, uint64(words), uint64(words) + 1, uint64(words) + 8, 2048, right + 4096,
					right + 1<<16, right + 1<<31, right + 1<<32, right + 1<<48, right + 1<<62, right + 1<<63, -right, ^right,
					math.MaxUint64, math.MaxInt64, 1 << 63, right + 1<<32 + 1<<63,
				} {
					if back, e := checkRead(t, replaced(m, 32+2*i, at), n); back != nil || e != api.ErrCorrupt {
						t.Fatalf("%d of %d addresses is %#x: %v, %v", i, n, at, back, e)
					}
				}
				if n > 1 {
					other := l[(i+1)%n].At
					if back, e := checkRead(t, replaced(m, 32+2*i, uint64(other)), n); back != nil || e != api.ErrCorrupt {
						t.Fatalf("%d of %d addresses is there twice: %v, %v", i, n, back, e)
					}
				}
				for _, v := range []uint64{0, 1, 24, x.Value + 1, math.MaxUint64, 1 << 63} {
					back, e := checkRead(t, replaced(m, 33+2*i, v), n)
					if e != api.OK || !slices.Equal(back, replaced(l, i, api.Entry{At: x.At, Value: v})) {
						t.Fatalf("%d of %d values is %#x: %v, %v", i, n, v, back, e)
					}
				}
			}
		}
	}
}

// P8.2: each number as the one address of a journal.
func TestEachAddressRead(t *testing.T) {
	for _, words := range someSizes {
		m := make([]uint64, words)
		for at := range uint64(2100) {
			m[32], m[33] = at, 9
			checkRead(t, m, 1)
		}
	}
}

// P8.2: image.Check's error goes before ErrArg, and that before ErrCorrupt.
func TestReadErrors(t *testing.T) {
	counts := []int{-1, -2, -32, 33, 34, 64, 1 << 32, math.MaxInt, math.MinInt, math.MaxInt/2 + 1, math.MinInt / 2}
	for _, words := range someSizes {
		for _, m := range [][]uint64{make([]uint64, words), some(words), journal(some(words), flat(change(words, 32, 1)))} {
			for _, n := range counts {
				if l, e := entry.Read(m, n); l != nil || e != api.ErrArg {
					t.Fatalf("Read of %d = %v, %v", n, l, e)
				}
			}
		}
	}
	for _, words := range noLengths() {
		for _, n := range append([]int{0, 1, 32}, counts...) {
			if l, e := entry.Read(some(words), n); l != nil || e != api.ErrBad {
				t.Fatalf("Read(%d words, %d) = %v, %v", words, n, l, e)
			}
		}
	}
}

// noLengths returns how many words there may be that are no image.
func noLengths() []int {
	l := []int{4096, 1 << 16}
	for words := range 2100 {
		if !isImage(words) {
			l = append(l, words)
		}
	}
	return l
}

// P8.3: each address of some images, and what is none.
func TestApplyOne(t *testing.T) {
	for _, words := range []int{256, 520, 2048} {
		m := some(words)
		for at := -10; at < words+10; at++ {
			for _, v := range []uint64{0, 5, math.MaxUint64} {
				checkApply(t, m, []api.Entry{{At: at, Value: v}})
			}
		}
		for _, at := range noAddresses {
			checkApply(t, m, []api.Entry{{At: at, Value: 1}})
		}
	}
}

// P8.3: changes of all lengths, for all sizes, and lists that are none.
func TestApply(t *testing.T) {
	for _, words := range sizes() {
		m := some(words)
		for n := range 36 {
			l := change(words, n, words+n)
			checkApply(t, m, l)
			if n > 0 {
				checkApply(t, m, replaced(l, n-1, api.Entry{At: words}))
				checkApply(t, m, replaced(l, n/2, api.Entry{At: 24 + n}))
				checkApply(t, m, append(slices.Clone(l), l[n/3]))
			}
		}
	}
}

// P8.3: image.Check's error goes before Check's, and ErrMany before ErrBad.
func TestApplyErrors(t *testing.T) {
	lists := [][]api.Entry{
		nil, {}, {{At: 130, Value: 5}}, {{At: 3}}, {{At: 16}, {At: 16}}, change(256, 32, 0), change(256, 33, 0), slices.Repeat([]api.Entry{{At: -1}}, 33),
	}
	wants := []api.Errno{api.OK, api.OK, api.OK, api.ErrBad, api.ErrBad, api.OK, api.ErrMany, api.ErrMany}
	for i, l := range lists {
		for _, words := range someSizes {
			if _, e := checkApply(t, some(words), l); e != wants[i] {
				t.Fatalf("Apply(%d words, %v): %v", words, l, e)
			}
		}
		for _, words := range noLengths() {
			if r, e := entry.Apply(some(words), l); r != nil || e != api.ErrBad {
				t.Fatalf("Apply(%d words, %v): %d words, %v", words, l, len(r), e)
			}
		}
	}
}

// P8.4: the words of a change, put into the journal of an image, are read as it.
func TestWrittenIsRead(t *testing.T) {
	for _, words := range sizes() {
		for n := range 33 {
			for _, l := range [][]api.Entry{change(words, n, n), change(words, n, 1000+n)} {
				w, e := entry.Words(l, words)
				if e != api.OK || len(w) != 2*n {
					t.Fatalf("Words(%v, %d) = %v, %v", l, words, w, e)
				}
				back, e := entry.Read(journal(some(words), w), n)
				if !slices.Equal(back, l) || e != api.OK {
					t.Fatalf("%v is read as %v, %v", l, back, e)
				}
			}
		}
	}
}

// P8.4: others are read as other ones: with one word that is another one it is another change, or none.
func TestOthersAreRead(t *testing.T) {
	for _, words := range []int{256, 2048} {
		l := change(words, 32, 50)
		w := flat(l)
		m := journal(make([]uint64, words), w)
		for i := range w {
			for _, v := range []uint64{0, 1, 16, 23, 96, 130, 131, 255, w[i] + 1, w[i] - 1, w[i] ^ 1<<40, math.MaxUint64} {
				if v == w[i] {
					continue
				}
				back, e := checkRead(t, replaced(m, 32+i, v), 32)
				if e == api.OK && (slices.Equal(back, l) || !slices.Equal(flat(back), replaced(w, i, v))) {
					t.Fatalf("with %#x as the word %d, %v is read as %v", v, i, l, back)
				}
			}
		}
	}
}

// P8.4: changes that differ have other words: in their order, in an address, in a value, in how many entries they have.
func TestOthersAreWritten(t *testing.T) {
	seen := map[string]bool{}
	text := func(w []uint64) string {
		var b []byte
		for _, x := range w {
			for ; x > 0; x >>= 8 {
				b = append(b, byte(x))
			}
			b = append(b, "/"...)
		}
		return string(b)
	}
	count := 0
	for a := 16; a < 256; a++ {
		for b := 16; b < 256; b++ {
			l := []api.Entry{{At: a, Value: uint64(b)}, {At: b, Value: uint64(a)}}
			if w, e := entry.Words(l, 256); e == api.OK {
				seen[text(w)] = true
				count++
			}
			if w, e := entry.Words(l[:1], 256); e == api.OK {
				seen[text(w)] = true
				count++
			}
		}
	}
	if want := 168*167 + 168*240; count != want || len(seen) != want {
		t.Errorf("%d changes have %d lists of words; want %d", count, len(seen), want)
	}
}

// P8.4: twice is once, the words at the addresses of a change have its values, all others stay, superblock and journal with them, and the order of entries does not matter.
func TestApplied(t *testing.T) {
	for _, words := range sizes() {
		for _, n := range []int{0, 1, 2, 9, 32} {
			l := change(words, n, 3*words+n)
			m := some(words)
			once, e := entry.Apply(m, l)
			if e != api.OK || len(once) != words {
				t.Fatalf("Apply(%d words, %v): %d words, %v", words, l, len(once), e)
			}
			values := map[int]uint64{}
			for _, x := range l {
				values[x.At] = x.Value
			}
			for at, v := range once {
				want, is := values[at]
				if !is {
					want = m[at]
				}
				if v != want || v != m[at] && (at < 16 || at >= 24 && at < 96) {
					t.Fatalf("after %v, %#x is at %d", l, v, at)
				}
			}
			if twice, e := entry.Apply(once, l); !slices.Equal(twice, once) || e != api.OK {
				t.Fatalf("applying %v a second time changes something, %v", l, e)
			}
			for _, other := range orders(l) {
				if r, e := entry.Apply(m, other); !slices.Equal(r, once) || e != api.OK {
					t.Fatalf("%v and %v make different images, %v", l, other, e)
				}
			}
		}
	}
}

// orders returns entries in other orders.
func orders(l []api.Entry) [][]api.Entry {
	back := slices.Clone(l)
	slices.Reverse(back)
	sorted := slices.SortedFunc(slices.Values(l), func(a, b api.Entry) int { return a.At - b.At })
	half := len(l) / 2
	return [][]api.Entry{back, sorted, append(slices.Clone(l[half:]), l[:half]...)}
}

// P8.4: all orders of five entries make the same image.
func TestAllOrders(t *testing.T) {
	l := []api.Entry{{At: 16, Value: 1}, {At: 255, Value: 2}, {At: 96, Value: 3}, {At: 23, Value: 4}, {At: 130, Value: 5}}
	want, _ := applied(some(256), l)
	count := 0
	var permute func(done, left []api.Entry)
	permute = func(done, left []api.Entry) {
		if len(left) == 0 {
			count++
			if r, e := entry.Apply(some(256), done); !slices.Equal(r, want) || e != api.OK {
				t.Fatalf("%v makes another image, %v", done, e)
			}
		}
		for i, x := range left {
			permute(append(slices.Clone(done), x), slices.Delete(slices.Clone(left), i, i+1))
		}
	}
	permute(nil, l)
	if count != 120 {
		t.Errorf("%d orders", count)
	}
}

// P8.4: what is applied is what was read from the journal of the same image, which stays as it is.
func TestReadAndApplied(t *testing.T) {
	for _, words := range someSizes {
		for n := range 33 {
			m := journal(some(words), flat(change(words, n, 77)))
			l, e := entry.Read(m, n)
			r, f := entry.Apply(m, l)
			if e != api.OK || f != api.OK || !slices.Equal(r[24:96], m[24:96]) || !slices.Equal(r[:16], m[:16]) {
				t.Fatalf("%d words, %d entries: %v, %v", words, n, e, f)
			}
			again, e := entry.Read(r, n)
			if !slices.Equal(again, l) || e != api.OK {
				t.Fatalf("after applying it, %v is read as %v, %v", l, again, e)
			}
		}
	}
}

// P1, R3: nil and empty lists are the same change, which has no words and changes nothing.
func TestNoEntries(t *testing.T) {
	for _, words := range someSizes {
		for _, l := range [][]api.Entry{nil, {}, change(words, 3, 0)[:0]} {
			if e := entry.Check(l, words); e != api.OK {
				t.Errorf("Check = %v", e)
			}
			if w, e := entry.Words(l, words); len(w) != 0 || e != api.OK {
				t.Errorf("Words = %v, %v", w, e)
			}
			if r, e := entry.Apply(some(words), l); !slices.Equal(r, some(words)) || e != api.OK {
				t.Errorf("Apply: %d words, %v", len(r), e)
			}
		}
		if l, e := entry.Read(some(words), 0); len(l) != 0 || e != api.OK {
			t.Errorf("Read = %v, %v", l, e)
		}
	}
}

// variety returns lists of entries of all kinds.
func variety() [][]api.Entry {
	return [][]api.Entry{
		nil, change(256, 1, 1), change(256, 2, 2), change(256, 31, 3), change(256, 32, 4), change(256, 33, 5),
		{{At: 130}, {At: 130, Value: 1}}, {{At: 24, Value: 1}}, {{At: 130, Value: 1}, {At: -1}},
	}
}

// P1, R2: arguments are not modified, up to their capacity, what is given shares no memory with them, and what is behind them makes no difference.
func TestArgumentsStay(t *testing.T) {
	for _, list := range variety() {
		l := roomy(list, api.Entry{At: 77, Value: 77})
		m := roomy(journal(some(256), flat(list)), 77)
		wasList, wasImage := slices.Clone(l[:cap(l)]), slices.Clone(m[:cap(m)])
		n := min(len(l), 32)
		checkList(t, l, 256)
		checkRead(t, m, n)
		checkApply(t, m, l)
		w, _ := entry.Words(l, 256)
		back, _ := entry.Read(m, n)
		r, _ := entry.Apply(m, l)
		clear(w[:cap(w)])
		clear(back[:cap(back)])
		clear(r[:cap(r)])
		if !slices.Equal(l[:cap(l)], wasList) || !slices.Equal(m[:cap(m)], wasImage) {
			t.Fatalf("with %v, arguments were modified, or share memory with what was given", list)
		}
		checkList(t, slices.Clip(slices.Clone(list)), 256)
		checkRead(t, slices.Clip(slices.Clone(m)), n)
		checkApply(t, slices.Clip(slices.Clone(m)), slices.Clip(slices.Clone(list)))
	}
}

// P1, R2: parts of longer lists are images and changes like any others, and what is around them stays.
func TestPartOfList(t *testing.T) {
	l := change(256, 40, 9)
	whole := slices.Concat(some(100), journal(some(256), flat(l[5:20])), some(50))
	wasList, wasImage := slices.Clone(l), slices.Clone(whole)
	if e := checkList(t, l[5:20], 256); e != api.OK {
		t.Errorf("a part is no change: %v", e)
	}
	back, _ := checkRead(t, whole[100:356], 15)
	if !slices.Equal(back, l[5:20]) {
		t.Errorf("a part is read as %v", back)
	}
	checkApply(t, whole[100:356], l[5:20])
	if !slices.Equal(l, wasList) || !slices.Equal(whole, wasImage) {
		t.Error("what is around them was modified")
	}
}

// P1, R2: results share no memory with each other, and nothing is kept from call to call.
func TestNothingIsKept(t *testing.T) {
	for _, l := range variety() {
		m := journal(some(256), flat(l))
		n := min(len(l), 32)
		for range 3 {
			w, _ := entry.Words(l, 256)
			back, _ := entry.Read(m, n)
			r, _ := entry.Apply(m, l)
			w2, e := entry.Words(l, 256)
			back2, f := entry.Read(m, n)
			r2, g := entry.Apply(m, l)
			clear(w[:cap(w)])
			clear(back[:cap(back)])
			clear(r[:cap(r)])
			for _, other := range variety() {
				checkList(t, other, 512)
				checkRead(t, journal(some(512), flat(other)), min(len(other), 32))
				checkApply(t, some(512), other)
			}
			if e == api.OK && !slices.Equal(w2, flat(l)) {
				t.Fatalf("%v: words are shared, or kept", l)
			}
			if f == api.OK && !slices.Equal(back2, l[:n]) {
				t.Fatalf("%v: entries are shared, or kept", l)
			}
			if want, _ := applied(m, l); g == api.OK && !slices.Equal(r2, want) {
				t.Fatalf("%v: images are shared, or kept", l)
			}
		}
	}
}

// P1, R5: what is read and written has the order of the entries.
func TestOrderStays(t *testing.T) {
	l := change(256, 32, 13)
	for _, other := range append(orders(l), l) {
		w, e := entry.Words(other, 256)
		if !slices.Equal(w, flat(other)) || e != api.OK {
			t.Fatalf("Words(%v) = %v, %v", other, w, e)
		}
		back, e := entry.Read(journal(some(256), w), 32)
		if !slices.Equal(back, other) || e != api.OK {
			t.Fatalf("%v is read as %v, %v", other, back, e)
		}
	}
}
