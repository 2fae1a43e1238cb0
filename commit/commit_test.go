package commit_test

import (
	"encoding/binary"
	"hash/fnv"
	"math"
	"slices"
	"testing"

	"ballast/api"
	"ballast/commit"
	"ballast/entry"
)

// The numbers of words that a valid image may have, counted up by the definition of layer 2.
func sizes() []int {
	var l []int
	for words := 256; words <= 2048; words += 8 {
		l = append(l, words)
	}
	return l
}

// A few of them, those at both ends with them.
var someSizes = []int{256, 264, 1024, 2040, 2048}

// Numbers of words that are none of an image.
var noSizes = []int{
	0, 1, 8, 24, 25, 32, 33, 96, 128, 248, 255, 257, 260, 263, 1025, 2044, 2047, 2049, 2056, 4096, 1 << 32, 1<<32 + 256, math.MaxInt - 7, math.MaxInt,
	-1, -8, -256, -2048, math.MinInt, math.MinInt + 256,
}

// isImage says whether an image may have so many words.
func isImage(words int) bool { return words >= 256 && words <= 2048 && words%8 == 0 }

// value returns a value for a number; all of them differ.
func value(i int) uint64 { return 0x9e3779b97f4a7c15 * uint64(i+1) }

// some returns so many words that all differ, the commit word among them being 0.
func some(words int) []uint64 {
	l := make([]uint64, words)
	for i := range l {
		l[i] = value(i)
	}
	if words > 24 {
		l[24] = 0
	}
	return l
}

// change returns n entries, with others for another seed, whose addresses go around among those that may be changed, so that they are all different.
func change(words, n, seed int) []api.Entry {
	const prime = 9973
	may := []int{16, 17, 18, 19, 20, 21, 22, 23}
	for at := 96; at < words; at++ {
		may = append(may, at)
	}
	var l []api.Entry
	for i := range n {
		l = append(l, api.Entry{At: may[(seed+i*prime)%len(may)], Value: value(5000 + 100*seed + i)})
	}
	return l
}

// flat returns addresses and values as words.
func flat(l []api.Entry) []uint64 {
	var w []uint64
	for _, x := range l {
		w = append(w, uint64(x.At), x.Value)
	}
	return w
}

// roomy returns elements with room behind them that is not theirs.
func roomy[T any](l []T, other T) []T {
	r := append(slices.Clone(l), slices.Repeat([]T{other}, 20)...)
	return r[:len(l)]
}

// replaced returns elements with another one in the place of that with an index.
func replaced[T any](l []T, i int, v T) []T {
	r := slices.Clone(l)
	r[i] = v
	return r
}

// sealOf returns the commit word that some words of the journal have, by the library's FNV-1a, if n entries are said, whether or not they are a change.
func sealOf(w []uint64, n int) uint64 {
	h := fnv.New64a()
	for _, x := range w {
		h.Write(binary.LittleEndian.AppendUint64(nil, x))
	}
	return h.Sum64()<<6 + uint64(n)
}

// wordOf returns, as the chapter defines it, the commit word of a change, and the error of asking for it.
func wordOf(l []api.Entry, words int) (uint64, api.Errno) {
	if e := entry.Check(l, words); e != api.OK {
		return 0, e
	}
	if len(l) == 0 {
		return 0, api.ErrNone
	}
	return sealOf(flat(l), len(l)), api.OK
}

// with returns an image with a commit word, and words in its journal.
func with(m []uint64, seal uint64, w []uint64) []uint64 {
	r := replaced(m, 24, seal)
	copy(r[32:96], w)
	return r
}

// committed returns, as the chapter defines it, what an image has committed.
func committed(m []uint64) ([]api.Entry, api.Errno) {
	if !isImage(len(m)) {
		return nil, api.ErrBad
	}
	if m[24] == 0 {
		return nil, api.OK
	}
	n := int(m[24] % 64)
	if n == 0 || n > 32 {
		return nil, api.ErrCorrupt
	}
	var l []api.Entry
	for i := range n {
		if m[32+2*i] > 2047 {
			return nil, api.ErrCorrupt
		}
		l = append(l, api.Entry{At: int(m[32+2*i]), Value: m[33+2*i]})
	}
	if w, e := wordOf(l, len(m)); e != api.OK || w != m[24] {
		return nil, api.ErrCorrupt
	}
	return l, api.OK
}

// checkList fails unless Word and Journal give for entries what they should, and returns that.
func checkList(t *testing.T, l []api.Entry, words int) (uint64, api.Errno) {
	t.Helper()
	want, f := wordOf(l, words)
	if w, e := commit.Word(l, words); w != want || e != f {
		t.Fatalf("Word(%v, %d) = %#x, %v; want %#x, %v", l, words, w, e, want, f)
	}
	var all []uint64
	if f == api.OK {
		all = append([]uint64{want, 0, 0, 0, 0, 0, 0, 0}, flat(l)...)
	}
	if j, e := commit.Journal(l, words); !slices.Equal(j, all) || e != f {
		t.Fatalf("Journal(%v, %d) = %#x, %v; want %#x, %v", l, words, j, e, all, f)
	}
	return want, f
}

// checkRead fails unless Read gives what it should, and returns that.
func checkRead(t *testing.T, m []uint64) ([]api.Entry, api.Errno) {
	t.Helper()
	want, f := committed(m)
	if l, e := commit.Read(m); !slices.Equal(l, want) || e != f {
		t.Fatalf("Read(%d words) = %v, %v; want %v, %v", len(m), l, e, want, f)
	}
	return want, f
}

// readAs fails unless a change is read, and nothing else.
func readAs(t *testing.T, m []uint64, want []api.Entry) {
	t.Helper()
	if l, e := commit.Read(m); !slices.Equal(l, want) || e != api.OK {
		t.Fatalf("Read(%d words, with the commit word %#x) = %v, %v; want %v", len(m), m[24], l, e, want)
	}
}

// noRead fails unless there is an error, and nothing but that is given.
func noRead(t *testing.T, m []uint64, want api.Errno) {
	t.Helper()
	if l, e := commit.Read(m); len(l) != 0 || e != want {
		t.Fatalf("Read(%d words) = %v, %v; want none, %v", len(m), l, e, want)
	}
}

// The chapter's examples.
func TestExamples(t *testing.T) {
	for _, words := range sizes() {
		readAs(t, make([]uint64, words), nil)
		noRead(t, with(make([]uint64, words), 2, nil), api.ErrCorrupt)
	}
	if w, e := commit.Word([]api.Entry{{At: 130, Value: 5}, {At: 16, Value: 7}}, 256); w&63 != 0b000010 || e != api.OK {
		t.Errorf("Word = %b, %v", w, e)
	}
}

// P9.1, P9.2 and P9.3: commit words that were found in another way, so that they do not hang on the definitions above.
func TestByHand(t *testing.T) {
	squares := func(n int) []api.Entry {
		var l []api.Entry
		for i := range n {
			l = append(l, api.Entry{At: 130 + i, Value: uint64(i * i)})
		}
		return l
	}
	for _, x := range []struct {
		l    []api.Entry
		word uint64
	}{
		{[]api.Entry{{At: 130, Value: 5}}, 0x90530976c250b081},
		{[]api.Entry{{At: 130, Value: 5}, {At: 16, Value: 7}}, 0xc613422b69616d42},
		{[]api.Entry{{At: 16, Value: 7}, {At: 130, Value: 5}}, 0x82b7b577efe84d42},
		{[]api.Entry{{At: 140, Value: 9}, {At: 20, Value: 1 << 60}}, 0x8cbffb0a5c312902},
		{[]api.Entry{{At: 255}}, 0x71618bb7ba629681},
		{[]api.Entry{{At: 23, Value: math.MaxUint64}}, 0x16a535fcef68a81},
		{[]api.Entry{{At: 2047, Value: 1}}, 0x542710f95a74c481},
		{[]api.Entry{{At: 96}, {At: 97}, {At: 98}}, 0x9c52f9065abdc183},
		{squares(31), 0x3f1bb6b7970e285f},
		{squares(32), 0x2b86d57ee5689420},
	} {
		if w, e := commit.Word(x.l, 2048); w != x.word || e != api.OK {
			t.Errorf("Word(%v) = %#x, %v; want %#x", x.l, w, e, x.word)
		}
		if n, low, e := commit.Count(x.word); n != len(x.l) || low != x.word/64 || e != api.OK {
			t.Errorf("Count(%#x) = %d, %#x, %v", x.word, n, low, e)
		}
		j, e := commit.Journal(x.l, 2048)
		if want := append([]uint64{x.word, 0, 0, 0, 0, 0, 0, 0}, flat(x.l)...); !slices.Equal(j, want) || e != api.OK {
			t.Errorf("Journal(%v) = %#x, %v; want %#x", x.l, j, e, want)
		}
		readAs(t, with(some(2048), x.word, flat(x.l)), x.l)
	}
}

// P9.1 and P9.3: changes of all lengths, and lists that are longer, for all sizes.
func TestLists(t *testing.T) {
	for _, words := range sizes() {
		for n := range 36 {
			want := api.OK
			if n == 0 {
				want = api.ErrNone
			}
			if n > 32 {
				want = api.ErrMany
			}
			if _, e := checkList(t, change(words, n, n), words); e != want {
				t.Fatalf("%d entries: %v", n, e)
			}
		}
	}
}

// P9.1 and P9.3: each address, and each value of a few, in a list of one entry.
func TestOneEntry(t *testing.T) {
	for _, words := range someSizes {
		for at := -20; at < 2100; at++ {
			want := api.ErrBad
			if at >= 16 && at < 24 || at >= 96 && at < words {
				want = api.OK
			}
			for _, v := range []uint64{0, 5, 1 << 63, math.MaxUint64} {
				if _, e := checkList(t, []api.Entry{{At: at, Value: v}}, words); e != want {
					t.Fatalf("at %d of %d words: %v", at, words, e)
				}
			}
		}
	}
}

// P9.1 and P9.3: ErrArg goes before ErrMany, that before ErrBad, and ErrNone is the last one.
func TestListErrors(t *testing.T) {
	bad := slices.Clone(noSizes)
	for words := -300; words < 2400; words++ {
		if !isImage(words) {
			bad = append(bad, words)
		}
	}
	for _, x := range []struct {
		l    []api.Entry
		want api.Errno
	}{
		{nil, api.ErrNone}, {[]api.Entry{}, api.ErrNone}, {change(256, 3, 0)[:0], api.ErrNone},
		{change(256, 1, 0), api.OK}, {change(256, 32, 0), api.OK}, {change(256, 33, 0), api.ErrMany},
		{[]api.Entry{{At: 24, Value: 1}}, api.ErrBad}, {[]api.Entry{{At: 95}}, api.ErrBad}, {[]api.Entry{{At: 15}}, api.ErrBad},
		{[]api.Entry{{At: 130, Value: 1}, {At: 130, Value: 1}}, api.ErrBad}, {[]api.Entry{{At: 130}, {At: 2048}}, api.ErrBad},
		{[]api.Entry{{At: math.MinInt}}, api.ErrBad}, {[]api.Entry{{At: 1<<32 + 130}}, api.ErrBad}, {[]api.Entry{{At: math.MaxInt}}, api.ErrBad},
		{slices.Repeat([]api.Entry{{At: -1}}, 32), api.ErrBad}, {slices.Repeat([]api.Entry{{At: -1}}, 33), api.ErrMany}, {make([]api.Entry, 100000), api.ErrMany},
	} {
		for _, words := range someSizes {
			if _, e := checkList(t, x.l, words); e != x.want {
				t.Fatalf("%d entries for %d words: %v; want %v", len(x.l), words, e, x.want)
			}
		}
		for _, words := range bad {
			if _, e := checkList(t, x.l, words); e != api.ErrArg {
				t.Fatalf("%d entries for %d words: %v; want ErrArg", len(x.l), words, e)
			}
		}
	}
}

// P9.1: a commit word hangs on the change alone, not on how many words the device has.
func TestSameWord(t *testing.T) {
	for n := 1; n <= 32; n++ {
		l := change(256, n, n)
		want, _ := commit.Word(l, 256)
		for _, words := range sizes() {
			if w, e := commit.Word(l, words); w != want || e != api.OK {
				t.Fatalf("Word(%v, %d) = %#x, %v; want %#x", l, words, w, e, want)
			}
		}
	}
}

// P9.1: Count of all numbers of entries, with other bits of all kinds.
func TestCount(t *testing.T) {
	lows := []uint64{0, 1, 2, 3, 63, 64, 1<<57 - 1, 1 << 57, 1<<58 - 2, 1<<58 - 1}
	for i := range 1000 {
		lows = append(lows, value(i)>>6)
	}
	for bit := range 58 {
		lows = append(lows, 1<<bit)
	}
	for _, low := range lows {
		for n := range 64 {
			w := low*64 + uint64(n)
			want := api.OK
			switch {
			case w == 0:
				want = api.ErrNone
			case n < 1 || n > 32:
				want = api.ErrCorrupt
			}
			c, l, e := commit.Count(w)
			if e != want || e == api.OK && (c != n || l != low) || e != api.OK && (c != 0 || l != 0) {
				t.Fatalf("Count(%#x) = %d, %#x, %v; want %d, %#x, %v", w, c, l, e, n, low, want)
			}
		}
	}
}

// P9.1: Count by hand.
func TestCountByHand(t *testing.T) {
	for _, x := range []struct {
		w   uint64
		n   int
		low uint64
		e   api.Errno
	}{
		{0, 0, 0, api.ErrNone}, {1, 1, 0, api.OK}, {2, 2, 0, api.OK}, {31, 31, 0, api.OK}, {32, 32, 0, api.OK}, {33, 0, 0, api.ErrCorrupt},
		{63, 0, 0, api.ErrCorrupt}, {64, 0, 0, api.ErrCorrupt}, {65, 1, 1, api.OK}, {128, 0, 0, api.ErrCorrupt}, {1 << 63, 0, 0, api.ErrCorrupt},
		{1<<63 + 1, 1, 1 << 57, api.OK}, {math.MaxUint64, 0, 0, api.ErrCorrupt}, {math.MaxUint64 - 31, 32, 1<<58 - 1, api.OK},
		{math.MaxUint64 - 30, 0, 0, api.ErrCorrupt}, {math.MaxUint64 - 62, 1, 1<<58 - 1, api.OK}, {math.MaxUint64 - 63, 0, 0, api.ErrCorrupt},
	} {
		if n, low, e := commit.Count(x.w); n != x.n || low != x.low || e != x.e {
			t.Errorf("Count(%#x) = %d, %#x, %v; want %d, %#x, %v", x.w, n, low, e, x.n, x.low, x.e)
		}
	}
}

// P9.1: Count takes a commit word apart, for all changes.
func TestCountOfWord(t *testing.T) {
	for _, words := range someSizes {
		for n := 1; n <= 32; n++ {
			w, e := commit.Word(change(words, n, 40+n), words)
			c, low, f := commit.Count(w)
			if e != api.OK || f != api.OK || c != n || low != w>>6 || low<<6|uint64(n) != w {
				t.Fatalf("%d entries have %#x, %v, which says %d, %#x, %v", n, w, e, c, low, f)
			}
		}
	}
}

// P9.2: nothing is committed if the commit word is 0, whatever stands in the journal.
func TestNothingCommitted(t *testing.T) {
	for _, words := range sizes() {
		readAs(t, make([]uint64, words), nil)
		readAs(t, some(words), nil)
		readAs(t, with(slices.Repeat([]uint64{math.MaxUint64}, words), 0, nil), nil)
		readAs(t, with(some(words), 0, flat(change(words, 32, 2))), nil)
	}
}

// P9.2: changes of all lengths are read, for all sizes, as what was committed.
func TestRead(t *testing.T) {
	for _, words := range sizes() {
		for n := 1; n <= 32; n++ {
			l := change(words, n, 60+n)
			w := flat(l)
			readAs(t, with(some(words), sealOf(w, n), w), l)
			readAs(t, with(make([]uint64, words), sealOf(w, n), w), l)
		}
	}
}

// P9.2: words that are no image have that error first, whatever they say.
func TestReadNoImage(t *testing.T) {
	w := flat(change(256, 2, 3))
	long := with(some(3000), sealOf(w, 2), w)
	corrupt := with(some(3000), 33, nil)
	for words := range 3000 {
		if !isImage(words) {
			noRead(t, long[:words], api.ErrBad)
			noRead(t, corrupt[:words], api.ErrBad)
			noRead(t, make([]uint64, words), api.ErrBad)
		}
	}
	noRead(t, nil, api.ErrBad)
	noRead(t, make([]uint64, 0, 256), api.ErrBad)
}

// P9.2: a commit word that says another number than 1 to 32 is corrupt, with the sum of what would be so many entries, too.
func TestReadCount(t *testing.T) {
	for _, words := range []int{256, 2048} {
		l := change(words, 32, 8)
		m := with(some(words), 0, flat(l))
		m[96], m[97] = 130, 5
		for n := range 64 {
			w := sealOf(m[32:32+2*n], n)
			if n >= 1 && n <= 32 {
				readAs(t, replaced(m, 24, w), l[:n])
				continue
			}
			noRead(t, replaced(m, 24, w), api.ErrCorrupt)
			noRead(t, replaced(m, 24, 1<<63+uint64(n)), api.ErrCorrupt)
			noRead(t, replaced(m, 24, 64+uint64(n)), api.ErrCorrupt)
		}
	}
}

// P9.2: entries that are no change are corrupt even if they have the right sum.
func TestReadNoChange(t *testing.T) {
	for _, words := range someSizes {
		for _, n := range []int{1, 2, 31, 32} {
			w := flat(change(words, n, 5))
			for i := range n {
				right := w[2*i]
				for _, at := range []uint64{
					0, 8, 15, 24, 25, 32, 60, 95, uint64(words), uint64(words) + 1, 2048, right + 4096, right + 1<<16, right + 1<<32, right + 1<<63, -right, math.MaxUint64,
				} {
					bad := replaced(w, 2*i, at)
					noRead(t, with(some(words), sealOf(bad, n), bad), api.ErrCorrupt)
				}
				if n > 1 {
					twice := replaced(w, 2*i, w[2*((i+1)%n)])
					noRead(t, with(some(words), sealOf(twice, n), twice), api.ErrCorrupt)
				}
			}
			if n < 32 {
				more := append(slices.Clone(w), 0, 0)
				noRead(t, with(make([]uint64, words), sealOf(more, n+1), more), api.ErrCorrupt)
			}
		}
	}
}

// P9.2: whether entries are a change depends on how many words there are.
func TestReadSizes(t *testing.T) {
	for at := 250; at < 2048; at++ {
		l := []api.Entry{{At: 20, Value: 1}, {At: at, Value: 2}}
		for _, words := range append([]int{at / 8 * 8, at/8*8 + 8}, someSizes...) {
			if !isImage(words) {
				continue
			}
			m := with(some(words), sealOf(flat(l), 2), flat(l))
			if at < words {
				readAs(t, m, l)
			} else {
				noRead(t, m, api.ErrCorrupt)
			}
		}
	}
}

// P9.2: a change with another commit word is corrupt: with that of another change, or of a part of it, with other bits of the sum, or without them.
func TestReadOtherWord(t *testing.T) {
	for _, n := range []int{1, 2, 9, 32} {
		l := change(512, n, 4)
		w := flat(l)
		right := sealOf(w, n)
		m := with(some(512), right, w)
		count := uint64(n)
		wrongs := []uint64{
			count, count + 64, right + 64, right - 64, right ^ 1<<6, right ^ 1<<32, right ^ 1<<63, ^right&^63 | count,
			sealOf(nil, n), sealOf(w[:2*n-2], n), sealOf(w[:2*n-1], n), sealOf(append(slices.Clone(w), 0), n), sealOf(m[24:32], n),
			sealOf(flat(change(512, n, 5)), n), sealOf(w, 0), sealOf(w, 33), sealOf(w, 63), sealOf(w, 0)>>6 | count<<58,
		}
		if n < 32 {
			wrongs = append(wrongs, sealOf(m[32:96], n), sealOf(w, n+1), sealOf(m[32:34+2*n], n))
		}
		for _, wrong := range wrongs {
			if wrong == right {
				t.Fatalf("%#x is the right one", wrong)
			}
			noRead(t, replaced(m, 24, wrong), api.ErrCorrupt)
		}
		for bit := 6; bit < 64; bit++ {
			noRead(t, replaced(m, 24, right^1<<bit), api.ErrCorrupt)
		}
	}
}

// P9.2: the same entries in another order are another change, and need their own commit word.
func TestReadOrder(t *testing.T) {
	l := change(512, 8, 6)
	w := flat(l)
	for i := range l {
		for j := range i {
			other := slices.Clone(l)
			other[i], other[j] = other[j], other[i]
			noRead(t, with(some(512), sealOf(w, 8), flat(other)), api.ErrCorrupt)
			readAs(t, with(some(512), sealOf(flat(other), 8), flat(other)), other)
		}
	}
	for i := range 15 {
		swapped := slices.Clone(w)
		swapped[i], swapped[i+1] = swapped[i+1], swapped[i]
		noRead(t, with(some(512), sealOf(w, 8), swapped), api.ErrCorrupt)
	}
}

// P9.2: all other words make no difference: those behind the commit word, those behind the change, and those of other parts.
func TestReadOnlyJournal(t *testing.T) {
	for _, n := range []int{1, 2, 17, 31, 32} {
		l := change(256, n, 9)
		w := flat(l)
		for _, m := range [][]uint64{make([]uint64, 256), some(256), slices.Repeat([]uint64{130}, 256)} {
			m = with(m, sealOf(w, n), w)
			for at := range m {
				if at == 24 || at >= 32 && at < 32+2*n {
					continue
				}
				for _, v := range []uint64{0, 1, m[at] + 1, ^m[at]} {
					readAs(t, replaced(m, at, v), l)
				}
			}
		}
	}
}

// P9.2: any words, and any commit word, with a change in the journal or without one.
func TestReadAny(t *testing.T) {
	for i := range 20000 {
		m := make([]uint64, 256)
		for at := range m {
			m[at] = value(at + 256*i)
		}
		if i%3 != 0 {
			copy(m[32:], flat(change(256, 32, i)))
		}
		if i%2 != 0 {
			m[24] &= 31
		}
		checkRead(t, m)
	}
}

// P9.3 and P9.4: what Journal says, put into an image, is read as the change, whatever is behind it.
func TestWrittenIsRead(t *testing.T) {
	for _, words := range sizes() {
		for n := 1; n <= 32; n++ {
			l := change(words, n, 80+n)
			j, e := commit.Journal(l, words)
			if e != api.OK || len(j) != 8+2*n || j[0] == 0 || slices.Max(j[1:8]) != 0 {
				t.Fatalf("Journal(%v, %d) = %#x, %v", l, words, j, e)
			}
			for _, m := range [][]uint64{make([]uint64, words), some(words), slices.Repeat([]uint64{math.MaxUint64}, words)} {
				copy(m[24:], j)
				readAs(t, m, l)
				if n < 32 {
					copy(m[32+2*n:96], flat(change(words, 32-n, 81)))
					readAs(t, m, l)
				}
			}
		}
	}
}

// spoilt fails unless all images that have, in one byte of some words, another one, are corrupt.
func spoilt(t *testing.T, m []uint64, flips []uint64) {
	t.Helper()
	n := int(m[24] & 63)
	for at := 24; at < 32+2*n; at++ {
		if at > 24 && at < 32 {
			continue
		}
		for place := range 8 {
			if at == 24 && place == 0 {
				continue
			}
			for _, flip := range flips {
				noRead(t, replaced(m, at, m[at]^flip<<(8*place)), api.ErrCorrupt)
			}
		}
	}
}

// P9.4: all other values of each byte of the commit word, but for its lowest one, and of all words of a change.
func TestOtherByte(t *testing.T) {
	var flips []uint64
	for flip := range uint64(255) {
		flips = append(flips, flip+1)
	}
	for _, n := range []int{1, 2, 5, 32} {
		w := flat(change(256, n, 10*n))
		spoilt(t, with(some(256), sealOf(w, n), w), flips)
	}
	zeros := flat([]api.Entry{{At: 128}, {At: 16}})
	spoilt(t, with(make([]uint64, 256), sealOf(zeros, 2), zeros), flips)
}

// P9.4: the same for changes of all lengths, with some other values.
func TestOtherByteOfAll(t *testing.T) {
	for _, words := range []int{256, 2048} {
		for n := 1; n <= 32; n++ {
			w := flat(change(words, n, 7*n))
			spoilt(t, with(some(words), sealOf(w, n), w), []uint64{1, 2, 0x40, 0x80, 0xff})
		}
	}
}

// P9.2: each lowest byte of the commit word, which has the number.
func TestLowestByte(t *testing.T) {
	for _, words := range someSizes {
		for n := 1; n <= 32; n++ {
			w := flat(change(words, n, 11*n))
			m := with(some(words), sealOf(w, n), w)
			for flip := range uint64(256) {
				checkRead(t, replaced(m, 24, m[24]^flip))
			}
		}
	}
}

// P9.4: commit words are not 0, and different changes have different ones here.
func TestNotZero(t *testing.T) {
	seen := map[uint64]bool{}
	count := 0
	for at := 96; at < 2048; at++ {
		for v := range uint64(50) {
			w, e := commit.Word([]api.Entry{{At: at, Value: v}}, 2048)
			if w == 0 || e != api.OK {
				t.Fatalf("the commit word of %d at %d is %#x, %v", v, at, w, e)
			}
			seen[w] = true
			count++
		}
	}
	if len(seen) != count {
		t.Errorf("%d changes have %d commit words", count, len(seen))
	}
}

// variety returns lists of entries of all kinds.
func variety() [][]api.Entry {
	return [][]api.Entry{
		nil, change(256, 1, 1), change(256, 2, 2), change(256, 31, 3), change(256, 32, 4), change(256, 33, 5),
		{{At: 130}, {At: 130, Value: 1}}, {{At: 24, Value: 1}}, {{At: 130, Value: 1}, {At: -1}},
	}
}

// P1, R2: arguments are not modified, up to their capacity, what is given shares no memory with them, and what is behind them makes no difference.
func TestArgumentsStay(t *testing.T) {
	for _, list := range variety() {
		l := roomy(list, api.Entry{At: 77, Value: 77})
		w := flat(list)
		m := roomy(with(some(256), sealOf(w, len(list)), w), 77)
		wasList, wasImage := slices.Clone(l[:cap(l)]), slices.Clone(m[:cap(m)])
		checkList(t, l, 256)
		checkRead(t, m)
		j, _ := commit.Journal(l, 256)
		back, _ := commit.Read(m)
		clear(j[:cap(j)])
		clear(back[:cap(back)])
		if !slices.Equal(l[:cap(l)], wasList) || !slices.Equal(m[:cap(m)], wasImage) {
			t.Fatalf("with %v, arguments were modified, or share memory with what was given", list)
		}
		checkList(t, slices.Clip(slices.Clone(list)), 256)
		checkRead(t, slices.Clip(slices.Clone(m)))
	}
}

// P1, R2: parts of longer lists are images and changes like any others, and what is around them stays.
func TestPartOfList(t *testing.T) {
	l := change(256, 40, 9)
	w := flat(l[5:20])
	whole := slices.Concat(some(100), with(some(256), sealOf(w, 15), w), some(50))
	wasList, wasImage := slices.Clone(l), slices.Clone(whole)
	if _, e := checkList(t, l[5:20], 256); e != api.OK {
		t.Errorf("a part is no change: %v", e)
	}
	readAs(t, whole[100:356], l[5:20])
	if !slices.Equal(l, wasList) || !slices.Equal(whole, wasImage) {
		t.Error("what is around them was modified")
	}
}

// P1, R2: results share no memory with each other, and nothing is kept from call to call.
func TestNothingIsKept(t *testing.T) {
	for _, l := range variety() {
		w := flat(l)
		m := with(some(256), sealOf(w, len(l)), w)
		j, _ := commit.Journal(l, 256)
		back, _ := commit.Read(m)
		j2, e := commit.Journal(l, 256)
		back2, f := commit.Read(m)
		clear(j[:cap(j)])
		clear(back[:cap(back)])
		for _, other := range variety() {
			checkList(t, other, 512)
			checkRead(t, with(some(512), sealOf(flat(other), len(other)), flat(other)))
		}
		if e == api.OK && !slices.Equal(j2, append([]uint64{sealOf(w, len(l)), 0, 0, 0, 0, 0, 0, 0}, w...)) {
			t.Fatalf("%v: words are shared, or kept", l)
		}
		if f == api.OK && !slices.Equal(back2, l) {
			t.Fatalf("%v: entries are shared, or kept", l)
		}
		checkList(t, l, 256)
		checkRead(t, m)
	}
}
