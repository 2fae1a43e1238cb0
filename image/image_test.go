package image_test

import (
	"math"
	"slices"
	"testing"

	"ballast/api"
	"ballast/image"
)

// The numbers of words that a valid image may have, counted up by its definition.
func sizes() []int {
	var l []int
	for words := 256; words <= 2048; words += 8 {
		l = append(l, words)
	}
	return l
}

// Numbers that are none of words, of addresses, or of ranges.
var far = []int{
	math.MinInt, math.MinInt + 1, math.MinInt + 256, -1 << 32, -2048, -256, -9, -8, -7, -1,
	2049, 2056, 4096, 1 << 32, 1<<32 + 256, math.MaxInt - 256, math.MaxInt - 7, math.MaxInt - 1, math.MaxInt,
}

// some returns so many words that all differ, with a place behind them that is not theirs.
func some(words int) []uint64 {
	l := make([]uint64, words, words+16)
	for i := range l[:cap(l)] {
		l[:cap(l)][i] = 0x9e3779b97f4a7c15 * uint64(i+1)
	}
	return l
}

// none returns lists that are no images.
func none() [][]uint64 {
	l := [][]uint64{nil, {}}
	for _, words := range []int{1, 7, 8, 248, 255, 257, 263, 2047, 2049, 2056, 4096} {
		l = append(l, some(words))
	}
	return append(l, make([]uint64, 8, 256), make([]uint64, 255, 256), make([]uint64, 0, 2048))
}

func makeNew(t *testing.T, words int) []uint64 {
	t.Helper()
	m, e := image.New(words)
	if e != api.OK {
		t.Fatalf("New(%d): %v", words, e)
	}
	return m
}

func get(t *testing.T, m []uint64, at, n int) []uint64 {
	t.Helper()
	l, e := image.Get(m, at, n)
	if e != api.OK {
		t.Fatalf("Get(%d words, %d, %d): %v", len(m), at, n, e)
	}
	return l
}

func put(t *testing.T, m []uint64, at int, l []uint64) []uint64 {
	t.Helper()
	p, e := image.Put(m, at, l)
	if e != api.OK {
		t.Fatalf("Put(%d words, %d, %d words): %v", len(m), at, len(l), e)
	}
	return p
}

func diff(t *testing.T, a, b []uint64) []int {
	t.Helper()
	l, e := image.Diff(a, b)
	if e != api.OK {
		t.Fatalf("Diff(%d words, %d words): %v", len(a), len(b), e)
	}
	return l
}

// isRange says by its definition whether n words from an address on are of so many.
func isRange(words, at, n int) bool {
	for from := 0; from <= words; from++ {
		if from == at {
			return n >= 0 && n <= words-from
		}
	}
	return false
}

// The examples of the chapter, and the second one of DOC.md.
func TestExamples(t *testing.T) {
	m := makeNew(t, 256)
	if line, start, e := image.Line(m, 17); line != 2 || start != 16 || e != api.OK {
		t.Errorf("Line: %d, %d, %v", line, start, e)
	}
	o := put(t, m, 9, []uint64{5, 6})
	if l := diff(t, m, o); !slices.Equal(l, []int{9, 10}) {
		t.Errorf("Diff: %v", l)
	}
	if o[9] != 5 || o[10] != 6 {
		t.Errorf("Put: %v", o[8:12])
	}
}

// P2.1: Check, for all numbers of words around those of images, whatever the words are.
func TestCheck(t *testing.T) {
	for words := range 2100 {
		want := api.ErrBad
		if slices.Contains(sizes(), words) {
			want = api.OK
		}
		for _, m := range [][]uint64{some(words), make([]uint64, words), make([]uint64, words, 4096)} {
			if e := image.Check(m); e != want {
				t.Fatalf("Check(%d words, room for %d) = %v; want %v", words, cap(m), e, want)
			}
		}
	}
	for _, m := range none() {
		if e := image.Check(m); e != api.ErrBad {
			t.Errorf("Check(%d words) = %v; want ErrBad", len(m), e)
		}
	}
}

// P2.1: New gives words 0, as many as asked for, and nothing unless the image would be valid.
func TestNew(t *testing.T) {
	for words := -20; words < 2100; words++ {
		m, e := image.New(words)
		if !slices.Contains(sizes(), words) {
			if m != nil || e != api.ErrArg {
				t.Fatalf("New(%d) = %d words, %v; want none, ErrArg", words, len(m), e)
			}
			continue
		}
		if e != api.OK || len(m) != words || image.Check(m) != api.OK {
			t.Fatalf("New(%d) = %d words, %v", words, len(m), e)
		}
		if slices.Max(m) != 0 {
			t.Fatalf("New(%d) has words that are not 0", words)
		}
	}
	for _, words := range far {
		if m, e := image.New(words); m != nil || e != api.ErrArg {
			t.Errorf("New(%d) = %d words, %v; want none, ErrArg", words, len(m), e)
		}
	}
}

// places has addresses, or lengths, around the ends of an image, and ones that are far from it.
func places(words int) []int {
	l := slices.Clone(far)
	for n := range 20 {
		l = append(l, n-2, words/2+n, words-16+n)
	}
	return append(l, math.MaxInt-words, math.MaxInt-words+1, math.MinInt+words)
}

// P2.2: Get gives the words of a range, and nothing where there is none.
func TestGet(t *testing.T) {
	for _, words := range []int{256, 264, 1000, 2040, 2048} {
		m := some(words)
		for _, at := range places(words) {
			for _, n := range places(words) {
				l, e := image.Get(m, at, n)
				if !isRange(words, at, n) {
					if l != nil || e != api.ErrArg {
						t.Fatalf("Get(%d words, %d, %d) = %d words, %v; want none, ErrArg", words, at, n, len(l), e)
					}
					continue
				}
				if e != api.OK || len(l) != n {
					t.Fatalf("Get(%d words, %d, %d) = %d words, %v", words, at, n, len(l), e)
				}
				for i := range n {
					if l[i] != m[at+i] {
						t.Fatalf("Get(%d words, %d, %d)[%d] = %#x; want %#x", words, at, n, i, l[i], m[at+i])
					}
				}
			}
		}
	}
}

// P2.2: every range of the least image, and those that almost are.
func TestEveryRange(t *testing.T) {
	m := some(256)
	for at := -1; at <= 258; at++ {
		for n := -1; n <= 258; n++ {
			l, e := image.Get(m, at, n)
			if at < 0 || n < 0 || at+n > 256 {
				if l != nil || e != api.ErrArg {
					t.Fatalf("Get(%d, %d) = %d words, %v; want none, ErrArg", at, n, len(l), e)
				}
				continue
			}
			if e != api.OK || !slices.Equal(l, m[at:at+n]) {
				t.Fatalf("Get(%d, %d): %d words, %v", at, n, len(l), e)
			}
		}
	}
}

// P2.2: Put replaces a range by as many words, and gives nothing where there is none.
func TestPut(t *testing.T) {
	for _, words := range []int{256, 1000, 2048} {
		m := some(words)
		for _, n := range []int{0, 1, 2, 7, 8, 9, words - 9, words - 1, words, words + 1, words + 8, 5000} {
			l := make([]uint64, n)
			for i := range l {
				l[i] = uint64(i) << 32
			}
			for _, at := range places(words) {
				checkPut(t, m, at, l)
			}
		}
	}
}

func checkPut(t *testing.T, m []uint64, at int, l []uint64) {
	t.Helper()
	p, e := image.Put(m, at, l)
	if !isRange(len(m), at, len(l)) {
		if p != nil || e != api.ErrArg {
			t.Fatalf("Put(%d words, %d, %d words) = %d words, %v; want none, ErrArg", len(m), at, len(l), len(p), e)
		}
		return
	}
	if e != api.OK || len(p) != len(m) || image.Check(p) != api.OK {
		t.Fatalf("Put(%d words, %d, %d words) = %d words, %v", len(m), at, len(l), len(p), e)
	}
	for i := range m {
		want := m[i]
		if i >= at && i < at+len(l) {
			want = l[i-at]
		}
		if p[i] != want {
			t.Fatalf("Put(%d words, %d, %d words)[%d] = %#x; want %#x", len(m), at, len(l), i, p[i], want)
		}
	}
}

// P2.2: an empty range from any address from 0 to the number of words, and from no other.
func TestEmptyRange(t *testing.T) {
	m := some(264)
	for at := -3; at <= 268; at++ {
		want := api.ErrArg
		if at >= 0 && at <= 264 {
			want = api.OK
		}
		if l, e := image.Get(m, at, 0); len(l) != 0 || e != want {
			t.Fatalf("Get(%d, 0) = %v, %v; want %v", at, l, e, want)
		}
		for _, empty := range [][]uint64{nil, {}} {
			p, e := image.Put(m, at, empty)
			if e != want || want == api.OK && !slices.Equal(p, m) || want != api.OK && p != nil {
				t.Fatalf("Put(%d, none) = %d words, %v; want %v", at, len(p), e, want)
			}
		}
	}
}

// P2.2: Line, by counting the lines up, for all addresses, and for what is none.
func TestLine(t *testing.T) {
	for _, words := range sizes() {
		m := make([]uint64, words)
		at := 0
		for number := 0; at < words; number++ {
			for first := at; at < first+8; at++ {
				line, start, e := image.Line(m, at)
				if line != number || start != first || e != api.OK {
					t.Fatalf("Line(%d words, %d) = %d, %d, %v; want %d, %d", words, at, line, start, e, number, first)
				}
			}
		}
		for _, at := range append([]int{-2, words, words + 1, words + 7, words + 8}, far...) {
			if line, start, e := image.Line(m, at); line != 0 || start != 0 || e != api.ErrArg {
				t.Fatalf("Line(%d words, %d) = %d, %d, %v; want 0, 0, ErrArg", words, at, line, start, e)
			}
		}
	}
}

// P2.3: each word that differs, in any of its bits, is told, in increasing order.
func TestDiff(t *testing.T) {
	for _, words := range []int{256, 264, 2048} {
		m := some(words)
		for at := range words {
			o := slices.Clone(m)
			o[at] ^= 1 << (at % 64)
			if l := diff(t, m, o); !slices.Equal(l, []int{at}) {
				t.Fatalf("%d words, another one at %d: %v", words, at, l)
			}
		}
		for step := 1; step <= words; step += 1 + step/4 {
			o := slices.Clone(m)
			var want []int
			for at := step - 1; at < words; at += step {
				o[at] = ^o[at]
				want = append(want, at)
			}
			if l := diff(t, m, o); !slices.Equal(l, want) {
				t.Fatalf("%d words, each %d. one another: %v", words, step, l)
			}
			if l := diff(t, o, m); !slices.Equal(l, want) {
				t.Fatalf("%d words, each %d. one another, the other way around: %v", words, step, l)
			}
		}
	}
}

// P2.3: images with different numbers of words have no differences; that is told behind what is no image.
func TestDiffArg(t *testing.T) {
	for _, words := range sizes() {
		for _, other := range []int{256, 264, 1024, 2040, 2048} {
			want := api.OK
			if words != other {
				want = api.ErrArg
			}
			l, e := image.Diff(make([]uint64, words), make([]uint64, other))
			if e != want || len(l) != 0 || e != api.OK && l != nil {
				t.Fatalf("Diff(%d words, %d words) = %v, %v; want %v", words, other, l, e, want)
			}
		}
	}
	for _, m := range none() {
		for _, o := range [][]uint64{m, some(256), some(2048), nil} {
			if l, e := image.Diff(m, o); l != nil || e != api.ErrBad {
				t.Errorf("Diff(%d words, %d words) = %v, %v; want none, ErrBad", len(m), len(o), l, e)
			}
			if l, e := image.Diff(o, m); l != nil || e != api.ErrBad {
				t.Errorf("Diff(%d words, %d words) = %v, %v; want none, ErrBad", len(o), len(m), l, e)
			}
		}
	}
}

// P2.2 and R1: what is no image is told first, whatever the other arguments are, and nothing else is given.
func TestNoImage(t *testing.T) {
	for _, m := range none() {
		for _, at := range append([]int{0, 1, 8, 255}, far...) {
			for _, n := range append([]int{0, 1, 8}, far...) {
				if l, e := image.Get(m, at, n); l != nil || e != api.ErrBad {
					t.Fatalf("Get(%d words, %d, %d) = %d words, %v; want none, ErrBad", len(m), at, n, len(l), e)
				}
			}
			for _, l := range [][]uint64{nil, {1}, some(3000)} {
				if p, e := image.Put(m, at, l); p != nil || e != api.ErrBad {
					t.Fatalf("Put(%d words, %d, %d words) = %d words, %v; want none, ErrBad", len(m), at, len(l), len(p), e)
				}
			}
			if line, start, e := image.Line(m, at); line != 0 || start != 0 || e != api.ErrBad {
				t.Fatalf("Line(%d words, %d) = %d, %d, %v; want 0, 0, ErrBad", len(m), at, line, start, e)
			}
		}
	}
}

// P2.4: an image with one word put differs from it at most there.
func TestOneStore(t *testing.T) {
	m := some(256)
	m[7], m[8] = 0, math.MaxUint64
	for at := range len(m) {
		for _, v := range []uint64{0, 1, m[at], m[at] + 1, m[at] ^ 1<<63, math.MaxUint64} {
			p := put(t, m, at, []uint64{v})
			var want []int
			if v != m[at] {
				want = []int{at}
			}
			if l := diff(t, m, p); !slices.Equal(l, want) {
				t.Fatalf("%#x put at %d: they differ at %v; want %v", v, at, l, want)
			}
		}
	}
}

// P2.4: what was put is got, and all others stay; put back, the image is the same.
func TestPutAndGot(t *testing.T) {
	for _, words := range []int{256, 520, 2048} {
		m := some(words)
		for at := 0; at <= words; at += 1 + at/3 {
			for n := 0; n <= words-at; n += 1 + n/2 {
				l := some(n)
				slices.Reverse(l)
				p := put(t, m, at, l)
				if g := get(t, p, at, n); !slices.Equal(g, l) {
					t.Fatalf("%d words: what was put at %d, %d words, is not got", words, at, n)
				}
				if !slices.Equal(get(t, p, 0, at), get(t, m, 0, at)) {
					t.Fatalf("%d words: in front of %d words at %d are others", words, n, at)
				}
				behind := words - at - n
				if !slices.Equal(get(t, p, at+n, behind), get(t, m, at+n, behind)) {
					t.Fatalf("%d words: behind %d words at %d are others", words, n, at)
				}
				if l := diff(t, m, put(t, p, at, get(t, m, at, n))); len(l) != 0 {
					t.Fatalf("%d words: put back at %d, %d words, they differ at %v", words, at, n, l)
				}
			}
		}
	}
}

// P2.4: images differ nowhere just if they are the same.
func TestSame(t *testing.T) {
	var l [][]uint64
	for at := range 256 {
		m := make([]uint64, 256)
		m[at] = 1 << (at % 64)
		l = append(l, m)
	}
	l = append(l, make([]uint64, 256), some(256))
	for i, a := range l {
		for k, b := range l {
			if d := diff(t, a, b); (len(d) == 0) != (i == k) {
				t.Fatalf("the images %d and %d differ at %v", i, k, d)
			}
		}
		if d := diff(t, a, slices.Clone(a)); len(d) != 0 {
			t.Fatalf("the image %d and its copy differ at %v", i, d)
		}
	}
}

// P2.4: a line has eight addresses, and each address has one line, which starts with one of its own.
func TestEightAddresses(t *testing.T) {
	for _, words := range sizes() {
		m := make([]uint64, words)
		count := map[int]int{}
		for at := range words {
			line, start, e := image.Line(m, at)
			if e != api.OK || start > at || at-start > 7 || start != 8*line {
				t.Fatalf("Line(%d words, %d) = %d, %d, %v", words, at, line, start, e)
			}
			count[line]++
		}
		if len(count) != words/8 {
			t.Fatalf("%d words have %d lines", words, len(count))
		}
		for line, n := range count {
			if line < 0 || line >= words/8 || n != 8 {
				t.Fatalf("%d words: the line %d has %d addresses", words, line, n)
			}
		}
	}
}

// all calls every function with an image and some words, and changes all that it gave.
func all(t *testing.T, m, l []uint64) {
	t.Helper()
	image.Check(m)
	image.Line(m, 9)
	image.Line(m, -1)
	for _, r := range [][]uint64{makeNew(t, len(m)), get(t, m, 0, len(m)), get(t, m, 3, 5), get(t, m, 256, 0), put(t, m, 8, l), put(t, m, 8, nil)} {
		spoil(r)
	}
	image.Get(m, 1, len(m))
	image.Put(m, len(m), l)
	for _, o := range [][]uint64{makeNew(t, len(m)), m} {
		for d := diff(t, m, o); len(d) > 0; d = d[1:] {
			d[0] = -1
		}
	}
}

// spoil changes all words of a list, including those between its length and its capacity.
func spoil(l []uint64) {
	l = l[:cap(l)]
	for i := range l {
		l[i] = ^l[i]
	}
}

// P1, R2: arguments are not modified, up to their capacity, and results share no memory with them.
func TestArgumentsStay(t *testing.T) {
	m, l := some(256), some(9)
	all(t, m, l)
	if !slices.Equal(m[:cap(m)], some(272)) || len(m) != 256 {
		t.Error("the image was modified")
	}
	if !slices.Equal(l[:cap(l)], some(25)) || len(l) != 9 {
		t.Error("the words were modified")
	}
}

// P1, R2: words that are part of the image itself are put as they were.
func TestOwnWords(t *testing.T) {
	for _, from := range []int{0, 1, 100, 248} {
		for _, at := range []int{0, 1, 99, 100, 101, 248} {
			m := some(256)
			checkPut(t, m, at, m[from:from+8])
			if !slices.Equal(m[:cap(m)], some(272)) {
				t.Fatalf("own words from %d put at %d: the image was modified", from, at)
			}
		}
	}
}

// P1, R2: a part of a longer list is an image like any other, and what is around it stays.
func TestPartOfList(t *testing.T) {
	whole := some(512)
	m := whole[100:356]
	p := put(t, m, 250, []uint64{1, 2, 3, 4, 5, 6})
	spoil(p)
	spoil(get(t, m, 250, 6))
	if !slices.Equal(whole, some(512)) {
		t.Error("what is around the image was modified")
	}
	if _, e := image.Get(m, 250, 7); e != api.ErrArg {
		t.Errorf("Get of what is behind the image: %v", e)
	}
}

// P1, R2: results share no memory with each other, and nothing is kept from call to call.
func TestNothingIsKept(t *testing.T) {
	m, o := some(256), makeNew(t, 256)
	a, b := makeNew(t, 256), makeNew(t, 256)
	g, h := get(t, m, 0, 256), get(t, m, 0, 256)
	p, q := put(t, m, 9, []uint64{5}), put(t, m, 9, []uint64{5})
	d, f := diff(t, m, o), diff(t, m, o)
	for _, l := range [][]uint64{a, g, p} {
		spoil(l)
	}
	clear(d[:cap(d)])
	all(t, some(264), some(2))
	want := some(256)
	if slices.Max(b) != 0 || !slices.Equal(h, want) {
		t.Error("New or Get gave what another result shares")
	}
	want[9] = 5
	if !slices.Equal(q, want) {
		t.Error("Put gave what another result shares")
	}
	if len(f) != 256 || f[0] != 0 || f[255] != 255 {
		t.Error("Diff gave what another result shares")
	}
}

// P1: what a call gives hangs on the words alone, and not on the room behind them.
func TestRoom(t *testing.T) {
	for _, words := range []int{255, 256, 264} {
		small, large := slices.Clip(some(words)), make([]uint64, words, 4096)
		copy(large, small)
		if a, b := image.Check(small), image.Check(large); a != b {
			t.Errorf("Check(%d words): %v and %v", words, a, b)
		}
		for _, at := range []int{0, 9, 247, 255, 256, 257, 264} {
			a, e := image.Get(small, at, 8)
			b, f := image.Get(large, at, 8)
			if e != f || !slices.Equal(a, b) {
				t.Errorf("Get(%d words, %d, 8): %v and %v", words, at, e, f)
			}
			a, e = image.Put(small, at, []uint64{7})
			b, f = image.Put(large, at, []uint64{7})
			if e != f || !slices.Equal(a, b) {
				t.Errorf("Put(%d words, %d, ..): %v and %v", words, at, e, f)
			}
		}
	}
}
