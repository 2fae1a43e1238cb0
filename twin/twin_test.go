package twin_test

import (
	"encoding/binary"
	"hash/fnv"
	"math"
	"slices"
	"testing"

	"ballast/api"
	"ballast/twin"
)

// The numbers of words that a valid image may have, counted up by the definition of layer 2.
func sizes() []int {
	var l []int
	for words := 256; words <= 2048; words += 8 {
		l = append(l, words)
	}
	return l
}

// A few of them, those at both ends with them.
var someSizes = []int{256, 264, 520, 1024, 2040, 2048}

// wordsOf returns the words of a superblock, as layer 6 defines them, by the library's FNV-1a.
func wordsOf(words, types int) []uint64 {
	l := []uint64{0x7473616c6c6162, 1, uint64(words), uint64(types), 0, 0, 0}
	h := fnv.New64a()
	for _, w := range l {
		h.Write(binary.LittleEndian.AppendUint64(nil, w))
	}
	return append(l, h.Sum64())
}

// some returns so many words that all differ.
func some(words int) []uint64 {
	l := make([]uint64, words)
	for i := range l {
		l[i] = 0x9e3779b97f4a7c15 * uint64(i+1)
	}
	return l
}

// with returns an image of so many words with these in the places of its copies.
func with(words int, first, second []uint64) []uint64 {
	m := some(words)
	copy(m[0:8], first)
	copy(m[8:16], second)
	return m
}

// twins returns an image with two copies of a superblock.
func twins(words, types int) []uint64 {
	return with(words, wordsOf(words, types), wordsOf(words, types))
}

// roomy returns words with room behind them that is not theirs.
func roomy(l []uint64) []uint64 {
	r := append(slices.Clone(l), slices.Repeat([]uint64{77}, 20)...)
	return r[:len(l)]
}

// changed returns words with another one in the place of that with an address.
func changed(l []uint64, at int, v uint64) []uint64 {
	r := slices.Clone(l)
	r[at] = v
	return r
}

// put returns words with some in the place of those from an address on.
func put(l []uint64, at int, part []uint64) []uint64 {
	r := slices.Clone(l)
	copy(r[at:at+len(part)], part)
	return r
}

// places returns all that stands in the place of a copy in these tests, of an image of so many words: words of no superblock, superblocks of other devices, and those of this one.
func places(words int) [][]uint64 {
	own := wordsOf(words, 2)
	l := [][]uint64{
		make([]uint64, 8), slices.Repeat([]uint64{math.MaxUint64}, 8), some(8), own,
		append(slices.Clone(own[1:]), own[0]), append([]uint64{own[7]}, own[:7]...),
		append(make([]uint64, 4), own[:4]...), append(slices.Clone(own[4:]), make([]uint64, 4)...),
		append(slices.Clone(own[:7]), 0), append(slices.Clone(own[:7]), wordsOf(words, 3)[7]),
		changed(own, 3, 3), changed(own, 3, 9), wordsOf(words, 9), wordsOf(words, -1),
		wordsOf(words+1, 2), wordsOf(words+4, 2), wordsOf(248, 2), wordsOf(2056, 2),
	}
	for types := range 9 {
		l = append(l, wordsOf(words, types))
	}
	for _, other := range someSizes {
		l = append(l, wordsOf(other, 2))
	}
	for at := range own {
		for _, v := range []uint64{0, 1, 99, own[at] + 1, own[at] ^ 1<<63, math.MaxUint64} {
			l = append(l, changed(own, at, v))
		}
	}
	return l
}

// outcome is all that the three functions give for an image.
type outcome struct {
	super api.Super
	right [2]bool
	heal  []api.Entry
	view  []uint64
}

// typesAt returns the types of the superblock of an image that stands from an address on, by comparing the words with those of all that there are, or -1.
func typesAt(m []uint64, start int) int {
	for types := range 9 {
		if slices.Equal(m[start:start+8], wordsOf(len(m), types)) {
			return types
		}
	}
	return -1
}

// expected returns, by the chapter's definitions, what is to be given for some words.
func expected(m []uint64) (outcome, api.Errno) {
	if len(m) < 256 || len(m) > 2048 || len(m)%8 != 0 {
		return outcome{}, api.ErrBad
	}
	first, second := typesAt(m, 0), typesAt(m, 8)
	types := first
	if first < 0 {
		types = second
	}
	if types < 0 {
		return outcome{}, api.ErrCorrupt
	}
	o := outcome{super: api.Super{Words: len(m), Types: types}, right: [2]bool{first >= 0, second >= 0}, view: slices.Clone(m)}
	for i, w := range wordsOf(len(m), types) {
		o.view[i], o.view[8+i] = w, w
	}
	for at, w := range o.view {
		if w != m[at] {
			o.heal = append(o.heal, api.Entry{At: at, Value: w})
		}
	}
	return o, api.OK
}

// check fails unless the three functions give for some words what they should, and returns that.
func check(t *testing.T, m []uint64) outcome {
	t.Helper()
	want, e := expected(m)
	if e != api.OK {
		nothing(t, m, e)
		return outcome{}
	}
	if s, right, e := twin.Read(m); s != want.super || right != want.right || e != api.OK {
		t.Fatalf("Read(%d words, %#x) = %v, %v, %v; want %v, %v, OK", len(m), m[:16], s, right, e, want.super, want.right)
	}
	if l, e := twin.Heal(m); !slices.Equal(l, want.heal) || e != api.OK {
		t.Fatalf("Heal(%d words, %#x) = %#x, %v; want %#x, OK", len(m), m[:16], l, e, want.heal)
	}
	if v, e := twin.View(m); !slices.Equal(v, want.view) || e != api.OK {
		t.Fatalf("View(%d words, %#x) = %d words, %#x, %v; want %#x, OK", len(m), m[:16], len(v), v[:min(16, len(v))], e, want.view[:16])
	}
	return want
}

// nothing fails unless all three functions return an error for some words, and zero values.
func nothing(t *testing.T, m []uint64, want api.Errno) {
	t.Helper()
	head := m[:min(16, len(m))]
	if s, right, e := twin.Read(m); s != (api.Super{}) || right != [2]bool{} || e != want {
		t.Fatalf("Read(%d words, %#x) = %v, %v, %v; want nothing, %v", len(m), head, s, right, e, want)
	}
	if l, e := twin.Heal(m); l != nil || e != want {
		t.Fatalf("Heal(%d words, %#x) = %v, %v; want nothing, %v", len(m), head, l, e, want)
	}
	if v, e := twin.View(m); v != nil || e != want {
		t.Fatalf("View(%d words, %#x) = %d words, %v; want nothing, %v", len(m), head, len(v), e, want)
	}
}

// The chapter's example.
func TestExample(t *testing.T) {
	m := put(put(make([]uint64, 256), 0, wordsOf(256, 5)), 8, wordsOf(256, 5))
	m[2] = 0
	s, right, e := twin.Read(m)
	if s != (api.Super{Words: 256, Types: 5}) || right != [2]bool{false, true} || e != api.OK {
		t.Errorf("Read = %v, %v, %v", s, right, e)
	}
	l, e := twin.Heal(m)
	if !slices.Equal(l, []api.Entry{{At: 2, Value: 256}}) || e != api.OK {
		t.Errorf("Heal = %v, %v", l, e)
	}
	v, e := twin.View(m)
	if !slices.Equal(v, changed(m, 2, 256)) || e != api.OK {
		t.Errorf("View = %v, %v", v, e)
	}
}

// P7.1 and P7.2: words whose sums were found in another way, so that they do not hang on the definition above.
func TestByHand(t *testing.T) {
	two := []uint64{0x7473616c6c6162, 1, 256, 2, 0, 0, 0, 0x33d8a1e72597ca34}
	eight := []uint64{0x7473616c6c6162, 1, 256, 8, 0, 0, 0, 0x694f9ee983364f3e}
	other := []uint64{0x7473616c6c6162, 1, 264, 0, 0, 0, 0, 0x336a4e080219203e}
	zero := make([]uint64, 8)
	whole := func(l []uint64, from int) []api.Entry {
		var r []api.Entry
		for i, w := range l {
			r = append(r, api.Entry{At: from + i, Value: w})
		}
		return r
	}
	for _, x := range []struct {
		first, second []uint64
		types         int
		right         [2]bool
		heal          []api.Entry
	}{
		{two, two, 2, [2]bool{true, true}, nil},
		{eight, eight, 8, [2]bool{true, true}, nil},
		{two, eight, 2, [2]bool{true, true}, []api.Entry{{At: 11, Value: 2}, {At: 15, Value: 0x33d8a1e72597ca34}}},
		{eight, two, 8, [2]bool{true, true}, []api.Entry{{At: 11, Value: 8}, {At: 15, Value: 0x694f9ee983364f3e}}},
		{other, eight, 8, [2]bool{false, true}, []api.Entry{{At: 2, Value: 256}, {At: 3, Value: 8}, {At: 7, Value: 0x694f9ee983364f3e}}},
		{two, other, 2, [2]bool{true, false}, []api.Entry{{At: 10, Value: 256}, {At: 11, Value: 2}, {At: 15, Value: 0x33d8a1e72597ca34}}},
		{some(8), two, 2, [2]bool{false, true}, whole(two, 0)},
		{eight, some(8), 8, [2]bool{true, false}, whole(eight, 8)},
		{two, zero, 2, [2]bool{true, false}, []api.Entry{
			{At: 8, Value: 0x7473616c6c6162}, {At: 9, Value: 1}, {At: 10, Value: 256}, {At: 11, Value: 2}, {At: 15, Value: 0x33d8a1e72597ca34}}},
	} {
		m := with(256, x.first, x.second)
		s, right, e := twin.Read(m)
		if s != (api.Super{Words: 256, Types: x.types}) || right != x.right || e != api.OK {
			t.Errorf("Read(%#x) = %v, %v, %v", m[:16], s, right, e)
		}
		l, e := twin.Heal(m)
		if !slices.Equal(l, x.heal) || e != api.OK {
			t.Errorf("Heal(%#x) = %#x, %v; want %#x", m[:16], l, e, x.heal)
		}
		check(t, m)
	}
	nothing(t, with(256, other, other), api.ErrCorrupt)
	nothing(t, with(256, zero, other), api.ErrCorrupt)
}

// P7.1: the superblock of two copies that are the same, for all that there are, and nothing to heal.
func TestTwoCopies(t *testing.T) {
	for _, words := range sizes() {
		for types := range 9 {
			m := twins(words, types)
			want := outcome{super: api.Super{Words: words, Types: types}, right: [2]bool{true, true}, view: m}
			o := check(t, m)
			if o.super != want.super || o.right != want.right || len(o.heal) != 0 || !slices.Equal(o.view, want.view) {
				t.Fatalf("%d words, %d types: %v, %v, %v", words, types, o.super, o.right, o.heal)
			}
		}
	}
}

// P7.1 and P7.2: whatever stands in both places.
func TestAllPlaces(t *testing.T) {
	for _, words := range someSizes {
		for _, first := range places(words) {
			for _, second := range places(words) {
				check(t, with(words, first, second))
			}
		}
	}
}

// P7.1: the first copy goes before the second one, where both are right.
func TestFirstGoesBefore(t *testing.T) {
	for _, words := range someSizes {
		for first := range 9 {
			for second := range 9 {
				o := check(t, with(words, wordsOf(words, first), wordsOf(words, second)))
				if o.super.Types != first || o.right != [2]bool{true, true} {
					t.Fatalf("%d words, %d types and %d types: %v, %v", words, first, second, o.super, o.right)
				}
			}
		}
	}
}

// P7.1: a superblock with another number of words than the image is that of no right copy.
func TestOtherWords(t *testing.T) {
	for _, words := range sizes() {
		own := wordsOf(words, 3)
		for _, other := range sizes() {
			if other == words {
				continue
			}
			l := wordsOf(other, 3)
			nothing(t, with(words, l, l), api.ErrCorrupt)
			want := api.Super{Words: words, Types: 3}
			if s, right, e := twin.Read(with(words, l, own)); s != want || right != [2]bool{false, true} || e != api.OK {
				t.Fatalf("%d words, the first copy tells %d: %v, %v, %v", words, other, s, right, e)
			}
			if s, right, e := twin.Read(with(words, own, l)); s != want || right != [2]bool{true, false} || e != api.OK {
				t.Fatalf("%d words, the second copy tells %d: %v, %v, %v", words, other, s, right, e)
			}
		}
	}
}

// P7.1: ErrCorrupt unless one of the copies is right, also if a superblock stands elsewhere, or half of one in each place.
func TestCorrupt(t *testing.T) {
	for _, words := range someSizes {
		own := wordsOf(words, 2)
		nothing(t, make([]uint64, words), api.ErrCorrupt)
		nothing(t, some(words), api.ErrCorrupt)
		nothing(t, slices.Repeat([]uint64{math.MaxUint64}, words), api.ErrCorrupt)
		for at := 1; at <= words-8; at++ {
			if at != 8 {
				nothing(t, put(make([]uint64, words), at, own), api.ErrCorrupt)
			}
		}
		for at := range 8 {
			m := twins(words, 2)
			m[at]++
			for other := 8; other < 16; other++ {
				nothing(t, changed(m, other, m[other]-1), api.ErrCorrupt)
			}
		}
		for n := 1; n < 8; n++ {
			nothing(t, put(put(make([]uint64, words), 0, own[:n]), 8+n, own[n:]), api.ErrCorrupt)
			nothing(t, put(put(make([]uint64, words), 8, own[:n]), n, own[n:]), api.ErrCorrupt)
		}
	}
}

// All three: image.Check's error goes before ErrCorrupt, and nothing else is given, whatever stands in the copies.
func TestNoImage(t *testing.T) {
	for words := range 2100 {
		if words >= 256 && words <= 2048 && words%8 == 0 {
			continue
		}
		nothing(t, make([]uint64, words), api.ErrBad)
		nothing(t, roomy(some(words)), api.ErrBad)
		if words >= 16 {
			nothing(t, twins(words, 2), api.ErrBad)
			nothing(t, with(words, wordsOf(256, 2), wordsOf(256, 2)), api.ErrBad)
		}
	}
	m := twins(2048, 2)
	for _, l := range [][]uint64{nil, {}, m[:0], m[:1], m[:8], m[:16], m[:2047], m[1:], append(m, 0), append(m, m...), make([]uint64, 1<<16)} {
		nothing(t, l, api.ErrBad)
	}
}

// P7.3: one spoilt copy is healed by the other one: each value of each byte of a copy.
func TestOneByte(t *testing.T) {
	for at := range 16 {
		for place := range 8 {
			for flip := 1; flip < 256; flip++ {
				m := twins(256, 5)
				was := m[at]
				m[at] ^= uint64(flip) << (8 * place)
				s, right, e := twin.Read(m)
				if s != (api.Super{Words: 256, Types: 5}) || right != [2]bool{at >= 8, at < 8} || e != api.OK {
					t.Fatalf("the word %d is %#x: %v, %v, %v", at, m[at], s, right, e)
				}
				l, e := twin.Heal(m)
				if !slices.Equal(l, []api.Entry{{At: at, Value: was}}) || e != api.OK {
					t.Fatalf("the word %d is %#x: Heal gives %#x, %v", at, m[at], l, e)
				}
				v, e := twin.View(m)
				if !slices.Equal(v, twins(256, 5)) || e != api.OK {
					t.Fatalf("the word %d is %#x: View gives %#x, %v", at, m[at], v, e)
				}
			}
		}
	}
}

// P7.3: the same for all superblocks, with another word in each place.
func TestOneWord(t *testing.T) {
	for _, words := range sizes() {
		for types := range 9 {
			m := twins(words, types)
			at := (words/8 + types) % 16
			o := check(t, changed(m, at, ^m[at]))
			if o.super != (api.Super{Words: words, Types: types}) || !slices.Equal(o.heal, []api.Entry{{At: at, Value: m[at]}}) {
				t.Fatalf("%d words, %d types, another word at %d: %v, %v", words, types, at, o.super, o.heal)
			}
		}
	}
}

// P7.3: whatever is in the place of one copy, the image has the superblock of both, as long as what stands in the first place is not another one.
func TestWhatever(t *testing.T) {
	for _, words := range someSizes {
		for types := range 9 {
			own, m := wordsOf(words, types), twins(words, types)
			want := api.Super{Words: words, Types: types}
			for _, l := range places(words) {
				if s, _, e := twin.Read(with(words, own, l)); s != want || e != api.OK {
					t.Fatalf("%v, the second copy is %#x: %v, %v", want, l, s, e)
				}
				first := with(words, l, own)
				s, right, e := twin.Read(first)
				if e != api.OK || !right[1] || !right[0] && s != want {
					t.Fatalf("%v, the first copy is %#x: %v, %v, %v", want, l, s, right, e)
				}
				v, e := twin.View(first)
				if other := s != want; e != api.OK || slices.Equal(v, m) == other {
					t.Fatalf("%v, the first copy is %#x, with %v: View gives %#x, %v", want, l, s, v[:16], e)
				}
			}
		}
	}
}

// P7.2 and P7.3: what Heal tells, in increasing order, of one copy at most, makes the view; that has two right copies of the superblock of the image, all other words, and nothing to heal.
func TestAfterHealing(t *testing.T) {
	for _, words := range []int{256, 1024, 2048} {
		for _, first := range places(words) {
			for _, second := range places(words) {
				m := with(words, first, second)
				if typesAt(m, 0) >= 0 || typesAt(m, 8) >= 0 {
					healAndCompare(t, m)
				}
			}
		}
	}
}

// healAndCompare fails unless an image, with a right copy, is healed as it should be.
func healAndCompare(t *testing.T, m []uint64) {
	t.Helper()
	s, _, _ := twin.Read(m)
	l, e := twin.Heal(m)
	v, f := twin.View(m)
	if e != api.OK || f != api.OK || len(v) != len(m) {
		t.Fatalf("%#x: Heal gives %v, View %d words, %v", m[:16], e, len(v), f)
	}
	made := slices.Clone(m)
	for i, x := range l {
		if x.At < 0 || x.At > 15 || i > 0 && x.At <= l[i-1].At || x.At/8 != l[0].At/8 || m[x.At] == x.Value {
			t.Fatalf("%#x: Heal gives %#x", m[:16], l)
		}
		made[x.At] = x.Value
	}
	if !slices.Equal(made, v) || !slices.Equal(v[16:], m[16:]) {
		t.Fatalf("%#x: what Heal gives is not what View changes", m[:16])
	}
	if again, right, e := twin.Read(v); again != s || right != [2]bool{true, true} || e != api.OK || !slices.Equal(v[:8], v[8:16]) {
		t.Fatalf("%#x has %v; healed it has %v, %v, %v", m[:16], s, again, right, e)
	}
	if l, e := twin.Heal(v); len(l) != 0 || e != api.OK {
		t.Fatalf("%#x: healed, Heal gives %#x, %v", m[:16], l, e)
	}
	if w, e := twin.View(v); !slices.Equal(w, v) || e != api.OK {
		t.Fatalf("%#x: healed, View gives another image, %v", m[:16], e)
	}
}

// P7.3: words behind the copies make no difference to them, and stay.
func TestOtherWordsStay(t *testing.T) {
	for _, words := range []int{256, 2048} {
		for at := 16; at < words; at++ {
			m := changed(twins(words, 4), 9, 0)
			for _, v := range []uint64{0, math.MaxUint64} {
				o := check(t, changed(m, at, v))
				if !slices.Equal(o.heal, []api.Entry{{At: 9, Value: 1}}) || o.view[at] != v {
					t.Fatalf("%d words, %#x at %d: %v, %#x there", words, v, at, o.heal, o.view[at])
				}
			}
		}
		l := wordsOf(words, 7)
		for at := 16; at <= words-8; at++ {
			if o := check(t, put(twins(words, 4), at, l)); o.super.Types != 4 {
				t.Fatalf("another superblock at %d: %v", at, o.super)
			}
		}
	}
}

// variety returns images of all kinds, and what is no image.
func variety() [][]uint64 {
	own, other := wordsOf(256, 2), wordsOf(256, 6)
	return [][]uint64{
		nil, some(255), some(256), twins(256, 2), twins(2048, 8), some(2049),
		with(256, own, other), with(256, other, own), with(256, own, nil), with(256, nil, own), with(264, own, own),
	}
}

// P1, R2: images are not modified, up to their capacity, what is given shares no memory with them, and what is behind them makes no difference.
func TestArgumentsStay(t *testing.T) {
	for _, m := range variety() {
		one := roomy(m)
		was := slices.Clone(one[:cap(one)])
		check(t, one)
		l, _ := twin.Heal(one)
		v, _ := twin.View(one)
		clear(l[:cap(l)])
		clear(v[:cap(v)])
		if !slices.Equal(one[:cap(one)], was) {
			t.Fatalf("%d words were modified, or share memory with what was given", len(m))
		}
		check(t, slices.Clip(slices.Clone(m)))
	}
}

// P1, R2: a part of a longer list is an image like any other, and what is around it stays.
func TestPartOfList(t *testing.T) {
	whole := append(append(some(100), changed(twins(256, 2), 3, 9)...), some(50)...)
	was := slices.Clone(whole)
	o := check(t, whole[100:356])
	if !slices.Equal(o.heal, []api.Entry{{At: 3, Value: 2}}) {
		t.Errorf("Heal of a part gives %v", o.heal)
	}
	v, _ := twin.View(whole[100:356])
	clear(v[:cap(v)])
	if !slices.Equal(whole, was) {
		t.Error("what is around the image was modified")
	}
}

// P1, R2: results share no memory with each other, and nothing is kept from call to call.
func TestNothingIsKept(t *testing.T) {
	for _, m := range variety() {
		want, _ := expected(m)
		for range 3 {
			check(t, m)
			l, _ := twin.Heal(m)
			v, _ := twin.View(m)
			again, _ := twin.Heal(m)
			view, _ := twin.View(m)
			clear(l[:cap(l)])
			clear(v[:cap(v)])
			for _, other := range variety() {
				check(t, other)
			}
			if !slices.Equal(again, want.heal) || !slices.Equal(view, want.view) {
				t.Fatalf("%d words: what was given is shared with another result", len(m))
			}
		}
	}
}
