package crash_test

import (
	"math"
	"slices"
	"testing"

	"ballast/api"
	"ballast/cache"
	"ballast/crash"
)

// some returns so many words that all differ, with room behind them that is not theirs.
func some(words int) []uint64 {
	l := make([]uint64, words, words+16)
	for i := range l[:cap(l)] {
		l[:cap(l)][i] = 0x9e3779b97f4a7c15 * uint64(i+1)
	}
	return l
}

// dirtyAt returns dirty words with some addresses, each third one flushed, with room behind them that is not theirs.
func dirtyAt(places ...int) []api.Dirty {
	l := make([]api.Dirty, 0, len(places)+4)
	for i, at := range places {
		l = append(l, api.Dirty{At: at, Value: ^uint64(i), Flushed: i%3 == 1})
	}
	for i := len(l); i < cap(l); i++ {
		l[:cap(l)][i] = api.Dirty{At: -7, Value: 77, Flushed: true}
	}
	return l
}

// steps returns the addresses from one on, each so many further, of so many words.
func steps(from, step, words int) []int {
	var l []int
	for at := from; at < words; at += step {
		l = append(l, at)
	}
	return l
}

// good returns devices that are valid, of many kinds, made anew by each call.
func good() []api.Device {
	flushed, zero := dirtyAt(steps(3, 5, 256)...), dirtyAt(steps(0, 3, 256)...)
	for i := range flushed {
		flushed[i].Flushed = true
	}
	for i := range zero {
		zero[i].Value, zero[i].Flushed = 0, false
	}
	return []api.Device{
		{Image: make([]uint64, 256), Left: -1},
		{Image: some(256)},
		{Image: some(256), Dirty: make([]api.Dirty, 0, 4), Left: 3},
		{Image: some(256), Down: true},
		{Image: some(264), Dirty: dirtyAt(0), Left: -1},
		{Image: some(264), Dirty: dirtyAt(263), Left: 1000000},
		{Image: some(264), Dirty: dirtyAt(7, 8, 15, 16, 17, 255, 256), Left: 1},
		{Image: some(264), Dirty: dirtyAt(7, 8, 15, 16, 17, 255, 256), Left: 0},
		{Image: some(264), Dirty: dirtyAt(7, 8, 15, 16, 17, 255, 256), Down: true},
		{Image: some(256), Dirty: dirtyAt(steps(10, 1, 73)...), Left: -1},
		{Image: some(256), Dirty: dirtyAt(steps(10, 1, 74)...), Left: -1},
		{Image: some(256), Dirty: dirtyAt(steps(10, 1, 75)...), Left: -1},
		{Image: some(256), Dirty: dirtyAt(steps(0, 1, 256)...), Left: 999999},
		{Image: some(256), Dirty: flushed, Left: 2},
		{Image: some(256), Dirty: zero, Down: true},
		{Image: some(512), Dirty: dirtyAt(steps(1, 2, 512)...), Left: -1},
		{Image: some(2048), Dirty: dirtyAt(steps(0, 1, 2048)...), Down: true},
		{Image: some(2048), Dirty: dirtyAt(0, 2047), Left: 5},
	}
}

// bad returns devices that are not valid, each for one reason or two.
func bad() []api.Device {
	var l []api.Device
	for _, words := range []int{0, 1, 8, 248, 255, 257, 260, 2047, 2049, 2056, 4096} {
		l = append(l, api.Device{Image: some(words), Left: -1}, api.Device{Image: some(words), Dirty: dirtyAt(0), Down: true})
	}
	l = append(l, api.Device{}, api.Device{Left: -1}, api.Device{Image: make([]uint64, 255, 256)})
	for _, places := range [][]int{
		{-1}, {math.MinInt}, {math.MaxInt}, {256}, {264}, {2048}, {-1, 0}, {255, 256},
		{5, 5}, {6, 5}, {0, 0}, {1, 2, 2}, {1, 3, 2, 4}, {0, math.MinInt}, {5, -1, 6},
	} {
		l = append(l, api.Device{Image: some(256), Dirty: dirtyAt(places...), Left: -1}, api.Device{Image: some(256), Dirty: dirtyAt(places...), Down: true})
	}
	for _, left := range []int{-2, 1000001, 1 << 32, math.MinInt, math.MaxInt} {
		l = append(l, api.Device{Image: some(256), Left: left}, api.Device{Image: some(256), Dirty: dirtyAt(9), Left: left, Down: true})
	}
	for _, left := range []int{-1, 1, 1000000} {
		l = append(l, api.Device{Image: some(256), Dirty: dirtyAt(9), Left: left, Down: true})
	}
	return l
}

// masks has masks of many kinds, and each one with one bit, or all but one.
func masks() []uint64 {
	l := []uint64{0, math.MaxUint64, 2, 3, 0x205, 0xaaaaaaaaaaaaaaaa, 0x5555555555555555, 0xffffffff, 0xffffffff << 32, 0x9e3779b97f4a7c15, 1<<63 | 1}
	for i := range 64 {
		l = append(l, uint64(1)<<i, ^(uint64(1) << i))
	}
	return l
}

// isKept says, as the chapter defines it, whether a mask keeps the dirty word with an index.
func isKept(i int, mask uint64) bool {
	for range i % 64 {
		mask /= 2
	}
	return mask%2 == 1
}

// chosenOf returns, as the chapter defines it, what a mask keeps of so many dirty words.
func chosenOf(words int, mask uint64) []int {
	var l []int
	for i := range words {
		if isKept(i, mask) {
			l = append(l, i)
		}
	}
	return l
}

// crashOf returns, as the chapter defines it, a device after a crash.
func crashOf(d api.Device, mask uint64) api.Device {
	m := slices.Clone(d.Image)
	for i, x := range d.Dirty {
		if isKept(i, mask) {
			m[x.At] = x.Value
		}
	}
	return api.Device{Image: m, Left: -1}
}

func same(a, b api.Device) bool {
	return slices.Equal(a.Image, b.Image) && slices.Equal(a.Dirty, b.Dirty) && a.Left == b.Left && a.Down == b.Down
}

// isZero says whether there is nothing in a device.
func isZero(d api.Device) bool { return d.Image == nil && d.Dirty == nil && d.Left == 0 && !d.Down }

func arm(t *testing.T, d api.Device, left int) api.Device {
	t.Helper()
	r, e := crash.Arm(d, left)
	if e != api.OK {
		t.Fatalf("Arm(%d): %v", left, e)
	}
	return r
}

func chosen(t *testing.T, d api.Device, mask uint64) []int {
	t.Helper()
	l, e := crash.Chosen(d, mask)
	if e != api.OK {
		t.Fatalf("Chosen(%#x): %v", mask, e)
	}
	return l
}

func crashed(t *testing.T, d api.Device, mask uint64) api.Device {
	t.Helper()
	r, e := crash.Crash(d, mask)
	if e != api.OK {
		t.Fatalf("Crash(%#x): %v", mask, e)
	}
	return r
}

func view(t *testing.T, d api.Device) []uint64 {
	t.Helper()
	m, e := cache.View(d)
	if e != api.OK {
		t.Fatalf("View: %v", e)
	}
	return m
}

func store(t *testing.T, d api.Device, at int, v uint64) api.Device {
	t.Helper()
	r, e := cache.Store(d, at, v)
	if e != api.OK {
		t.Fatalf("Store(%d, %#x): %v", at, v, e)
	}
	return r
}

func flush(t *testing.T, d api.Device, at int) api.Device {
	t.Helper()
	r, e := cache.Flush(d, at)
	if e != api.OK {
		t.Fatalf("Flush(%d): %v", at, e)
	}
	return r
}

func fence(t *testing.T, d api.Device) api.Device {
	t.Helper()
	r, e := cache.Fence(d)
	if e != api.OK {
		t.Fatalf("Fence: %v", e)
	}
	return r
}

func makeNew(t *testing.T, m []uint64) api.Device {
	t.Helper()
	d, e := cache.New(m)
	if e != api.OK {
		t.Fatalf("New(%d words): %v", len(m), e)
	}
	return d
}

// The chapter's example.
func TestExample(t *testing.T) {
	d := store(t, store(t, makeNew(t, make([]uint64, 256)), 9, 5), 12, 6)
	r := crashed(t, d, 2)
	if r.Image[9] != 0 || r.Image[12] != 6 || len(r.Dirty) != 0 {
		t.Errorf("behind the crash there are %d at 9, %d at 12, dirty %v; want 0, 6, nothing", r.Image[9], r.Image[12], r.Dirty)
	}
	if l := chosen(t, d, 2); !slices.Equal(l, []int{1}) {
		t.Errorf("Chosen: %v; want 1", l)
	}
}

// lefts has numbers with which a device may be armed, and others.
func lefts() (right, wrong []int) {
	right = []int{-1, 0, 1, 2, 3, 63, 64, 2048, 999999, 1000000}
	wrong = []int{math.MinInt, -1 << 32, -1000000, -3, -2, 1000001, 1000002, 1 << 31, 1 << 32, 1<<32 - 1, math.MaxInt}
	return right, wrong
}

// P4.1: an armed device has the number as its Left, is not down, and has all else as before.
func TestArm(t *testing.T) {
	right, _ := lefts()
	for i, d := range good() {
		for _, left := range right {
			want := api.Device{Image: d.Image, Dirty: d.Dirty, Left: left}
			if r := arm(t, d, left); !same(r, want) || cache.Check(r) != api.OK {
				t.Fatalf("good %d, armed with %d: dirty %v, Left %d, Down %v", i, left, r.Dirty, r.Left, r.Down)
			}
		}
	}
}

// P4.1: ErrArg for numbers that are not from -1 to 1000000, and nothing else is given.
func TestArmRange(t *testing.T) {
	_, wrong := lefts()
	for i, d := range good() {
		for _, left := range wrong {
			if r, e := crash.Arm(d, left); !isZero(r) || e != api.ErrArg {
				t.Fatalf("good %d, Arm(%d) = %v; want nothing, ErrArg", i, left, e)
			}
		}
	}
}

// P4.1: an armed device makes just so many operations, also if it was down.
func TestArmedOperations(t *testing.T) {
	for i, d := range good() {
		for left := range 5 {
			r := arm(t, d, left)
			for n := range left {
				if r = store(t, r, n, 5); r.Down || r.Left != left-n-1 {
					t.Fatalf("good %d, armed with %d: behind %d operations Left is %d, Down %v", i, left, n+1, r.Left, r.Down)
				}
			}
			want := view(t, d)
			for n := range left {
				want[n] = 5
			}
			if r = store(t, r, left, 5); !r.Down || r.Left != 0 || !slices.Equal(view(t, r), want) {
				t.Fatalf("good %d, armed with %d: behind one more operation Left is %d, Down %v", i, left, r.Left, r.Down)
			}
		}
	}
}

// P4.1: a device is armed again, and then the last number counts.
func TestArmAgain(t *testing.T) {
	right, _ := lefts()
	for i, d := range good() {
		for _, one := range right {
			for _, two := range right {
				if a, b := arm(t, arm(t, d, one), two), arm(t, d, two); !same(a, b) {
					t.Fatalf("good %d, armed with %d, and then with %d: Left %d, Down %v", i, one, two, a.Left, a.Down)
				}
			}
		}
	}
}

// P4.2: Chosen and Crash by hand, so that they do not hang on the definitions above.
func TestByHand(t *testing.T) {
	m := make([]uint64, 256)
	m[0], m[9], m[10], m[255] = 1, 2, 3, 4
	d := api.Device{Image: m, Dirty: []api.Dirty{{At: 0}, {At: 9, Value: 11, Flushed: true}, {At: 10, Value: 12}, {At: 255, Value: 13, Flushed: true}}, Left: 7}
	for _, c := range []struct {
		mask   uint64
		chosen []int
		at     [4]uint64
	}{
		{0, nil, [4]uint64{1, 2, 3, 4}},
		{1, []int{0}, [4]uint64{0, 2, 3, 4}},
		{2, []int{1}, [4]uint64{1, 11, 3, 4}},
		{4, []int{2}, [4]uint64{1, 2, 12, 4}},
		{8, []int{3}, [4]uint64{1, 2, 3, 13}},
		{5, []int{0, 2}, [4]uint64{0, 2, 12, 4}},
		{10, []int{1, 3}, [4]uint64{1, 11, 3, 13}},
		{15, []int{0, 1, 2, 3}, [4]uint64{0, 11, 12, 13}},
		{16, nil, [4]uint64{1, 2, 3, 4}},
		{1 << 63, nil, [4]uint64{1, 2, 3, 4}},
		{math.MaxUint64, []int{0, 1, 2, 3}, [4]uint64{0, 11, 12, 13}},
	} {
		if l := chosen(t, d, c.mask); !slices.Equal(l, c.chosen) {
			t.Errorf("Chosen(%#x) = %v; want %v", c.mask, l, c.chosen)
		}
		want := make([]uint64, 256)
		want[0], want[9], want[10], want[255] = c.at[0], c.at[1], c.at[2], c.at[3]
		if r := crashed(t, d, c.mask); !slices.Equal(r.Image, want) || len(r.Dirty) != 0 || r.Left != -1 || r.Down {
			t.Errorf("Crash(%#x): %d, %d, %d, %d; dirty %v, Left %d, Down %v", c.mask, r.Image[0], r.Image[9], r.Image[10], r.Image[255], r.Dirty, r.Left, r.Down)
		}
	}
}

// P4.2: the bits of a mask stand for the indices from 64 on again, by hand.
func TestBitsAgain(t *testing.T) {
	d := api.Device{Image: make([]uint64, 256), Left: -1}
	for at := 10; at < 10+130; at++ {
		d.Dirty = append(d.Dirty, api.Dirty{At: at, Value: 7})
	}
	for _, c := range []struct {
		mask   uint64
		chosen []int
	}{
		{1, []int{0, 64, 128}},
		{2, []int{1, 65, 129}},
		{4, []int{2, 66}},
		{1 << 63, []int{63, 127}},
		{1<<63 | 1, []int{0, 63, 64, 127, 128}},
	} {
		if l := chosen(t, d, c.mask); !slices.Equal(l, c.chosen) {
			t.Errorf("Chosen(%#x) = %v; want %v", c.mask, l, c.chosen)
		}
		r := crashed(t, d, c.mask)
		for at, v := range r.Image {
			want := uint64(0)
			if slices.Contains(c.chosen, at-10) {
				want = 7
			}
			if v != want {
				t.Errorf("Crash(%#x): %d at %d; want %d", c.mask, v, at, want)
			}
		}
	}
}

// P4.2: Chosen, for devices of all kinds and many masks.
func TestChosen(t *testing.T) {
	for i, d := range good() {
		for _, mask := range masks() {
			if l, want := chosen(t, d, mask), chosenOf(len(d.Dirty), mask); !slices.Equal(l, want) {
				t.Fatalf("good %d, Chosen(%#x) = %v; want %v", i, mask, l, want)
			}
		}
	}
}

// P4.2: Crash, for devices of all kinds and many masks.
func TestCrash(t *testing.T) {
	for i, d := range good() {
		for _, mask := range masks() {
			if r := crashed(t, d, mask); !same(r, crashOf(d, mask)) || cache.Check(r) != api.OK {
				t.Fatalf("good %d, Crash(%#x): dirty %v, Left %d, Down %v", i, mask, r.Dirty, r.Left, r.Down)
			}
		}
	}
}

// P4.2: whether a word was flushed makes no difference.
func TestFlushedOrNot(t *testing.T) {
	for i, d := range good() {
		for _, mask := range masks() {
			for _, flushed := range []bool{false, true} {
				r := d
				r.Dirty = slices.Clone(d.Dirty)
				for k := range r.Dirty {
					r.Dirty[k].Flushed = flushed
				}
				if !same(crashed(t, r, mask), crashOf(d, mask)) || !slices.Equal(chosen(t, r, mask), chosenOf(len(d.Dirty), mask)) {
					t.Fatalf("good %d, all flushed: %v: the crash with %#x is another one", i, flushed, mask)
				}
			}
		}
	}
}

// P4.2: the device's Left, and whether it is down, make no difference, and it makes any number of operations behind the crash.
func TestBehindCrash(t *testing.T) {
	right, _ := lefts()
	for i, d := range good() {
		want := crashOf(d, 5)
		for _, left := range right {
			if r := crashed(t, arm(t, d, left), 5); !same(r, want) {
				t.Fatalf("good %d, armed with %d: behind the crash Left is %d, Down %v", i, left, r.Left, r.Down)
			}
		}
		r := crashed(t, d, 5)
		r = fence(t, flush(t, store(t, r, 9, 4), 9))
		want.Image[9] = 4
		if !same(r, want) {
			t.Fatalf("good %d: 4 was stored at 9 behind the crash, there is %d", i, r.Image[9])
		}
	}
}

// P4.3: each word of the image after a crash is old or new, and it is new just where it is kept, or not dirty.
func TestOldOrNew(t *testing.T) {
	for i, d := range good() {
		loaded := view(t, d)
		for _, mask := range masks() {
			r, l := crashed(t, d, mask), chosen(t, d, mask)
			for at, v := range r.Image {
				if v != d.Image[at] && v != loaded[at] {
					t.Fatalf("good %d, mask %#x: there is %#x at %d, which is neither old nor new", i, mask, v, at)
				}
			}
			for k, x := range d.Dirty {
				want := d.Image[x.At]
				if slices.Contains(l, k) {
					want = x.Value
				}
				if r.Image[x.At] != want {
					t.Fatalf("good %d, mask %#x: there is %#x at %d; want %#x", i, mask, r.Image[x.At], x.At, want)
				}
			}
		}
	}
}

// P4.3: words that were fenced, and not stored since, are as they were loaded, whatever the mask is.
func TestFenced(t *testing.T) {
	for _, mask := range masks() {
		d := makeNew(t, some(256))
		for at := 20; at < 44; at++ {
			d = store(t, d, at, uint64(at))
		}
		d = fence(t, flush(t, flush(t, d, 25), 33))
		d = store(t, d, 34, 1000)
		d = flush(t, d, 40)
		r := crashed(t, d, mask)
		for at := 24; at < 40; at++ {
			if at != 34 && r.Image[at] != uint64(at) {
				t.Fatalf("mask %#x: %d was fenced, there is %#x", mask, at, r.Image[at])
			}
		}
		if v := r.Image[34]; v != 34 && v != 1000 {
			t.Fatalf("mask %#x: at 34 is %#x", mask, v)
		}
	}
	for i, d := range good() {
		d.Left, d.Down = -1, false
		for _, x := range d.Dirty {
			d = flush(t, d, x.At)
		}
		d = fence(t, d)
		for _, mask := range masks() {
			if r := crashed(t, d, mask); !slices.Equal(r.Image, view(t, d)) || len(chosen(t, d, mask)) != 0 {
				t.Fatalf("good %d, all fenced: a crash with %#x changed words", i, mask)
			}
		}
	}
}

// P4.3: with a mask of ones the image is what was loaded, with 0 it is the image.
func TestAllOrNone(t *testing.T) {
	for i, d := range good() {
		if r := crashed(t, d, math.MaxUint64); !slices.Equal(r.Image, view(t, d)) || len(chosen(t, d, math.MaxUint64)) != len(d.Dirty) {
			t.Errorf("good %d: a crash with ones does not keep all", i)
		}
		if r := crashed(t, d, 0); !slices.Equal(r.Image, d.Image) || len(chosen(t, d, 0)) != 0 {
			t.Errorf("good %d: a crash with 0 keeps something", i)
		}
	}
}

// P4.3: a crash after a crash changes nothing.
func TestCrashAgain(t *testing.T) {
	for i, d := range good() {
		for _, mask := range masks() {
			r := crashed(t, d, mask)
			for _, other := range []uint64{0, 1, mask, ^mask, math.MaxUint64} {
				if !same(crashed(t, r, other), r) || len(chosen(t, r, other)) != 0 {
					t.Fatalf("good %d: a crash with %#x, after one with %#x, changed something", i, other, mask)
				}
			}
		}
	}
}

// P4.3: what is kept by two masks together is what either of them keeps.
func TestTwoMasks(t *testing.T) {
	for i, d := range good() {
		for _, a := range masks() {
			for _, b := range []uint64{0, 1, 1 << 63, 0x5555555555555555, 0xffffffff, a, ^a} {
				want := append(chosen(t, d, a), chosen(t, d, b)...)
				slices.Sort(want)
				want = slices.Compact(want)
				if l := chosen(t, d, a|b); !slices.Equal(l, want) {
					t.Fatalf("good %d: %#x and %#x together keep %v; want %v", i, a, b, l, want)
				}
			}
		}
	}
}

// P1, R1: a device that is not valid is told first, and nothing else is given.
func TestBadFirst(t *testing.T) {
	right, wrong := lefts()
	for i, d := range bad() {
		for _, left := range append(right, wrong...) {
			if r, e := crash.Arm(d, left); !isZero(r) || e != api.ErrBad {
				t.Fatalf("bad %d, Arm(%d) = %v; want nothing, ErrBad", i, left, e)
			}
		}
		for _, mask := range masks() {
			if l, e := crash.Chosen(d, mask); l != nil || e != api.ErrBad {
				t.Fatalf("bad %d, Chosen(%#x) = %v, %v; want nothing, ErrBad", i, mask, l, e)
			}
			if r, e := crash.Crash(d, mask); !isZero(r) || e != api.ErrBad {
				t.Fatalf("bad %d, Crash(%#x) = %v; want nothing, ErrBad", i, mask, e)
			}
		}
	}
}

// results gives what each function gives of a device.
func results(t *testing.T, d api.Device) ([]api.Device, [][]int) {
	t.Helper()
	ones := uint64(math.MaxUint64)
	devices := []api.Device{arm(t, d, -1), arm(t, d, 0), arm(t, d, d.Left), crashed(t, d, 0), crashed(t, d, 2), crashed(t, d, ones)}
	return devices, [][]int{chosen(t, d, 0), chosen(t, d, 2), chosen(t, d, ones)}
}

// spoil changes all that a device refers to, including what is between a length and a capacity.
func spoil(d api.Device) {
	m, l := d.Image[:cap(d.Image)], d.Dirty[:cap(d.Dirty)]
	for i := range m {
		m[i] = ^m[i]
	}
	for i := range l {
		l[i] = api.Dirty{At: -1, Value: ^l[i].Value, Flushed: !l[i].Flushed}
	}
}

// copied returns a device in memory of its own.
func copied(d api.Device) api.Device {
	d.Image, d.Dirty = slices.Clone(d.Image), slices.Clone(d.Dirty)
	return d
}

// P1, R2: arguments are not modified, up to their capacity, and results share no memory with them.
func TestArgumentsStay(t *testing.T) {
	for i, d := range good() {
		devices, _ := results(t, d)
		for _, r := range devices {
			spoil(r)
		}
		crash.Arm(d, -2)
		was := good()[i]
		if !same(d, was) {
			t.Errorf("good %d: the device was modified", i)
		}
		if !slices.Equal(d.Image[:cap(d.Image)], was.Image[:cap(was.Image)]) || !slices.Equal(d.Dirty[:cap(d.Dirty)], was.Dirty[:cap(was.Dirty)]) {
			t.Errorf("good %d: what is behind the words of the device was modified", i)
		}
	}
}

// P1, R2: results share no memory with each other, and nothing is kept from call to call.
func TestNothingIsKept(t *testing.T) {
	for i, d := range good() {
		one, chosen := results(t, d)
		two, others := results(t, d)
		for k := range one {
			want := copied(one[k])
			spoil(one[k])
			results(t, good()[4])
			if !same(two[k], want) {
				t.Errorf("good %d: the result %d shares memory with another one", i, k)
			}
		}
		for k := range chosen {
			want := slices.Clone(chosen[k])
			for n := range chosen[k] {
				chosen[k][n] = -1
			}
			if !slices.Equal(others[k], want) {
				t.Errorf("good %d: what Chosen gave shares memory with another result", i)
			}
		}
	}
}

// P1, R3: nothing dirty is the same, whether it is nil or empty, and whatever room is behind it.
func TestNothingDirty(t *testing.T) {
	want := api.Device{Image: some(256), Left: -1}
	for _, dirty := range [][]api.Dirty{nil, {}, make([]api.Dirty, 0, 8), dirtyAt(5, 4, 5)[:0]} {
		d := api.Device{Image: some(256), Dirty: dirty, Down: true}
		for _, mask := range masks() {
			if r := crashed(t, d, mask); !same(r, want) || len(chosen(t, d, mask)) != 0 {
				t.Errorf("a crash with %#x where nothing is dirty: dirty %v, Left %d, Down %v", mask, r.Dirty, r.Left, r.Down)
			}
		}
		if r := arm(t, d, -1); !same(r, want) {
			t.Errorf("armed where nothing is dirty: dirty %v, Left %d, Down %v", r.Dirty, r.Left, r.Down)
		}
	}
}
