package cache_test

import (
	"maps"
	"math"
	"slices"
	"testing"

	"ballast/api"
	"ballast/cache"
)

// plain is a device as the chapter defines it, address by address.
type plain struct {
	image   []uint64
	value   map[int]uint64
	flushed map[int]bool
	left    int
	down    bool
}

func plainOf(d api.Device) plain {
	p := plain{slices.Clone(d.Image), map[int]uint64{}, map[int]bool{}, d.Left, d.Down}
	for _, x := range d.Dirty {
		p.value[x.At], p.flushed[x.At] = x.Value, x.Flushed
	}
	return p
}

func (p plain) device() api.Device {
	d := api.Device{Image: slices.Clone(p.image), Left: p.left, Down: p.down}
	for _, at := range slices.Sorted(maps.Keys(p.value)) {
		d.Dirty = append(d.Dirty, api.Dirty{At: at, Value: p.value[at], Flushed: p.flushed[at]})
	}
	return d
}

func (p plain) word(at int) uint64 {
	if v, ok := p.value[at]; ok {
		return v
	}
	return p.image[at]
}

// made counts an operation, and says whether it is made.
func (p *plain) made() bool {
	switch {
	case p.down:
		return false
	case p.left == 0:
		p.down = true
		return false
	case p.left != -1:
		p.left--
	}
	return true
}

func (p *plain) store(at int, v uint64) {
	if p.made() {
		p.value[at], p.flushed[at] = v, false
	}
}

func (p *plain) flush(at int) {
	if !p.made() {
		return
	}
	for dirty := range p.value {
		if dirty/8 == at/8 {
			p.flushed[dirty] = true
		}
	}
}

func (p *plain) fence() {
	if !p.made() {
		return
	}
	for at := range p.image {
		if p.flushed[at] {
			p.image[at] = p.value[at]
			delete(p.value, at)
			delete(p.flushed, at)
		}
	}
}

// some returns so many words that all differ, with room behind them that is not theirs.
func some(words int) []uint64 {
	l := make([]uint64, words, words+16)
	for i := range l[:cap(l)] {
		l[:cap(l)][i] = 0x9e3779b97f4a7c15 * uint64(i+1)
	}
	return l
}

// dirtyAt returns dirty words with some addresses, each third one flushed, with room behind them that is not theirs.
func dirtyAt(places ...int) []api.Dirty {
	l := make([]api.Dirty, 0, len(places)+4)
	for i, at := range places {
		l = append(l, api.Dirty{At: at, Value: ^uint64(i), Flushed: i%3 == 1})
	}
	for i := len(l); i < cap(l); i++ {
		l[:cap(l)][i] = api.Dirty{At: -7, Value: 77, Flushed: true}
	}
	return l
}

// steps returns the addresses from one on, each so many further, of so many words.
func steps(from, step, words int) []int {
	var l []int
	for at := from; at < words; at += step {
		l = append(l, at)
	}
	return l
}

// good returns devices that are valid, of many kinds, made anew by each call.
func good() []api.Device {
	flushed := dirtyAt(steps(3, 5, 256)...)
	for i := range flushed {
		flushed[i].Flushed = true
	}
	return []api.Device{
		{Image: make([]uint64, 256), Left: -1},
		{Image: some(256)},
		{Image: some(256), Dirty: make([]api.Dirty, 0, 4), Left: 3},
		{Image: some(256), Down: true},
		{Image: some(264), Dirty: dirtyAt(0), Left: -1},
		{Image: some(264), Dirty: dirtyAt(263), Left: 1},
		{Image: some(264), Dirty: dirtyAt(7, 8, 15, 16, 17, 255, 256), Left: 1000000},
		{Image: some(264), Dirty: dirtyAt(7, 8, 15, 16, 17, 255, 256), Left: 0},
		{Image: some(264), Dirty: dirtyAt(7, 8, 15, 16, 17, 255, 256), Down: true},
		{Image: some(256), Dirty: dirtyAt(steps(0, 1, 256)...), Left: 999999},
		{Image: some(256), Dirty: flushed, Left: 2},
		{Image: some(512), Dirty: dirtyAt(steps(1, 2, 512)...), Left: -1},
		{Image: some(2048), Dirty: dirtyAt(steps(0, 1, 2048)...), Left: -1},
		{Image: some(2048), Dirty: dirtyAt(0, 2047), Left: 5},
	}
}

// bad returns devices that are not valid, each for one reason or two.
func bad() []api.Device {
	var l []api.Device
	for _, words := range []int{0, 1, 8, 248, 255, 257, 260, 2047, 2049, 2056, 4096} {
		l = append(l, api.Device{Image: some(words), Left: -1}, api.Device{Image: some(words), Down: true}, api.Device{Image: some(words), Left: -2})
	}
	l = append(l, api.Device{}, api.Device{Left: -1}, api.Device{Image: make([]uint64, 255, 256)}, api.Device{Image: make([]uint64, 0, 256), Dirty: dirtyAt(0)})
	for _, places := range [][]int{
		{-1}, {-8}, {math.MinInt}, {math.MaxInt}, {256}, {257}, {264}, {2048}, {-1, 0}, {-2, -1}, {0, 256}, {255, 256}, {0, 1, 2, 256},
		{5, 5}, {6, 5}, {0, 0}, {255, 255}, {1, 0}, {255, 0}, {1, 2, 2}, {1, 2, 1}, {1, 3, 2, 4}, {1, 2, 4, 3}, {2, 1, 3, 4},
		{0, math.MinInt}, {0, math.MaxInt}, {math.MinInt, math.MaxInt}, {5, -1, 6},
	} {
		for _, left := range []int{-1, 0, 1} {
			l = append(l, api.Device{Image: some(256), Dirty: dirtyAt(places...), Left: left})
		}
	}
	for _, left := range []int{-2, -3, 1000001, 1000002, 1 << 32, math.MinInt, math.MaxInt} {
		l = append(l, api.Device{Image: some(256), Left: left}, api.Device{Image: some(256), Left: left, Down: true})
	}
	for _, left := range []int{-1, 1, 2, 999999, 1000000} {
		l = append(l, api.Device{Image: some(256), Left: left, Down: true})
	}
	return l
}

// none has numbers that are no addresses of so many words.
func none(words int) []int {
	return []int{
		-1, -2, -8, -9, -words, words, words + 1, words + 7, words + 8, 2 * words,
		2048, 2049, 1 << 32, math.MinInt, math.MinInt + 8, math.MaxInt - 7, math.MaxInt,
	}
}

// places has addresses of so many words: those around the ends, and of lines in the middle.
func places(words int) []int {
	l := []int{words/2 - 1, words / 2, words - 9, words - 8, words - 7, words - 2, words - 1}
	for at := range 19 {
		l = append(l, at)
	}
	return l
}

func same(a, b api.Device) bool {
	return slices.Equal(a.Image, b.Image) && slices.Equal(a.Dirty, b.Dirty) && a.Left == b.Left && a.Down == b.Down
}

// isZero says whether there is nothing in a device.
func isZero(d api.Device) bool { return d.Image == nil && d.Dirty == nil && d.Left == 0 && !d.Down }

func load(t *testing.T, d api.Device, at int) uint64 {
	t.Helper()
	v, e := cache.Load(d, at)
	if e != api.OK {
		t.Fatalf("Load(%d): %v", at, e)
	}
	return v
}

func view(t *testing.T, d api.Device) []uint64 {
	t.Helper()
	m, e := cache.View(d)
	if e != api.OK {
		t.Fatalf("View: %v", e)
	}
	return m
}

func store(t *testing.T, d api.Device, at int, v uint64) api.Device {
	t.Helper()
	r, e := cache.Store(d, at, v)
	if e != api.OK {
		t.Fatalf("Store(%d, %#x): %v", at, v, e)
	}
	return r
}

func flush(t *testing.T, d api.Device, at int) api.Device {
	t.Helper()
	r, e := cache.Flush(d, at)
	if e != api.OK {
		t.Fatalf("Flush(%d): %v", at, e)
	}
	return r
}

func fence(t *testing.T, d api.Device) api.Device {
	t.Helper()
	r, e := cache.Fence(d)
	if e != api.OK {
		t.Fatalf("Fence: %v", e)
	}
	return r
}

func makeNew(t *testing.T, m []uint64) api.Device {
	t.Helper()
	d, e := cache.New(m)
	if e != api.OK {
		t.Fatalf("New(%d words): %v", len(m), e)
	}
	return d
}

// The example of the chapter.
func TestExample(t *testing.T) {
	d := store(t, makeNew(t, make([]uint64, 256)), 9, 5)
	if v := load(t, d, 9); v != 5 || d.Image[9] != 0 {
		t.Errorf("5 was stored at 9: %d is loaded, the image has %d", v, d.Image[9])
	}
	d = fence(t, flush(t, d, 15))
	if d.Image[9] != 5 || len(d.Dirty) != 0 {
		t.Errorf("behind a flush and a fence the image has %d at 9, dirty are %v", d.Image[9], d.Dirty)
	}
}

// P3.1: Check, for devices that are valid, and that are not.
func TestCheck(t *testing.T) {
	for i, d := range good() {
		if e := cache.Check(d); e != api.OK {
			t.Errorf("Check(good %d) = %v; want OK", i, e)
		}
	}
	for i, d := range bad() {
		if e := cache.Check(d); e != api.ErrBad {
			t.Errorf("Check(bad %d) = %v; want ErrBad", i, e)
		}
	}
}

// P3.1: an image has just the numbers of words of layer 2, and dirty words have all of its addresses.
func TestCheckWords(t *testing.T) {
	for words := range 2100 {
		want := api.ErrBad
		if words >= 256 && words <= 2048 && words%8 == 0 {
			want = api.OK
		}
		d := api.Device{Image: make([]uint64, words), Left: -1}
		if e := cache.Check(d); e != want {
			t.Fatalf("Check(%d words) = %v; want %v", words, e, want)
		}
	}
	for at := -20; at <= 280; at++ {
		want := api.ErrBad
		if at >= 0 && at <= 255 {
			want = api.OK
		}
		d := api.Device{Image: make([]uint64, 256, 512), Dirty: dirtyAt(at)}
		if e := cache.Check(d); e != want {
			t.Fatalf("Check(dirty at %d) = %v; want %v", at, e, want)
		}
	}
}

// P3.1: two dirty words have any two addresses that increase, flushed or not.
func TestCheckOrder(t *testing.T) {
	for a := range 30 {
		for b := range 30 {
			want := api.ErrBad
			if a < b {
				want = api.OK
			}
			for _, l := range [][]api.Dirty{dirtyAt(a, b), {{At: a, Flushed: true}, {At: b, Flushed: true}}, {{At: a, Value: 2}, {At: b, Value: 1}}} {
				if e := cache.Check(api.Device{Image: make([]uint64, 256), Dirty: l}); e != want {
					t.Fatalf("Check(dirty %v) = %v; want %v", l, e, want)
				}
			}
		}
	}
}

// P3.1: Left is from -1 to 1000000, and 0 if the device is down.
func TestCheckLeft(t *testing.T) {
	for _, left := range []int{math.MinInt, -1000000, -2, -1, 0, 1, 2, 60, 2048, 999999, 1000000, 1000001, 1 << 32, math.MaxInt} {
		for _, down := range []bool{false, true} {
			want := api.ErrBad
			if left == 0 || !down && left >= -1 && left <= 1000000 {
				want = api.OK
			}
			if e := cache.Check(api.Device{Image: make([]uint64, 256), Left: left, Down: down}); e != want {
				t.Errorf("Check(Left %d, Down %v) = %v; want %v", left, down, e, want)
			}
		}
	}
}

// P3.1: New gives a device with the image, and nothing unless this is valid.
func TestNew(t *testing.T) {
	for words := range 2100 {
		m := some(words)
		d, e := cache.New(m)
		if words < 256 || words > 2048 || words%8 != 0 {
			if !isZero(d) || e != api.ErrBad {
				t.Fatalf("New(%d words) = a device with %d words, %v; want none, ErrBad", words, len(d.Image), e)
			}
			continue
		}
		if e != api.OK || !same(d, api.Device{Image: m, Left: -1}) || cache.Check(d) != api.OK {
			t.Fatalf("New(%d words) = %d words, dirty %v, Left %d, Down %v, %v", words, len(d.Image), d.Dirty, d.Left, d.Down, e)
		}
	}
	if d, e := cache.New(nil); !isZero(d) || e != api.ErrBad {
		t.Errorf("New(nil): %v, want ErrBad", e)
	}
}

// P3.2: Load and View give what is dirty, otherwise what the image has, whether the device is down or not.
func TestLoadAndView(t *testing.T) {
	for i, d := range good() {
		p := plainOf(d)
		m := view(t, d)
		if len(m) != len(d.Image) {
			t.Fatalf("good %d: View has %d words; want %d", i, len(m), len(d.Image))
		}
		for at := range d.Image {
			if v := load(t, d, at); v != p.word(at) || m[at] != v {
				t.Fatalf("good %d: at %d are %#x by Load, %#x by View; want %#x", i, at, v, m[at], p.word(at))
			}
		}
	}
}

// P3.2: the first and the last of many dirty words by hand; a dirty word with the value 0 is loaded, too.
func TestLoadByHand(t *testing.T) {
	m := some(256)
	d := api.Device{Image: m, Dirty: []api.Dirty{{At: 0, Value: 0}, {At: 9, Value: 11, Flushed: true}, {At: 10, Value: 12}, {At: 255, Value: 13, Flushed: true}}}
	want := slices.Clone(m)
	want[0], want[9], want[10], want[255] = 0, 11, 12, 13
	if l := view(t, d); !slices.Equal(l, want) {
		t.Errorf("View: %v", l)
	}
	for at := range want {
		if v := load(t, d, at); v != want[at] {
			t.Errorf("Load(%d) = %#x; want %#x", at, v, want[at])
		}
	}
}

// P3.3: Store, for devices of all kinds and addresses around all ends.
func TestStore(t *testing.T) {
	for i, d := range good() {
		for _, at := range places(len(d.Image)) {
			for _, v := range []uint64{0, 1, d.Image[at], math.MaxUint64} {
				p := plainOf(d)
				p.store(at, v)
				if r := store(t, d, at, v); !same(r, p.device()) || cache.Check(r) != api.OK {
					t.Fatalf("good %d, %#x stored at %d: dirty %v, Left %d, Down %v; want %v, %d, %v", i, v, at, r.Dirty, r.Left, r.Down, p.device().Dirty, p.left, p.down)
				}
			}
		}
	}
}

// P3.3: Flush, for devices of all kinds and addresses around all ends.
func TestFlush(t *testing.T) {
	for i, d := range good() {
		for _, at := range places(len(d.Image)) {
			p := plainOf(d)
			p.flush(at)
			if r := flush(t, d, at); !same(r, p.device()) || cache.Check(r) != api.OK {
				t.Fatalf("good %d, flushed at %d: dirty %v, Left %d, Down %v; want %v, %d, %v", i, at, r.Dirty, r.Left, r.Down, p.device().Dirty, p.left, p.down)
			}
		}
	}
}

// P3.3: Fence, for devices of all kinds.
func TestFence(t *testing.T) {
	for i, d := range good() {
		p := plainOf(d)
		p.fence()
		if r := fence(t, d); !same(r, p.device()) || cache.Check(r) != api.OK {
			t.Fatalf("good %d, fenced: dirty %v, Left %d, Down %v; want %v, %d, %v", i, r.Dirty, r.Left, r.Down, p.device().Dirty, p.left, p.down)
		}
	}
}

// P3.3: each operation by hand, so that it does not hang on the helpers above.
func TestByHand(t *testing.T) {
	d := api.Device{Image: make([]uint64, 256), Left: 9}
	for _, at := range []int{16, 7, 15, 8, 255, 0} {
		d = store(t, d, at, uint64(at)+100)
	}
	if want := []api.Dirty{{At: 0, Value: 100}, {At: 7, Value: 107}, {At: 8, Value: 108}, {At: 15, Value: 115}, {At: 16, Value: 116}, {At: 255, Value: 355}}; !slices.Equal(d.Dirty, want) || d.Left != 3 {
		t.Fatalf("stored: %v, Left %d", d.Dirty, d.Left)
	}
	d = flush(t, d, 12)
	if want := []api.Dirty{{At: 0, Value: 100}, {At: 7, Value: 107}, {At: 8, Value: 108, Flushed: true}, {At: 15, Value: 115, Flushed: true}, {At: 16, Value: 116}, {At: 255, Value: 355}}; !slices.Equal(d.Dirty, want) || d.Left != 2 {
		t.Fatalf("flushed: %v, Left %d", d.Dirty, d.Left)
	}
	if slices.Max(d.Image) != 0 {
		t.Fatal("the image was changed without a fence")
	}
	d = store(t, d, 15, 9)
	d = fence(t, d)
	if want := []api.Dirty{{At: 0, Value: 100}, {At: 7, Value: 107}, {At: 15, Value: 9}, {At: 16, Value: 116}, {At: 255, Value: 355}}; !slices.Equal(d.Dirty, want) || d.Left != 0 || d.Down {
		t.Fatalf("fenced: %v, Left %d, Down %v", d.Dirty, d.Left, d.Down)
	}
	if d.Image[8] != 108 || d.Image[15] != 0 || load(t, d, 15) != 9 {
		t.Fatalf("fenced: %v", d.Image[8:16])
	}
	before := d
	d = flush(t, d, 0)
	before.Down = true
	if !same(d, before) {
		t.Fatalf("without any left: dirty %v, Left %d, Down %v", d.Dirty, d.Left, d.Down)
	}
}

// P3.3: a word that is stored again behind a flush is not flushed, even with the same value, and a fence leaves it dirty.
func TestStoredAgain(t *testing.T) {
	for _, v := range []uint64{0, 5, 6, math.MaxUint64} {
		d := flush(t, store(t, makeNew(t, make([]uint64, 256)), 20, 5), 20)
		d = store(t, d, 20, v)
		if want := []api.Dirty{{At: 20, Value: v}}; !slices.Equal(d.Dirty, want) {
			t.Fatalf("%d stored behind a flush: %v; want %v", v, d.Dirty, want)
		}
		d = fence(t, d)
		if want := []api.Dirty{{At: 20, Value: v}}; !slices.Equal(d.Dirty, want) || d.Image[20] != 0 {
			t.Fatalf("%d stored behind a flush, and a fence: %v, the image has %d", v, d.Dirty, d.Image[20])
		}
		d = fence(t, flush(t, d, 20))
		if len(d.Dirty) != 0 || d.Image[20] != v {
			t.Fatalf("%d flushed again: %v, the image has %d", v, d.Dirty, d.Image[20])
		}
	}
}

// P3.3: a word is dirty after storing what the image has already.
func TestStoredAsItIs(t *testing.T) {
	m := some(256)
	d := store(t, makeNew(t, m), 100, m[100])
	if want := []api.Dirty{{At: 100, Value: m[100]}}; !slices.Equal(d.Dirty, want) || !slices.Equal(d.Image, m) {
		t.Errorf("stored as it is: %v; want %v", d.Dirty, want)
	}
}

// P3.3: flushing any address of a line flushes all dirty words of this line, and none of another.
func TestEachLine(t *testing.T) {
	for _, words := range []int{256, 2048} {
		d := api.Device{Image: make([]uint64, words), Left: -1}
		for at := range words {
			d.Dirty = append(d.Dirty, api.Dirty{At: at, Value: 1})
		}
		for at := range words {
			r := flush(t, d, at)
			for i, x := range r.Dirty {
				first := at - at%8
				if x.At != i || x.Value != 1 || x.Flushed != (i >= first && i < first+8) {
					t.Fatalf("%d words, flushed at %d: %v", words, at, x)
				}
			}
		}
	}
}

// P3.3: an operation that has nothing to do counts, too.
func TestNothingToDo(t *testing.T) {
	d := api.Device{Image: some(256), Left: 2}
	d = fence(t, flush(t, d, 8))
	if want := (api.Device{Image: some(256)}); !same(d, want) {
		t.Errorf("a flush and a fence: Left %d, Down %v, dirty %v", d.Left, d.Down, d.Dirty)
	}
}

// P3.2 and P3.3: ErrArg for what is no address, also if the device is down, or goes down by the operation.
func TestNoAddress(t *testing.T) {
	for i, d := range good() {
		for _, at := range none(len(d.Image)) {
			if at >= 0 && at < len(d.Image) {
				continue
			}
			if v, e := cache.Load(d, at); v != 0 || e != api.ErrArg {
				t.Fatalf("good %d, Load(%d) = %#x, %v; want 0, ErrArg", i, at, v, e)
			}
			if r, e := cache.Store(d, at, 5); !isZero(r) || e != api.ErrArg {
				t.Fatalf("good %d, Store(%d, 5) = %v; want nothing, ErrArg", i, at, e)
			}
			if r, e := cache.Flush(d, at); !isZero(r) || e != api.ErrArg {
				t.Fatalf("good %d, Flush(%d) = %v; want nothing, ErrArg", i, at, e)
			}
		}
	}
}

// P1, R1: a device that is not valid is told first, whatever the address is, and nothing else is given.
func TestBadFirst(t *testing.T) {
	for i, d := range bad() {
		for _, at := range append([]int{0, 1, 8, 255}, none(256)...) {
			if v, e := cache.Load(d, at); v != 0 || e != api.ErrBad {
				t.Fatalf("bad %d, Load(%d) = %#x, %v; want 0, ErrBad", i, at, v, e)
			}
			if r, e := cache.Store(d, at, 5); !isZero(r) || e != api.ErrBad {
				t.Fatalf("bad %d, Store(%d, 5) = %v; want nothing, ErrBad", i, at, e)
			}
			if r, e := cache.Flush(d, at); !isZero(r) || e != api.ErrBad {
				t.Fatalf("bad %d, Flush(%d) = %v; want nothing, ErrBad", i, at, e)
			}
		}
		if r, e := cache.Fence(d); !isZero(r) || e != api.ErrBad {
			t.Fatalf("bad %d, Fence = %v; want nothing, ErrBad", i, e)
		}
		if m, e := cache.View(d); m != nil || e != api.ErrBad {
			t.Fatalf("bad %d, View = %d words, %v; want none, ErrBad", i, len(m), e)
		}
	}
}

// next returns another number that hangs on a number alone, so that each run has the same operations.
func next(n uint64) uint64 {
	n ^= n << 13
	n ^= n >> 7
	return n ^ n<<17
}

// P3.3 and P3.2: many operations, one after the other, give the devices of the definitions.
func TestManyOperations(t *testing.T) {
	for i, d := range good() {
		p, n := plainOf(d), uint64(i+1)
		for step := range 400 {
			n = next(n)
			at, v := int(n>>8%64), n>>40
			if at%3 == 0 {
				at = int(n >> 20 % uint64(len(d.Image)))
			}
			switch n % 16 {
			case 0, 1, 2:
				d = fence(t, d)
				p.fence()
			case 3, 4, 5, 6, 7:
				d = flush(t, d, at)
				p.flush(at)
			default:
				d = store(t, d, at, v)
				p.store(at, v)
			}
			if !same(d, p.device()) || cache.Check(d) != api.OK {
				t.Fatalf("good %d, step %d: dirty %v, Left %d, Down %v; want %v, %d, %v", i, step, d.Dirty, d.Left, d.Down, p.device().Dirty, p.left, p.down)
			}
			if load(t, d, at) != p.word(at) {
				t.Fatalf("good %d, step %d: at %d is %#x; want %#x", i, step, at, load(t, d, at), p.word(at))
			}
		}
	}
}

// able returns those devices that make an operation.
func able() []api.Device {
	return slices.DeleteFunc(good(), func(d api.Device) bool { return d.Left == 0 })
}

// P3.4: what is loaded is what was stored last, and all others as before.
func TestStoredLast(t *testing.T) {
	for i, d := range able() {
		for _, at := range places(len(d.Image)) {
			want := view(t, d)
			want[at] = 5
			r := store(t, d, at, 5)
			if load(t, r, at) != 5 || !slices.Equal(view(t, r), want) {
				t.Fatalf("able %d: 5 was stored at %d, %#x is loaded", i, at, load(t, r, at))
			}
			if r.Left == 0 {
				continue
			}
			want[at] = 6
			if r = store(t, r, at, 6); !slices.Equal(view(t, r), want) {
				t.Fatalf("able %d: 6 was stored at %d last, %#x is loaded", i, at, load(t, r, at))
			}
		}
	}
}

// P3.4: flushing and fencing change nothing that is loaded; the image changes by fencing alone, and there only where it was dirty and flushed.
func TestWhatChanges(t *testing.T) {
	for i, d := range good() {
		loaded := view(t, d)
		for _, at := range places(len(d.Image)) {
			r := flush(t, d, at)
			if !slices.Equal(view(t, r), loaded) {
				t.Fatalf("good %d: flushing at %d changed what is loaded", i, at)
			}
			if !slices.Equal(r.Image, d.Image) || !slices.Equal(store(t, d, at, 5).Image, d.Image) {
				t.Fatalf("good %d: flushing or storing at %d changed the image", i, at)
			}
		}
		r := fence(t, d)
		if !slices.Equal(view(t, r), loaded) {
			t.Fatalf("good %d: fencing changed what is loaded", i)
		}
		for at := range d.Image {
			k := slices.IndexFunc(d.Dirty, func(x api.Dirty) bool { return x.At == at && x.Flushed })
			if r.Image[at] != d.Image[at] && k < 0 {
				t.Fatalf("good %d: fencing changed the image at %d", i, at)
			}
		}
	}
}

// P3.4: after flushing all dirty lines a fence leaves nothing dirty, and the image is what is loaded.
func TestAllFlushed(t *testing.T) {
	for i, d := range good() {
		d.Left, d.Down = -1, false
		loaded := view(t, d)
		for _, x := range d.Dirty {
			d = flush(t, d, x.At)
		}
		d = fence(t, d)
		if len(d.Dirty) != 0 || !slices.Equal(d.Image, loaded) || !slices.Equal(view(t, d), loaded) {
			t.Errorf("good %d: behind flushing all, and a fence, dirty are %v", i, d.Dirty)
		}
	}
}

// P3.4: storing at two addresses does not depend on the order.
func TestAnyOrder(t *testing.T) {
	for i, d := range able() {
		if d.Left == 1 {
			continue
		}
		for _, a := range places(len(d.Image)) {
			for _, b := range []int{0, 7, 8, 17, 100, len(d.Image) - 1} {
				if a == b {
					continue
				}
				one, two := store(t, store(t, d, a, 5), b, 6), store(t, store(t, d, b, 6), a, 5)
				if !same(one, two) {
					t.Fatalf("able %d: stored at %d and %d: %v and %v", i, a, b, one.Dirty, two.Dirty)
				}
			}
		}
	}
}

// operations has each of the operations.
func operations(t *testing.T) []func(d api.Device) api.Device {
	return []func(d api.Device) api.Device{
		func(d api.Device) api.Device { return store(t, d, 9, 5) },
		func(d api.Device) api.Device { return flush(t, d, 9) },
		func(d api.Device) api.Device { return fence(t, d) },
	}
}

// P3.4: a device crashes behind just so many operations as Left says.
func TestLeft(t *testing.T) {
	for _, left := range []int{0, 1, 2, 3, 4, 5, 30} {
		for first := range operations(t) {
			d := api.Device{Image: some(256), Dirty: dirtyAt(7, 8, 9), Left: left}
			for n := range left {
				d = operations(t)[(first+n)%3](d)
				if d.Down || d.Left != left-n-1 {
					t.Fatalf("Left was %d, behind %d operations it is %d, Down %v", left, n+1, d.Left, d.Down)
				}
			}
			want := d
			want.Down = true
			if d = operations(t)[(first+left)%3](d); !same(d, want) {
				t.Fatalf("Left was %d, behind %d operations it is %d, Down %v, dirty %v", left, left+1, d.Left, d.Down, d.Dirty)
			}
		}
	}
	d := api.Device{Image: some(256), Left: -1}
	for n := range 3000 {
		if d = operations(t)[n%3](d); d.Down || d.Left != -1 {
			t.Fatalf("Left was -1, behind %d operations it is %d, Down %v", n+1, d.Left, d.Down)
		}
	}
}

// P3.4: a device that is down stays as it is, and is loaded as before.
func TestDown(t *testing.T) {
	for i, d := range good() {
		d.Left, d.Down = 0, true
		loaded := view(t, d)
		for n, do := range operations(t) {
			r := do(do(d))
			if !same(r, d) || !slices.Equal(view(t, r), loaded) {
				t.Fatalf("good %d, down, behind the operation %d: dirty %v, Left %d, Down %v", i, n, r.Dirty, r.Left, r.Down)
			}
		}
	}
}

// results gives what each function gives of a device, whether it is made or not.
func results(t *testing.T, d api.Device) ([]api.Device, [][]uint64) {
	t.Helper()
	cache.Check(d)
	load(t, d, 9)
	last := len(d.Image) - 1
	devices := []api.Device{
		makeNew(t, d.Image), fence(t, d), flush(t, d, 9), flush(t, d, last),
		store(t, d, 0, 5), store(t, d, 9, 5), store(t, d, 18, 5), store(t, d, last, 5),
	}
	return devices, [][]uint64{view(t, d)}
}

// spoil changes all that a device refers to, including what is between a length and a capacity.
func spoil(d api.Device) {
	m, l := d.Image[:cap(d.Image)], d.Dirty[:cap(d.Dirty)]
	for i := range m {
		m[i] = ^m[i]
	}
	for i := range l {
		l[i] = api.Dirty{At: -1, Value: ^l[i].Value, Flushed: !l[i].Flushed}
	}
}

// P1, R2: arguments are not modified, up to their capacity, and results share no memory with them.
func TestArgumentsStay(t *testing.T) {
	for i, d := range good() {
		devices, words := results(t, d)
		for _, r := range devices {
			spoil(r)
		}
		for _, m := range words {
			spoil(api.Device{Image: m})
		}
		for _, at := range []int{-1, 4000} {
			cache.Load(d, at)
			cache.Store(d, at, 5)
			cache.Flush(d, at)
		}
		was := good()[i]
		if !same(d, was) {
			t.Errorf("good %d: the device was modified", i)
		}
		if !slices.Equal(d.Image[:cap(d.Image)], was.Image[:cap(was.Image)]) || !slices.Equal(d.Dirty[:cap(d.Dirty)], was.Dirty[:cap(was.Dirty)]) {
			t.Errorf("good %d: what is behind the words of the device was modified", i)
		}
	}
}

// P1, R2: results share no memory with each other, and nothing is kept from call to call.
func TestNothingIsKept(t *testing.T) {
	for i, d := range good() {
		one, words := results(t, d)
		two, others := results(t, d)
		for k := range one {
			want := plainOf(one[k]).device()
			spoil(one[k])
			results(t, good()[0])
			if !same(two[k], want) {
				t.Errorf("good %d: the result %d shares memory with another one", i, k)
			}
		}
		want := plainOf(api.Device{Image: words[0]}).image
		spoil(api.Device{Image: words[0]})
		if !slices.Equal(others[0], want) {
			t.Errorf("good %d: what View gave shares memory with another result", i)
		}
	}
}

// P1, R3: nothing dirty is the same, whether it is nil or empty, and whatever room is behind it.
func TestNothingDirty(t *testing.T) {
	for _, dirty := range [][]api.Dirty{nil, {}, make([]api.Dirty, 0, 8), dirtyAt(5, 4, 5)[:0]} {
		d := api.Device{Image: some(256), Dirty: dirty, Left: -1}
		if e := cache.Check(d); e != api.OK {
			t.Errorf("Check: %v", e)
		}
		r := store(t, fence(t, flush(t, d, 9)), 9, 5)
		if want := []api.Dirty{{At: 9, Value: 5}}; !slices.Equal(r.Dirty, want) || !slices.Equal(r.Image, some(256)) {
			t.Errorf("stored where nothing was dirty: %v; want %v", r.Dirty, want)
		}
	}
}
