package wal

import (
	"bytes"
	"encoding/binary"
	"hash/crc32"
	"math"
	"math/bits"
	"math/rand"
	"slices"
	"testing"

	"tithing/api"
	"tithing/disk"
)

// top is how much room a disk can have, long how many bytes a record can be of at most, by the chapters.
const (
	top  = 1 << 20
	long = 65536
)

// libraryTable is the library's for the check. It goes from the lowest bits on: so all bits are turned round.
var libraryTable = crc32.MakeTable(bits.Reverse32(0x814141ab))

// check is a record's check by the library, from 0 on and without the turns of all bits that it makes ahead and behind.
func check(b []byte) uint32 {
	round := make([]byte, len(b))
	for i, x := range b {
		round[i] = bits.Reverse8(x)
	}
	return bits.Reverse32(^crc32.Update(math.MaxUint32, libraryTable, round))
}

// record is the record of bytes, by the library: also one that there can't be.
func record(b []byte) []byte {
	out := binary.BigEndian.AppendUint32(nil, uint32(len(b)))
	return append(binary.BigEndian.AppendUint32(out, check(append(out[:4:4], b...))), b...)
}

// all is the records of a list, one behind the other.
func all(l [][]byte) []byte {
	var b []byte
	for _, own := range l {
		b = append(b, record(own)...)
	}
	return b
}

// rising is n bytes, none like the one ahead of it.
func rising(n int) []byte {
	b := make([]byte, n)
	for i := range b {
		b[i] = byte(i%251 + 1)
	}
	return b
}

// chance is so many bytes by chance.
func chance(rnd *rand.Rand, n int) []byte {
	b := make([]byte, n)
	rnd.Read(b)
	return b
}

// some are the bytes of three records, of unlike lengths.
func some() [][]byte { return [][]byte{[]byte("abc"), {0}, rising(40)} }

// holding is a disk of so much room that has just these bytes, so many of them safe.
func holding(t *testing.T, room int, b []byte, safe int) *disk.Disk {
	t.Helper()
	d, e := disk.New(room)
	if e != api.OK {
		t.Fatalf("New(%d): error %d", room, e)
	}
	if d.Append(b[:safe]) != api.OK || d.Sync() != api.OK || d.Append(b[safe:]) != api.OK {
		t.Fatalf("there is no room for %d bytes", len(b))
	}
	return d
}

// dead is a disk that was armed, and died of one step more; none of it is left behind a crash(0).
func dead(t *testing.T) *disk.Disk {
	t.Helper()
	d := holding(t, 100, nil, 0)
	d.Arm(0)
	if d.Append([]byte{1}) != api.ErrDead {
		t.Fatal("it is not dead")
	}
	return d
}

// alike tells whether two lists have the same bytes.
func alike(a, b [][]byte) bool {
	return slices.EqualFunc(a, b, func(x, y []byte) bool { return bytes.Equal(x, y) })
}

// mustOpen is a disk's wal, which has just these records.
func mustOpen(t *testing.T, what string, d *disk.Disk, want [][]byte) *Wal {
	t.Helper()
	w, l, e := Open(d)
	if w == nil || e != api.OK || !alike(l, want) {
		t.Fatalf("%s: Open: %v, %x, error %d, want %x", what, w != nil, l, e, want)
	}
	mustBe(t, what, w, len(want), false)
	return w
}

// mustRefuse fails, unless a disk is not opened, and nothing is told beside the error.
func mustRefuse(t *testing.T, what string, d *disk.Disk, want api.Errno) {
	t.Helper()
	if w, l, e := Open(d); w != nil || l != nil || e != want {
		t.Errorf("%s: Open: %v, %x, error %d, want error %d", what, w != nil, l, e, want)
	}
}

// mustBe fails, unless a wal has so many records, and is broken, or not; also when it is asked once more.
func mustBe(t *testing.T, what string, w *Wal, many int, broken bool) {
	t.Helper()
	for range 2 {
		if w.Many() != many || w.Broken() != broken {
			t.Errorf("%s: %d, broken %v, want %d, broken %v", what, w.Many(), w.Broken(), many, broken)
		}
	}
}

// mustPut fails, unless a putting ends so.
func mustPut(t *testing.T, what string, w *Wal, want api.Errno, l ...[]byte) {
	t.Helper()
	if e := w.Put(l...); e != want {
		t.Errorf("%s: Put of %d: error %d, want error %d", what, len(l), e, want)
	}
}

// mustHave fails, unless a disk that is not dead has these bytes, and so many of them are safe.
func mustHave(t *testing.T, what string, d *disk.Disk, want []byte, safe int) {
	t.Helper()
	if b, e := d.All(); !bytes.Equal(b, want) || e != api.OK || d.Safe() != safe {
		t.Errorf("%s: %x, error %d, safe %d, want %x, safe %d", what, b, e, d.Safe(), want, safe)
	}
}

// steps is how many steps of a disk a deed takes: it is armed with more and more, till it does not die.
func steps(t *testing.T, fresh func() (*disk.Disk, func())) int {
	t.Helper()
	for n := range 10 {
		d, deed := fresh()
		d.Arm(n)
		deed()
		if !d.Dead() {
			return n
		}
	}
	t.Fatal("too many steps")
	return 0
}

// The chapter's example, with the second one cut at each of its bytes: it is gone, and what is left of it, too.
func TestSecondCut(t *testing.T) {
	one, two := []byte("one"), []byte("second")
	first, both := record(one), all([][]byte{one, two})
	for n := len(first); n < len(both); n++ {
		d := holding(t, 100, both[:n], n)
		w := mustOpen(t, "cut", d, [][]byte{one})
		mustHave(t, "cut", d, first, len(first))
		mustPut(t, "cut", w, api.OK, two)
		mustOpen(t, "put anew", d, [][]byte{one, two})
	}
	mustOpen(t, "whole", holding(t, 100, both, 0), [][]byte{one, two})
}

// Wa1: an empty disk has no records; of a disk without room, too.
func TestOpenEmpty(t *testing.T) {
	for _, room := range []int{0, 1, 1000, top} {
		d := holding(t, room, nil, 0)
		mustOpen(t, "empty", d, nil)
		mustHave(t, "empty", d, nil, 0)
	}
}

// Wa1: records of all lengths are told, in order, whatever they are of.
func TestOpenRecords(t *testing.T) {
	rnd := rand.New(rand.NewSource(1))
	for _, n := range []int{1, 2, 3, 7, 8, 9, 255, 256, 257, 65535, long} {
		for _, own := range [][]byte{rising(n), make([]byte, n), bytes.Repeat([]byte{255}, n), chance(rnd, n)} {
			l := [][]byte{own, {1}, own, {1}}
			b := all(l)
			d := holding(t, len(b), b, 0)
			mustOpen(t, "records", d, l)
			mustHave(t, "records", d, b, len(b))
		}
	}
}

// Wa1: a disk that is full to the last byte that there can be.
func TestOpenFull(t *testing.T) {
	var l [][]byte
	for range top / (long + 8) {
		l = append(l, rising(long))
	}
	l = append(l, rising(top-len(all(l))-8))
	d := holding(t, top, nil, 0)
	w := mustOpen(t, "empty", d, nil)
	mustPut(t, "all", w, api.OK, l...)
	mustPut(t, "one more", w, api.ErrFull, []byte{1})
	mustBe(t, "full", w, len(l), false)
	mustOpen(t, "full", d, l)
	mustHave(t, "full", d, all(l), top)
}

// Wa1: no disk, one that New did not give, and a dead one.
func TestOpenRefuses(t *testing.T) {
	mustRefuse(t, "none", nil, api.ErrArg)
	mustRefuse(t, "not given", new(disk.Disk), api.ErrArg)
	d := dead(t)
	mustRefuse(t, "dead", d, api.ErrDead)
	d.Crash(0)
	mustOpen(t, "crashed", d, nil)
}

// Wa1: whether a dead disk is spoilt is not looked at: ErrDead is told first.
func TestDeadAheadOfSpoilt(t *testing.T) {
	b := all(some())
	b[8] ^= 1
	d := holding(t, 100, b, len(b))
	d.Arm(0)
	d.Sync()
	mustRefuse(t, "dead", d, api.ErrDead)
	d.Crash(0)
	mustRefuse(t, "crashed", d, api.ErrCorrupt)
}

// Wa1: behind Open all is safe; opening is one step, and two, if a tail is to be cut.
func TestOpenSteps(t *testing.T) {
	b := all(some())
	for name, e := range map[string]struct {
		b    []byte
		want int
	}{
		"empty":         {nil, 1},
		"no tail":       {b, 1},
		"a tail":        {append(slices.Clone(b), 1), 2},
		"a tail alone":  {[]byte{1}, 2},
		"a cut record":  {b[:len(b)-1], 2},
		"a wrong check": {append(slices.Clone(b), 0, 0, 0, 1, 0, 0, 0, 0, 1), 2},
	} {
		for _, safe := range []int{0, len(e.b) / 2, len(e.b)} {
			got := steps(t, func() (*disk.Disk, func()) {
				d := holding(t, 100, e.b, safe)
				return d, func() { Open(d) }
			})
			if got != e.want {
				t.Errorf("%s: %d steps, want %d", name, got, e.want)
			}
			d := holding(t, 100, e.b, safe)
			Open(d)
			if now, _ := d.All(); d.Safe() != len(now) {
				t.Errorf("%s: %d of %d are safe", name, d.Safe(), len(now))
			}
		}
	}
}

// Wa1: if the disk dies of the cutting, or of the syncing, that is told, and nothing beside; behind the crash it opens.
func TestOpenDies(t *testing.T) {
	l := some()
	for _, tail := range [][]byte{nil, {1}, record([]byte("cut"))[:10]} {
		b := append(all(l), tail...)
		for n := range 2 {
			if n == 1 && tail == nil {
				continue
			}
			d := holding(t, 200, b, len(b))
			d.Arm(n)
			mustRefuse(t, "dies", d, api.ErrDead)
			left := len(b) - n*len(tail) // the cutting is done, or not; the syncing turns no byte
			d.Crash(0)
			mustHave(t, "crashed", d, b[:left], left)
			mustOpen(t, "crashed", d, l)
			mustHave(t, "opened", d, all(l), len(all(l)))
		}
	}
}

// joint is bytes, one behind the other.
func joint(l ...[]byte) []byte { return slices.Concat(l...) }

// turned is bytes with one exclusive-ored.
func turned(b []byte, at int, by byte) []byte {
	b = slices.Clone(b)
	b[at] ^= by
	return b
}

// Words: tails that are torn, and such that are not.
func TestTails(t *testing.T) {
	r := record([]byte("right"))
	inner := record(joint([]byte("it has "), r, []byte(" within")))
	for name, e := range map[string]struct {
		tail []byte
		torn bool
	}{
		"a byte":                                     {[]byte{7}, true},
		"seven bytes":                                {[]byte{255, 255, 255, 255, 255, 255, 255}, true},
		"seven bytes, of a length of 0":              {make([]byte, 7), true},
		"eight bytes, of a length of 0":              {make([]byte, 8), true},
		"many noughts":                               {make([]byte, 500), true},
		"a length beyond the most":                   {[]byte{0, 1, 0, 1, 0, 0, 0, 0, 1}, true},
		"the most, and not there":                    {[]byte{0, 1, 0, 0, 0, 0, 0, 0, 1}, true},
		"a wrong check":                              {turned(r, 4, 1), true},
		"a wrong last byte":                          {turned(r, len(r)-1, 128), true},
		"wrong ones alone":                           {joint(turned(r, 8, 1), turned(r, 9, 2)), true},
		"a wrong one, and a cut one":                 {joint(turned(r, 8, 1), r[:len(r)-1]), true},
		"a cut one":                                  {r[:len(r)-1], true},
		"a cut one that has a right one":             {inner[:len(inner)-1], true},
		"a cut one that ends with a right one":       {inner[:len(inner)-7], true},
		"a cut one that has half of a right one":     {inner[:20], true},
		"a wrong one that has a right one":           {turned(inner, 8, 1), false},
		"a wrong one that has one, and a cut one":    {joint(turned(inner, 8, 1), r[:9]), false},
		"a wrong one, and a right one":               {joint(turned(r, 8, 1), r), false},
		"a wrong check, and a right one":             {joint(turned(r, 7, 1), r), false},
		"a wrong one, others, and a right one":       {joint(turned(r, 8, 1), rising(30), r), false},
		"a wrong one, a right one, and others":       {joint(turned(r, 8, 1), r, rising(30)), false},
		"a length of 0, and a right one":             {joint(make([]byte, 8), r), false},
		"a length of 0 that was another, and so":     {joint(turned(r, 3, 5), r), false},
		"a length beyond the most, and a right one":  {joint(turned(r, 0, 1), r), false},
		"a shorter length, and a right one":          {joint(turned(r, 3, 1), r), false},
		"a longer length that is there, and a right": {joint(turned(r, 3, 2), r), false},
		"a longer one that is not there, and so":     {joint(turned(r, 2, 1), r), true},
		"the most, not there, and a right one":       {joint([]byte{0, 1, 0, 0, 0, 0, 0, 0}, r), true},
	} {
		for _, l := range [][][]byte{nil, {{9}}, some()} {
			b := joint(all(l), e.tail)
			d := holding(t, 1000, b, len(b))
			if e.torn {
				mustOpen(t, name, d, l)
				mustHave(t, name, d, all(l), len(all(l)))
			} else {
				mustRefuse(t, name, d, api.ErrCorrupt)
			}
		}
	}
}

// Words: a right record may begin at any place of a tail, also at its end, and far behind.
func TestRightAnywhere(t *testing.T) {
	for _, r := range [][]byte{record([]byte{1}), record(rising(300))} {
		for n := 8; n < 40; n++ {
			b := joint(bytes.Repeat([]byte{255}, n), r)
			mustRefuse(t, "anywhere", holding(t, 1000, b, 0), api.ErrCorrupt)
			mustOpen(t, "but its last byte", holding(t, 1000, b[:len(b)-1], 0), nil)
		}
	}
	b := joint(bytes.Repeat([]byte{255}, top-9), record([]byte{1}))
	mustRefuse(t, "at the end", holding(t, top, b, 0), api.ErrCorrupt)
}

// Wa1: nothing is done to a spoilt disk: neither is it cut, nor synced.
func TestSpoiltIsLeft(t *testing.T) {
	b := turned(all(some()), 9, 4)
	for safe := range len(b) + 1 {
		d := holding(t, 100, b, safe)
		d.Arm(0)
		mustRefuse(t, "spoilt", d, api.ErrCorrupt)
		mustRefuse(t, "once more", d, api.ErrCorrupt)
		mustHave(t, "spoilt", d, b, safe)
	}
}

// Wa1: what is put are the records, one behind the other, behind those that are there; they are safe then.
func TestPut(t *testing.T) {
	l := append(some(), rising(long), []byte{5})
	d := holding(t, top, nil, 0)
	w := mustOpen(t, "empty", d, nil)
	for i, own := range l {
		mustPut(t, "one", w, api.OK, own)
		mustBe(t, "one", w, i+1, false)
		mustHave(t, "one", d, all(l[:i+1]), len(all(l[:i+1])))
	}
	mustPut(t, "several", w, api.OK, l...)
	both := append(slices.Clone(l), l...)
	mustBe(t, "several", w, len(both), false)
	mustHave(t, "several", d, all(both), len(all(both)))
	w = mustOpen(t, "anew", d, both)
	mustPut(t, "anew", w, api.OK, []byte("x"), []byte("x"))
	both = append(both, []byte("x"), []byte("x"))
	mustHave(t, "anew", d, all(both), len(all(both)))
	mustBe(t, "anew", w, len(both), false)
}

// Wa1: however many are put, it is one appending and one syncing.
func TestPutSteps(t *testing.T) {
	for n := 1; n < 20; n++ {
		got := steps(t, func() (*disk.Disk, func()) {
			d := holding(t, 1000, nil, 0)
			w := mustOpen(t, "empty", d, nil)
			return d, func() { w.Put(slices.Repeat([][]byte{{1, 2, 3}}, n)...) }
		})
		if got != 2 {
			t.Errorf("%d: %d steps, want 2", n, got)
		}
	}
}

// noRecords are bytes of which there can be no record.
func noRecords() [][]byte {
	return [][]byte{nil, {}, rising(long + 1), make([]byte, long+2), rising(top)}
}

// Wa1: if one can be no record, wherever it stands, nothing is done, and no step: also where there is no room, and of a dead disk.
func TestPutNoRecord(t *testing.T) {
	for _, wrong := range noRecords() {
		for at := range 4 {
			l := slices.Insert(some(), at, wrong)
			d := holding(t, 100, nil, 0)
			w := mustOpen(t, "empty", d, nil)
			mustPut(t, "ahead", w, api.OK, []byte{1})
			d.Arm(0)
			mustPut(t, "wrong", w, api.ErrArg, l...)
			mustPut(t, "and too much", w, api.ErrArg, append(slices.Repeat([][]byte{rising(90)}, 3), l...)...)
			mustBe(t, "wrong", w, 1, false)
			mustHave(t, "wrong", d, record([]byte{1}), 9)
			d.Sync()
			mustPut(t, "dead", w, api.ErrArg, l...)
			mustBe(t, "dead", w, 1, false)
			d.Crash(0)
			mustPut(t, "crashed", w, api.OK, some()...)
			mustBe(t, "crashed", w, 4, false)
		}
	}
}

// Wa1: nothing is done of no list, and of an empty one: it is no step.
func TestPutNothing(t *testing.T) {
	d := holding(t, 9, nil, 0)
	w := mustOpen(t, "empty", d, nil)
	d.Append([]byte{7})
	d.Arm(0)
	for range 3 {
		mustPut(t, "no list", w, api.OK)
		mustPut(t, "an empty list", w, api.OK, [][]byte{}...)
	}
	mustHave(t, "nothing", d, []byte{7}, 0)
	d.Sync()
	mustPut(t, "dead", w, api.OK)
	mustBe(t, "dead", w, 0, false)
	mustPut(t, "dead", w, api.ErrDead, []byte{1})
	mustPut(t, "broken", w, api.ErrState)
	mustPut(t, "broken", w, api.ErrState, [][]byte{}...)
}

// Wa1: if there is not room for all, none is put, and it is not broken; what there is room for may be put then.
func TestPutFull(t *testing.T) {
	for room := range 60 {
		d := holding(t, room, nil, 0)
		w := mustOpen(t, "empty", d, nil)
		l := [][]byte{{1}, {2, 3}, []byte("last")} // 9, 10 and 12 bytes
		if room >= len(all(l)) {
			mustPut(t, "room", w, api.OK, l...)
			mustBe(t, "room", w, 3, false)
			mustHave(t, "room", d, all(l), len(all(l)))
			continue
		}
		d.Arm(0)
		mustPut(t, "no room", w, api.ErrFull, l...)
		mustBe(t, "no room", w, 0, false)
		mustHave(t, "no room", d, nil, 0)
		d.Arm(-1)
		want := api.OK
		if room < 9 {
			want = api.ErrFull
		}
		mustPut(t, "a short one", w, want, l[0])
		mustPut(t, "too much then", w, api.ErrFull, l...)
		if want == api.OK {
			mustOpen(t, "a short one", d, l[:1])
		}
	}
}

// Wa1: it is broken by the disk's ErrDead, of the appending as of the syncing, and stays so, whatever the disk does; what there was stays to be told.
func TestBroken(t *testing.T) {
	for n := range 2 {
		d := holding(t, 200, nil, 0)
		w := mustOpen(t, "empty", d, nil)
		mustPut(t, "put", w, api.OK, some()...)
		d.Arm(n)
		mustPut(t, "dies", w, api.ErrDead, []byte{1}, []byte{2})
		mustBe(t, "broken", w, 3, true)
		for _, l := range [][][]byte{nil, {{1}}, {nil}, {rising(300)}} {
			mustPut(t, "broken", w, api.ErrState, l...)
		}
		d.Crash(0)
		mustPut(t, "crashed", w, api.ErrState, []byte{1})
		mustBe(t, "crashed", w, 3, true)
		mustHave(t, "crashed", d, all(some()), len(all(some())))
		anew := mustOpen(t, "anew", d, some())
		mustPut(t, "the broken one", w, api.ErrState, []byte{1})
		mustPut(t, "anew", anew, api.OK, []byte{1})
		mustBe(t, "anew", anew, 4, false)
		mustBe(t, "the broken one", w, 3, true)
	}
}

// Wa1: it is not broken by a death that no Put met.
func TestUnmetDeath(t *testing.T) {
	d := holding(t, 200, nil, 0)
	w := mustOpen(t, "empty", d, nil)
	d.Arm(0)
	d.Sync()
	mustBe(t, "dead", w, 0, false)
	d.Crash(0)
	mustPut(t, "crashed", w, api.OK, []byte{1})
	mustBe(t, "crashed", w, 1, false)
	d.Arm(0)
	d.Sync()
	mustPut(t, "dead ahead", w, api.ErrDead, []byte{2})
	mustBe(t, "dead ahead", w, 1, true)
	d.Crash(100)
	mustOpen(t, "crashed", d, [][]byte{{1}})
}

// R1: a Wal that Open did not give.
func TestNotGiven(t *testing.T) {
	for name, w := range map[string]*Wal{"nil": nil, "zero": {}} {
		for _, l := range [][][]byte{nil, {}, {{1}}, {nil}, {rising(long + 1)}} {
			mustPut(t, name, w, api.ErrState, l...)
			mustBe(t, name, w, 0, true)
		}
	}
}

// R3: what is handed in is neither written to nor kept, and what is told is new memory.
func TestNewMemory(t *testing.T) {
	l := some()
	spare := append(make([]byte, 0, 100), "spare"...)
	l = append(l, spare)
	given := make([][]byte, len(l), 50)
	for i, own := range l {
		given[i] = append(make([]byte, 0, 100), own...)
	}
	d := holding(t, 1000, nil, 0)
	w := mustOpen(t, "empty", d, nil)
	mustPut(t, "given", w, api.OK, given...)
	for i, own := range given {
		if !bytes.Equal(own, l[i]) || !bytes.Equal(own[len(own):cap(own)], make([]byte, cap(own)-len(own))) {
			t.Errorf("what was given is %x", own[:cap(own)])
		}
		clear(own[:cap(own)])
	}
	mustHave(t, "given", d, all(l), len(all(l)))
	_, first, _ := Open(d)
	_, second, _ := Open(d)
	for i, own := range first {
		for j := range own[:cap(own)] {
			own[:cap(own)][j] = 77
		}
		first[i] = append(own, 77)
	}
	if !alike(second, l) {
		t.Errorf("another list is %x", second)
	}
	mustHave(t, "told", d, all(l), len(all(l)))
	mustOpen(t, "told", d, l)
}

// R4: wals of unlike disks hang neither on each other nor on the calls ahead; one disk opens likewise twice.
func TestNothingIsShared(t *testing.T) {
	c, d := holding(t, 100, nil, 0), holding(t, 100, nil, 0)
	a, b := mustOpen(t, "one", c, nil), mustOpen(t, "another", d, nil)
	mustPut(t, "one", a, api.OK, []byte{1}, []byte{2})
	c.Arm(0)
	mustPut(t, "one", a, api.ErrDead, []byte{3})
	mustBe(t, "another", b, 0, false)
	mustPut(t, "another", b, api.OK, []byte{4})
	mustOpen(t, "another", d, [][]byte{{4}})
	mustOpen(t, "another", d, [][]byte{{4}})
	mustOpen(t, "a third", holding(t, 100, nil, 0), nil)
	c.Crash(0)
	mustOpen(t, "one", c, [][]byte{{1}, {2}})
}

// Wa2: whichever step dies, and however much of it stays: all that was put is there, and of what was refused the first ones that are whole.
func TestCrashAnywhere(t *testing.T) {
	old, late := some(), [][]byte{[]byte("x"), record([]byte("whole")), joint(record([]byte{1}), record([]byte{2})), rising(20)}
	size := len(all(late))
	for n := range 2 {
		for stay := -1; stay <= size+1; stay++ {
			d := holding(t, 1000, nil, 0)
			w := mustOpen(t, "empty", d, nil)
			mustPut(t, "old", w, api.OK, old...)
			d.Arm(n)
			mustPut(t, "late", w, api.ErrDead, late...)
			d.Crash(stay)
			whole := 0
			for whole < len(late) && len(all(late[:whole+1])) <= stay {
				whole++
			}
			want := append(slices.Clone(old), late[:whole]...)
			anew := mustOpen(t, "crashed", d, want)
			mustHave(t, "crashed", d, all(want), len(all(want)))
			mustPut(t, "anew", anew, api.OK, []byte("more"))
			d.Crash(0)
			mustOpen(t, "once more", d, append(want, []byte("more")))
		}
	}
}

// Wa2: bytes of a record that are turned within 32 bits, wherever, are told, if it is not the last one; the last one is gone.
func TestTurnedIsTold(t *testing.T) {
	rnd := rand.New(rand.NewSource(2))
	l := [][]byte{{0}, []byte("abcdefgh"), rising(60), []byte("the last one")}
	b := all(l)
	end := 0
	for i, own := range l {
		from, to := end+8, end+8+len(own)
		end = to
		for bit := 8 * from; bit < 8*to; bit++ {
			for range 4 {
				d := holding(t, 1000, b, len(b))
				d.Spoil(bit/8, 128>>(bit%8)) // the first of the bits that are turned
				for next := bit + 1; next < min(bit+32, 8*to); next++ {
					d.Spoil(next/8, byte(rnd.Intn(2))*(128>>(next%8)))
				}
				if i < len(l)-1 {
					mustRefuse(t, "turned", d, api.ErrCorrupt)
				} else {
					mustOpen(t, "the last one", d, l[:i])
				}
			}
		}
	}
}

// Wa2: so is a check that is turned in any way.
func TestTurnedCheckIsTold(t *testing.T) {
	l := [][]byte{{0}, rising(60), []byte("the last one")}
	b := all(l)
	for _, at := range []int{4, 9 + 4} {
		for place := at; place < at+4; place++ {
			for by := 1; by < 256; by++ {
				d := holding(t, 1000, b, len(b))
				d.Spoil(place, byte(by))
				mustRefuse(t, "turned", d, api.ErrCorrupt)
			}
		}
	}
}

// told is the chapter's words, one by one: of bytes the records, how many bytes these have, and whether the disk is spoilt.
func told(b []byte) (l [][]byte, end int, spoilt bool) {
	next := func(b []byte) (n int, e api.Errno) {
		if len(b) < 8 {
			return 0, api.ErrNone
		}
		n = int(binary.BigEndian.Uint32(b))
		switch {
		case n < 1 || n > long:
			return 0, api.ErrText
		case len(b) < 8+n:
			return 0, api.ErrNone
		case !bytes.Equal(b[:8+n], record(b[8:8+n])):
			return 0, api.ErrText
		}
		return 8 + n, api.OK
	}
	n, e := next(b)
	for ; e == api.OK; n, e = next(b[end:]) {
		l = append(l, b[end+8:end+n])
		end += n
	}
	if e == api.ErrNone {
		return l, end, false
	}
	for at := end; at < len(b); at++ {
		if _, e := next(b[at:]); e == api.OK {
			return nil, 0, true
		}
	}
	return l, end, false
}

// Wa1: disks that have records, parts of such, wrong ones, and bytes by chance, held against the chapter's words.
func TestOpenByChance(t *testing.T) {
	rnd := rand.New(rand.NewSource(3))
	spoilts, tails := 0, 0
	for range 20000 {
		var b []byte
		for range rnd.Intn(6) {
			r := record(chance(rnd, 1+rnd.Intn(12)))
			switch rnd.Intn(12) {
			case 0:
				r = r[:rnd.Intn(len(r))]
			case 1:
				r[rnd.Intn(len(r))] ^= byte(1 << rnd.Intn(8))
			case 2:
				r = record(joint(r, r[:rnd.Intn(len(r))]))
			case 3:
				r = make([]byte, rnd.Intn(12))
			}
			b = append(b, r...)
		}
		d := holding(t, 1000, b, rnd.Intn(len(b)+1))
		l, end, spoilt := told(b)
		if spoilt {
			spoilts++
			mustRefuse(t, "by chance", d, api.ErrCorrupt)
			continue
		}
		if end < len(b) {
			tails++
		}
		mustOpen(t, "by chance", d, l)
		mustHave(t, "by chance", d, b[:end], end)
	}
	if spoilts < 1000 || tails < 1000 {
		t.Errorf("only %d spoilt, %d torn", spoilts, tails)
	}
}

// lives is what must be in a wal: what was put, and what was refused last.
type lives struct {
	there [][]byte
	late  [][]byte
}

// put puts some by chance, on a disk that may die, and notes what became of them; false, if it died.
func (m *lives) put(t *testing.T, rnd *rand.Rand, d *disk.Disk, w *Wal) bool {
	t.Helper()
	var l [][]byte
	for range rnd.Intn(4) {
		l = append(l, chance(rnd, rnd.Intn(30)))
	}
	b, _ := d.All()
	e := w.Put(l...)
	wrong := slices.ContainsFunc(l, func(own []byte) bool { return len(own) == 0 })
	full := len(b)+len(all(l)) > 400
	switch {
	case wrong && e == api.ErrArg, !wrong && full && e == api.ErrFull:
	case !wrong && !full && e == api.OK:
		m.there = append(m.there, l...)
	case !wrong && !full && e == api.ErrDead && len(l) > 0:
		m.late = l
		mustBe(t, "died", w, len(m.there), true)
		return false
	default:
		t.Fatalf("Put of %d, wrong %v, full %v: error %d", len(l), wrong, full, e)
	}
	mustBe(t, "put", w, len(m.there), false)
	return true
}

// open opens it anew behind a crash, and fails, unless all is there that was put, and of what was refused the first ones.
func (m *lives) open(t *testing.T, rnd *rand.Rand, d *disk.Disk) *Wal {
	t.Helper()
	for {
		d.Arm(rnd.Intn(4) - 1)
		w, l, e := Open(d)
		if e == api.ErrDead {
			d.Crash(rnd.Intn(50))
			continue
		}
		if e != api.OK || len(l) < len(m.there) || !alike(l[:len(m.there)], m.there) || len(l) > len(m.there)+len(m.late) || !alike(l[len(m.there):], m.late[:len(l)-len(m.there)]) {
			t.Fatalf("%x, error %d, want %x, and perhaps of %x", l, e, m.there, m.late)
		}
		m.there, m.late = l, nil
		d.Arm(rnd.Intn(12))
		return w
	}
}

// Wa2: long ways by chance, with crashes of puttings and of openings.
func TestLivesByChance(t *testing.T) {
	rnd := rand.New(rand.NewSource(4))
	for range 400 {
		d, m := holding(t, 400, nil, 0), &lives{}
		for range 12 {
			w := m.open(t, rnd, d)
			for range 8 {
				if !m.put(t, rnd, d, w) {
					break
				}
			}
			d.Crash(rnd.Intn(60) - 5)
		}
	}
}
