package disk

import (
	"bytes"
	"math"
	"math/rand"
	"slices"
	"testing"

	"tithing/api"
)

// top is how much room there can be, by the chapter.
const top = 1 << 20

// rising is n bytes, none like the one ahead of it.
func rising(n int) []byte {
	b := make([]byte, n)
	for i := range b {
		b[i] = byte(i%251 + 1)
	}
	return b
}

// mustNew is a disk.
func mustNew(t *testing.T, room int) *Disk {
	t.Helper()
	d, e := New(room)
	if d == nil || e != api.OK {
		t.Fatalf("New(%d): %v, error %d", room, d, e)
	}
	return d
}

// mustAppend fails, unless an appending ends so.
func mustAppend(t *testing.T, what string, d *Disk, b []byte, want api.Errno) {
	t.Helper()
	if e := d.Append(b); e != want {
		t.Errorf("%s: Append(%d bytes): error %d, want error %d", what, len(b), e, want)
	}
}

// mustSync fails, unless a syncing ends so.
func mustSync(t *testing.T, what string, d *Disk, want api.Errno) {
	t.Helper()
	if e := d.Sync(); e != want {
		t.Errorf("%s: Sync: error %d, want error %d", what, e, want)
	}
}

// mustCut fails, unless a cutting ends so.
func mustCut(t *testing.T, what string, d *Disk, n int, want api.Errno) {
	t.Helper()
	if e := d.Cut(n); e != want {
		t.Errorf("%s: Cut(%d): error %d, want error %d", what, n, e, want)
	}
}

// mustSpoil fails, unless a spoiling ends so.
func mustSpoil(t *testing.T, what string, d *Disk, at int, by byte, want api.Errno) {
	t.Helper()
	if e := d.Spoil(at, by); e != want {
		t.Errorf("%s: Spoil(%d, %d): error %d, want error %d", what, at, by, e, want)
	}
}

// mustHave fails, unless a disk that is not dead has these bytes, and so many of them are safe; also when it is asked once more.
func mustHave(t *testing.T, what string, d *Disk, want []byte, safe int) {
	t.Helper()
	for range 2 {
		if b, e := d.All(); !bytes.Equal(b, want) || e != api.OK {
			t.Errorf("%s: All: %x, error %d, want %x", what, b, e, want)
		}
		if got := d.Safe(); got != safe {
			t.Errorf("%s: Safe: %d, want %d", what, got, safe)
		}
		if d.Dead() {
			t.Errorf("%s: dead", what)
		}
	}
}

// mustBeDead fails, unless all that tells an error tells that a disk is dead, and nothing beside it, whatever is asked; so many are safe.
func mustBeDead(t *testing.T, what string, d *Disk, safe int) {
	t.Helper()
	if !d.Dead() {
		t.Errorf("%s: not dead", what)
	}
	for _, n := range []int{0, 1, 5, 1000} {
		mustAppend(t, what, d, rising(n), api.ErrDead)
	}
	mustAppend(t, what, d, nil, api.ErrDead)
	mustSync(t, what, d, api.ErrDead)
	for _, n := range []int{math.MinInt, -1, 0, 1, 5, top + 1, math.MaxInt} {
		mustCut(t, what, d, n, api.ErrDead)
		mustSpoil(t, what, d, n, 1, api.ErrDead)
	}
	if b, e := d.All(); b != nil || e != api.ErrDead {
		t.Errorf("%s: All: %x, error %d", what, b, e)
	}
	if got := d.Safe(); got != safe {
		t.Errorf("%s: Safe: %d, want %d", what, got, safe)
	}
}

// mustBeFresh fails, unless a disk goes on as one that is neither armed nor dead; it is left empty.
func mustBeFresh(t *testing.T, what string, d *Disk, room int) {
	t.Helper()
	for range 5 {
		mustCut(t, what, d, 0, api.OK)
		mustHave(t, what, d, nil, 0)
		mustAppend(t, what, d, rising(room), api.OK)
		mustHave(t, what, d, rising(room), 0)
		mustSync(t, what, d, api.OK)
		mustHave(t, what, d, rising(room), room)
	}
	mustCut(t, what, d, 0, api.OK)
}

// half is a disk of room for 20 that has abcdef, and abc of it is safe.
func half(t *testing.T) *Disk {
	t.Helper()
	d := mustNew(t, 20)
	mustAppend(t, "half", d, []byte("abc"), api.OK)
	mustSync(t, "half", d, api.OK)
	mustAppend(t, "half", d, []byte("def"), api.OK)
	mustHave(t, "half", d, []byte("abcdef"), 3)
	return d
}

// others are those that New did not give.
func others() map[string]*Disk {
	below, _ := New(-1)
	beyond, _ := New(top + 1)
	return map[string]*Disk{"nil": nil, "zero": {}, "new": new(Disk), "of less than no room": below, "of too much room": beyond}
}

// far are numbers of bytes that are far from any disk's.
func far() []int {
	return []int{math.MinInt, math.MinInt + 1, -1 << 40, -1 << 32, -top, -256, -2, -1, top + 1, top + 2, 1 << 21, 1 << 32, 1<<32 + 1, 1 << 40, math.MaxInt - 1, math.MaxInt}
}

// The chapter's example.
func TestExample(t *testing.T) {
	d := mustNew(t, 3)
	mustAppend(t, "example", d, []byte("abc"), api.OK)
	d.Crash(2)
	mustHave(t, "example", d, []byte("ab"), 2)
}

// Di1: there is a disk of each room from 0 to 2^20; it has no bytes.
func TestNew(t *testing.T) {
	for _, room := range []int{0, 1, 2, 255, 256, 1000, 1 << 16, top - 1, top} {
		mustHave(t, "new", mustNew(t, room), nil, 0)
		d := mustNew(t, room)
		mustAppend(t, "more than the room", d, rising(room+1), api.ErrFull)
		mustHave(t, "more than the room", d, nil, 0)
		mustBeFresh(t, "as much as the room", d, room)
	}
}

// Di1: of any other room there is none; nothing is answered beside the error.
func TestNoNew(t *testing.T) {
	for _, room := range far() {
		if d, e := New(room); d != nil || e != api.ErrArg {
			t.Errorf("New(%d): %v, error %d", room, d, e)
		}
	}
}

// Di1: what is appended stands behind the others, and is not safe.
func TestAppend(t *testing.T) {
	d, want := mustNew(t, 1000), []byte(nil)
	for _, n := range []int{1, 2, 0, 3, 100, 1, 0, 500} {
		b := rising(n + len(want))[len(want):]
		mustAppend(t, "appended", d, b, api.OK)
		want = append(want, b...)
		mustHave(t, "appended", d, want, 0)
	}
	mustSync(t, "appended", d, api.OK)
	mustAppend(t, "appended to safe ones", d, []byte{9, 8}, api.OK)
	mustHave(t, "appended to safe ones", d, append(slices.Clone(want), 9, 8), len(want))
}

// Di1: where there is not room nothing is done, and it is no step; what there is room for may still come, to the last byte.
func TestFull(t *testing.T) {
	d := mustNew(t, 5)
	mustAppend(t, "three of five", d, []byte("abc"), api.OK)
	d.Arm(1)
	for _, n := range []int{3, 4, 5, 6, 100, top, top + 1, 1 << 22} {
		mustAppend(t, "no room", d, rising(n), api.ErrFull)
		mustHave(t, "no room", d, []byte("abc"), 0)
	}
	mustAppend(t, "the step is left", d, []byte("de"), api.OK)
	for _, n := range []int{1, 2, 5, 6} {
		mustAppend(t, "full", d, rising(n), api.ErrFull)
		mustHave(t, "full", d, []byte("abcde"), 0)
	}
	mustAppend(t, "nothing more", d, nil, api.OK)
	d.Arm(-1)
	mustCut(t, "room anew", d, 4, api.OK)
	mustAppend(t, "room anew", d, []byte("fg"), api.ErrFull)
	mustAppend(t, "room anew", d, []byte("f"), api.OK)
	mustHave(t, "room anew", d, []byte("abcdf"), 4)
	none := mustNew(t, 0)
	mustAppend(t, "without room", none, []byte{1}, api.ErrFull)
	mustAppend(t, "without room", none, nil, api.OK)
	mustHave(t, "without room", none, nil, 0)
}

// Di1: to append no bytes is no step.
func TestAppendNothing(t *testing.T) {
	d := mustNew(t, 3)
	d.Arm(0)
	for _, b := range [][]byte{nil, {}, rising(4)[:0]} {
		mustAppend(t, "nothing", d, b, api.OK)
		mustHave(t, "nothing", d, nil, 0)
	}
	d.Arm(1)
	mustAppend(t, "nothing", d, nil, api.OK)
	mustAppend(t, "the step is left", d, rising(1), api.OK)
	mustAppend(t, "nothing", d, nil, api.OK)
	mustHave(t, "nothing", d, rising(1), 0)
	mustAppend(t, "and no more", d, rising(1), api.ErrDead)
	mustAppend(t, "nothing, of a dead one", d, nil, api.ErrDead)
}

// Di1: behind a syncing all is safe; it is a step also where all is safe already.
func TestSync(t *testing.T) {
	d := half(t)
	mustSync(t, "synced", d, api.OK)
	mustHave(t, "synced", d, []byte("abcdef"), 6)
	d.Crash(0)
	mustHave(t, "synced, and crashed", d, []byte("abcdef"), 6)
	d.Arm(2)
	mustSync(t, "all is safe", d, api.OK)
	mustSync(t, "all is safe", d, api.OK)
	mustHave(t, "all is safe", d, []byte("abcdef"), 6)
	mustSync(t, "the next step", d, api.ErrDead)
	mustBeDead(t, "the next step", d, 6)
	empty := mustNew(t, 3)
	mustSync(t, "empty", empty, api.OK)
	mustHave(t, "empty", empty, nil, 0)
	empty.Arm(0)
	mustSync(t, "empty", empty, api.ErrDead)
	mustBeDead(t, "empty", empty, 0)
}

// Di1: behind a cutting the first ones alone are left, and safe, whether they were so or not; what is appended then stands behind them.
func TestCut(t *testing.T) {
	for n := range 7 {
		d := half(t)
		mustCut(t, "cut", d, n, api.OK)
		mustHave(t, "cut", d, []byte("abcdef")[:n], n)
		mustAppend(t, "longer again", d, []byte("xy"), api.OK)
		mustHave(t, "longer again", d, append([]byte("abcdef")[:n:n], "xy"...), n)
		d.Crash(0)
		mustHave(t, "crashed", d, []byte("abcdef")[:n], n)
		mustCut(t, "cut to as many", d, n, api.OK)
		mustCut(t, "one too many", d, n+1, api.ErrArg)
		mustHave(t, "crashed", d, []byte("abcdef")[:n], n)
	}
}

// Di1: a number of bytes that are not there is not cut to; nothing is done, and it is no step.
func TestCutWrong(t *testing.T) {
	for _, n := range append(far(), 7, 8, 20, 21, top) {
		d := half(t)
		d.Arm(0)
		mustCut(t, "wrong", d, n, api.ErrArg)
		mustHave(t, "wrong", d, []byte("abcdef"), 3)
		d.Arm(1)
		mustCut(t, "wrong", d, n, api.ErrArg)
		mustCut(t, "the step is left", d, 6, api.OK)
		mustHave(t, "the step is left", d, []byte("abcdef"), 6)
		mustCut(t, "and no more", d, 6, api.ErrDead)
	}
	d := mustNew(t, 5)
	mustCut(t, "empty", d, 1, api.ErrArg)
	mustCut(t, "empty", d, -1, api.ErrArg)
	mustCut(t, "empty", d, 0, api.OK)
	mustHave(t, "empty", d, nil, 0)
}

// Di1: a dead one tells ErrDead ahead of all else; of one that would die now what is wrong is told first, and it does not die.
func TestWhichFirst(t *testing.T) {
	d := half(t)
	d.Arm(0)
	mustAppend(t, "armed", d, rising(15), api.ErrFull)
	mustCut(t, "armed", d, 7, api.ErrArg)
	mustCut(t, "armed", d, -1, api.ErrArg)
	mustSpoil(t, "armed", d, 6, 1, api.ErrArg)
	mustHave(t, "armed", d, []byte("abcdef"), 3)
	mustAppend(t, "dying", d, rising(14), api.ErrDead)
	mustBeDead(t, "dead", d, 3)
	d.Crash(0)
	mustHave(t, "behind a crash", d, []byte("abc"), 3)
}

// acts are the steps that there are, as they are told of a disk of room for 100.
func acts() map[string]func(d *Disk) api.Errno {
	return map[string]func(d *Disk) api.Errno{
		"append": func(d *Disk) api.Errno { return d.Append([]byte{7}) },
		"sync":   func(d *Disk) api.Errno { return d.Sync() },
		"cut":    func(d *Disk) api.Errno { return d.Cut(0) },
	}
}

// Di2: armed with n, n steps of any kind are done; it is dead only when the next one is to be done.
func TestArm(t *testing.T) {
	for _, last := range acts() {
		for name, act := range acts() {
			for n := range 6 {
				d := mustNew(t, 100)
				d.Arm(n)
				for range n {
					if e := act(d); e != api.OK || d.Dead() {
						t.Errorf("%s, armed with %d: error %d, dead %v", name, n, e, d.Dead())
					}
				}
				was, _ := d.All()
				mustHave(t, "all steps are done", d, was, d.Safe())
				if e := last(d); e != api.ErrDead {
					t.Errorf("%s, armed with %d: dying: error %d", name, n, e)
				}
				mustBeDead(t, "dead", d, d.Safe())
				d.Crash(100)
				if b, _ := d.All(); !bytes.HasPrefix(b, was) {
					t.Errorf("%s, armed with %d: %x, want %x at first", name, n, b, was)
				}
			}
		}
	}
}

// Di2: what is no step is not counted.
func TestNoSteps(t *testing.T) {
	d := half(t)
	d.Arm(1)
	for range 3 {
		mustHave(t, "looked at", d, []byte("abcdef"), 3)
		mustSpoil(t, "spoilt", d, 0, 3, api.OK)
		mustSpoil(t, "spoilt", d, 0, 3, api.OK)
		mustSpoil(t, "spoilt", d, 6, 3, api.ErrArg)
	}
	mustSync(t, "the step is left", d, api.OK)
	mustHave(t, "the step is left", d, []byte("abcdef"), 6)
	mustSpoil(t, "armed with no step", d, 5, 'f'^'g', api.OK)
	mustHave(t, "armed with no step", d, []byte("abcdeg"), 6)
	mustSync(t, "and no more", d, api.ErrDead)
}

// Di2: of n below 0 it is not armed, also if it was; what it is armed with last counts.
func TestArmAnew(t *testing.T) {
	for _, n := range []int{-1, -2, -100, -1 << 40, math.MinInt + 1, math.MinInt, math.MaxInt} {
		d := mustNew(t, 4)
		d.Arm(n)
		mustBeFresh(t, "armed below 0, or with very many", d, 4)
		d.Arm(0)
		d.Arm(n)
		mustBeFresh(t, "armed with 0, and then so", d, 4)
		d.Arm(1)
		d.Arm(n)
		mustBeFresh(t, "armed with 1, and then so", d, 4)
	}
	d := half(t)
	d.Arm(0)
	d.Arm(2)
	mustSync(t, "armed with 0, then 2", d, api.OK)
	d.Arm(100)
	d.Arm(1)
	mustSync(t, "armed with 100, then 1", d, api.OK)
	mustSync(t, "armed with 100, then 1", d, api.ErrDead)
	mustBeDead(t, "armed with 100, then 1", d, 6)
}

// Di2: no arming brings a dead one back, nor is it armed behind the crash.
func TestDead(t *testing.T) {
	for name, act := range acts() {
		d := half(t)
		d.Arm(0)
		if e := act(d); e != api.ErrDead {
			t.Errorf("%s: error %d", name, e)
		}
		for _, again := range []int{-1, 0, 1, 2, 100, math.MaxInt, math.MinInt, 0} {
			d.Arm(again)
			mustBeDead(t, name, d, 3)
		}
		d.Crash(0)
		mustHave(t, name, d, []byte("abc"), 3)
		mustBeFresh(t, name, d, 20)
	}
}

// Di2: a crash of one that did not die leaves the safe ones, and as many others as it says, which are safe then; it is not armed any more.
func TestCrashAlive(t *testing.T) {
	for n := -3; n <= 6; n++ {
		for _, arm := range []int{-1, 0, 1, 2, 100} {
			want := []byte("abcdef")[:3+max(0, min(n, 3))]
			d := half(t)
			d.Arm(arm)
			d.Crash(n)
			mustHave(t, "crashed", d, want, len(want))
			d.Crash(n)
			mustHave(t, "crashed once more", d, want, len(want))
			mustAppend(t, "longer again", d, []byte("xyz"), api.OK)
			mustHave(t, "longer again", d, append(slices.Clone(want), "xyz"...), len(want))
			mustBeFresh(t, "crashed", d, 20)
		}
	}
	d := mustNew(t, 4)
	d.Crash(9)
	mustHave(t, "crashed when new", d, nil, 0)
	mustBeFresh(t, "crashed when new", d, 4)
}

// Di2: of an appending that was not done as many first bytes stay as the crash says, behind those that are not safe.
func TestCrashInAppend(t *testing.T) {
	for many := 1; many <= 14; many++ {
		all := append([]byte("abcdef"), rising(many)...)
		for n := -2; n <= many+5; n++ {
			d := half(t)
			d.Arm(0)
			mustAppend(t, "dying", d, rising(many), api.ErrDead)
			mustBeDead(t, "dying", d, 3)
			d.Crash(n)
			want := all[:3+max(0, min(n, 3+many))]
			mustHave(t, "torn", d, want, len(want))
			d.Crash(100)
			mustHave(t, "crashed once more", d, want, len(want))
			mustAppend(t, "longer again", d, []byte("x")[:min(1, 20-len(want))], api.OK)
			mustBeFresh(t, "torn", d, 20)
		}
	}
}

// Di2: a torn one stands behind the safe ones right away, where all were safe, and there is none at the next death.
func TestTornOnce(t *testing.T) {
	d := mustNew(t, 20)
	for k := range 4 {
		was, _ := d.All()
		d.Arm(0)
		mustAppend(t, "dying", d, rising(5), api.ErrDead)
		d.Crash(k)
		was = append(was, rising(k)...)
		mustHave(t, "torn", d, was, len(was))
		d.Arm(0)
		mustSync(t, "dying in a syncing", d, api.ErrDead)
		d.Crash(100)
		mustHave(t, "nothing is torn", d, was, len(was))
	}
}

// Di2: a syncing that was not done makes nothing safe.
func TestCrashInSync(t *testing.T) {
	for n := -2; n <= 6; n++ {
		d := half(t)
		d.Arm(0)
		mustSync(t, "dying", d, api.ErrDead)
		mustBeDead(t, "dying", d, 3)
		d.Crash(n)
		want := []byte("abcdef")[:3+max(0, min(n, 3))]
		mustHave(t, "crashed", d, want, len(want))
		mustBeFresh(t, "crashed", d, 20)
	}
}

// Di1, Di2: a cutting is done whole, or not: one that was not done takes nothing away, and makes nothing safe.
func TestCrashInCut(t *testing.T) {
	for at := range 7 {
		for n := -2; n <= 6; n++ {
			d := half(t)
			d.Arm(0)
			mustCut(t, "dying", d, at, api.ErrDead)
			mustBeDead(t, "dying", d, 3)
			d.Crash(n)
			want := []byte("abcdef")[:3+max(0, min(n, 3))]
			mustHave(t, "not done", d, want, len(want))
			d = half(t)
			d.Arm(1)
			mustCut(t, "done", d, at, api.OK)
			mustAppend(t, "dying", d, []byte("xy"), api.ErrDead)
			mustBeDead(t, "dying", d, at)
			d.Crash(n)
			want = append([]byte("abcdef")[:at:at], []byte("xy")[:max(0, min(n, 2))]...)
			mustHave(t, "done", d, want, len(want))
		}
	}
}

// Di2: of numbers that are very great, or far below 0, a crash leaves all, or none of those that are not safe.
func TestCrashFar(t *testing.T) {
	for _, n := range far() {
		for _, arm := range []int{-1, 0} {
			d := half(t)
			d.Arm(arm)
			d.Append([]byte("ghi"))
			d.Crash(n)
			want := []byte("abcdefghi")
			if n < 0 {
				want = want[:3]
			}
			mustHave(t, "crashed", d, want, len(want))
			mustBeFresh(t, "crashed", d, 20)
		}
	}
}

// Di2: a torn one that fills a disk to its last byte stays whole, if the crash says so.
func TestCrashAtTheEnd(t *testing.T) {
	d := mustNew(t, top)
	mustAppend(t, "first half", d, rising(top)[:top/2], api.OK)
	d.Arm(0)
	mustAppend(t, "second half", d, rising(top)[top/2:], api.ErrDead)
	d.Crash(top)
	mustHave(t, "whole", d, rising(top), top)
	mustAppend(t, "full", d, []byte{1}, api.ErrFull)
	mustSpoil(t, "the last one", d, top-1, 1, api.OK)
	mustSpoil(t, "beyond the last one", d, top, 1, api.ErrArg)
}

// Di2: each byte that is there, safe or not, is exclusive-ored; it is as safe as it was, and the others are left alone.
func TestSpoil(t *testing.T) {
	for at := range 6 {
		for by := range 256 {
			d, want := half(t), []byte("abcdef")
			mustSpoil(t, "spoilt", d, at, byte(by), api.OK)
			want[at] ^= byte(by)
			mustHave(t, "spoilt", d, want, 3)
			mustSpoil(t, "spoilt back", d, at, byte(by), api.OK)
			mustHave(t, "spoilt back", d, []byte("abcdef"), 3)
			mustSpoil(t, "spoilt", d, at, byte(by), api.OK)
			d.Crash(1)
			mustHave(t, "crashed", d, want[:4], 4)
		}
	}
}

// Di2: where there is no byte, nothing is spoilt, also if there was one, or room for one.
func TestSpoilWrong(t *testing.T) {
	d := half(t)
	for _, at := range append(far(), 6, 7, 19, 20, 21, top) {
		mustSpoil(t, "no byte", d, at, 1, api.ErrArg)
		mustSpoil(t, "no byte, by nothing", d, at, 0, api.ErrArg)
		mustHave(t, "no byte", d, []byte("abcdef"), 3)
	}
	mustCut(t, "cut", d, 2, api.OK)
	mustSpoil(t, "cut off", d, 2, 1, api.ErrArg)
	mustSpoil(t, "cut off", d, 5, 1, api.ErrArg)
	mustSpoil(t, "left", d, 1, 'b'^'x', api.OK)
	mustHave(t, "cut", d, []byte("ax"), 2)
	mustSpoil(t, "empty", mustNew(t, 4), 0, 1, api.ErrArg)
	mustSpoil(t, "without room", mustNew(t, 0), 0, 1, api.ErrArg)
}

// R1: one that New did not give is dead, and does nothing; ErrState is told of it, whatever is asked.
func TestNotGiven(t *testing.T) {
	beyond := rising(top + 1)
	for name, d := range others() {
		for _, n := range append(far(), 0, 1, 5) {
			for _, b := range [][]byte{nil, {}, rising(1), beyond} {
				mustAppend(t, name, d, b, api.ErrState)
			}
			mustSync(t, name, d, api.ErrState)
			mustCut(t, name, d, n, api.ErrState)
			mustSpoil(t, name, d, n, 1, api.ErrState)
			if b, e := d.All(); b != nil || e != api.ErrState {
				t.Errorf("%s: All: %x, error %d", name, b, e)
			}
			d.Arm(n)
			d.Crash(n)
			if !d.Dead() || d.Safe() != 0 {
				t.Errorf("%s: dead %v, safe %d", name, d.Dead(), d.Safe())
			}
		}
		if d != nil && (d.made || d.room != 0 || d.all != nil || d.safe != 0 || d.left != 0 || d.dead || d.torn != nil) {
			t.Errorf("%s: turned", name)
		}
	}
}

// R3: what is handed in is neither written to nor kept; what is told is new memory.
func TestNewMemory(t *testing.T) {
	d, given := mustNew(t, 20), rising(10)
	mustAppend(t, "given", d, given[:4], api.OK)
	mustAppend(t, "given", d, given[4:6], api.OK)
	mustSpoil(t, "given", d, 0, 255, api.OK)
	if !bytes.Equal(given, rising(10)) {
		t.Errorf("what was given is %x", given)
	}
	mustSpoil(t, "given", d, 0, 255, api.OK)
	clear(given)
	mustHave(t, "what was given is cleared", d, rising(6), 0)

	told, _ := d.All()
	clear(told)
	mustHave(t, "what was told is cleared", d, rising(6), 0)
	told, _ = d.All()
	_ = append(told, 1)
	mustAppend(t, "what was told is longer", d, rising(7)[6:], api.OK)
	mustHave(t, "what was told is longer", d, rising(7), 0)
	told, _ = d.All()
	mustCut(t, "behind what was told", d, 0, api.OK)
	mustAppend(t, "behind what was told", d, []byte("zzzzzzzzz"), api.OK)
	mustSpoil(t, "behind what was told", d, 1, 255, api.OK)
	if !bytes.Equal(told, rising(7)) {
		t.Errorf("what was told is %x", told)
	}
}

// R3: a torn one is kept by itself: the bytes that were handed in may turn ahead of the crash, and are not written to behind it.
func TestTornIsNew(t *testing.T) {
	d, given := mustNew(t, 20), rising(10)
	d.Arm(0)
	mustAppend(t, "dying", d, given[:5], api.ErrDead)
	clear(given)
	d.Crash(5)
	mustHave(t, "torn", d, rising(5), 5)
	mustAppend(t, "longer", d, []byte("xyz"), api.OK)
	mustSpoil(t, "spoilt", d, 0, 255, api.OK)
	if !bytes.Equal(given, make([]byte, 10)) {
		t.Errorf("what was given is %x", given)
	}
}

// R4: disks that New gives hang neither on each other nor on the calls ahead.
func TestNothingIsShared(t *testing.T) {
	a, b := half(t), half(t)
	mustSpoil(t, "one", a, 0, 1, api.OK)
	mustCut(t, "one", a, 1, api.OK)
	a.Arm(0)
	mustSync(t, "one", a, api.ErrDead)
	mustHave(t, "another one", b, []byte("abcdef"), 3)
	mustAppend(t, "another one", b, []byte("g"), api.OK)
	a.Crash(3)
	mustHave(t, "one", a, []byte("`"), 1)
	mustHave(t, "another one", b, []byte("abcdefg"), 3)
	mustHave(t, "a later one", mustNew(t, 20), nil, 0)
}

// cell is a byte of a disk, and whether it is safe.
type cell struct {
	is   byte
	safe bool
}

// told is the chapter's words, one by one.
type told struct {
	room   int
	cells  []cell
	armed  int
	dead   bool
	behind []cell // those of a step that was not done
}

// dies tells whether the next step is not done.
func (m *told) dies() bool {
	m.dead = m.armed == 0
	m.armed = max(m.armed-1, -1)
	return m.dead
}

// make makes the first n safe, and the others go.
func (m *told) make(n int) {
	m.cells = slices.Clone(m.cells[:n])
	for i := range m.cells {
		m.cells[i].safe = true
	}
}

// append is Append.
func (m *told) append(b []byte) api.Errno {
	var l []cell
	for _, is := range b {
		l = append(l, cell{is: is})
	}
	switch {
	case m.dead:
		return api.ErrDead
	case len(m.cells)+len(b) > m.room:
		return api.ErrFull
	case len(b) == 0:
		return api.OK
	case m.dies():
		m.behind = l
		return api.ErrDead
	}
	m.cells = append(m.cells, l...)
	return api.OK
}

// sync is Sync.
func (m *told) sync() api.Errno {
	if m.dead || m.dies() {
		return api.ErrDead
	}
	m.make(len(m.cells))
	return api.OK
}

// cut is Cut.
func (m *told) cut(n int) api.Errno {
	switch {
	case m.dead:
		return api.ErrDead
	case n < 0 || len(m.cells) < n:
		return api.ErrArg
	case m.dies():
		return api.ErrDead
	}
	m.make(n)
	return api.OK
}

// arm is Arm.
func (m *told) arm(n int) { m.armed = max(n, -1) }

// crash is Crash: one by one those stay that are safe, and the first n of the others.
func (m *told) crash(n int) {
	var l []cell
	for _, c := range append(m.cells, m.behind...) {
		if !c.safe {
			n--
		}
		if c.safe || n >= 0 {
			l = append(l, c)
		}
	}
	*m = told{room: m.room, cells: l, armed: -1}
	m.make(len(l))
}

// spoil is Spoil.
func (m *told) spoil(at int, by byte) api.Errno {
	if m.dead {
		return api.ErrDead
	}
	if at < 0 || at >= len(m.cells) {
		return api.ErrArg
	}
	m.cells[at].is ^= by
	return api.OK
}

// all is All, and how many are safe.
func (m *told) all() (b []byte, safe int, e api.Errno) {
	for _, c := range m.cells {
		if c.safe {
			safe++
		}
		b = append(b, c.is)
	}
	if m.dead {
		return nil, safe, api.ErrDead
	}
	return b, safe, api.OK
}

// deed is something that is done with a disk: its kind, a number, and bytes.
type deed struct {
	kind, n int
	b       []byte
}

// do does it with a disk, and with what is told of it, and fails, unless they go alike.
func do(t *testing.T, d *Disk, m *told, a deed) {
	t.Helper()
	var got, want api.Errno
	switch a.kind {
	case 0:
		got, want = d.Append(a.b), m.append(a.b)
	case 1:
		got, want = d.Sync(), m.sync()
	case 2:
		got, want = d.Cut(a.n), m.cut(a.n)
	case 3:
		d.Arm(a.n)
		m.arm(a.n)
	case 4:
		d.Crash(a.n)
		m.crash(a.n)
	case 5:
		got, want = d.Spoil(a.n, 64), m.spoil(a.n, 64)
	}
	if got != want {
		t.Fatalf("%v: error %d, want error %d", a, got, want)
	}
	b, e := d.All()
	all, safe, f := m.all()
	if !bytes.Equal(b, all) || e != f || d.Safe() != safe || d.Dead() != m.dead {
		t.Fatalf("%v: %x, error %d, safe %d, dead %v, want %x, error %d, safe %d, dead %v", a, b, e, d.Safe(), d.Dead(), all, f, safe, m.dead)
	}
}

// Di1, Di2: whatever is called, in all orders of a few calls of a small disk, it is as the chapter's words say.
func TestAllOrders(t *testing.T) {
	deeds := []deed{
		{kind: 0, b: []byte{1}}, {kind: 0, b: []byte{2, 3}}, {kind: 0, b: nil}, {kind: 1}, {kind: 2, n: 1}, {kind: 2, n: 2},
		{kind: 3, n: 0}, {kind: 3, n: 1}, {kind: 4, n: 0}, {kind: 4, n: 1}, {kind: 4, n: 9}, {kind: 5, n: 1},
	}
	const long = 5
	var order [long]int
	for {
		d, m := mustNew(t, 4), &told{room: 4, armed: -1}
		for _, k := range order {
			do(t, d, m, deeds[k])
		}
		at := 0
		for ; at < long && order[at] == len(deeds)-1; at++ {
			order[at] = 0
		}
		if at == long {
			return
		}
		order[at]++
	}
}

// byChance is something, by chance, that may be done with a disk of so much room.
func byChance(rnd *rand.Rand, room int) deed {
	n := rnd.Intn(room+6) - 3
	a := deed{kind: []int{0, 0, 0, 0, 0, 1, 1, 2, 3, 4, 4, 5}[rnd.Intn(12)], n: n}
	switch a.kind {
	case 0:
		a.b = make([]byte, rnd.Intn(room/3+2))
		rnd.Read(a.b)
	case 3:
		a.n = rnd.Intn(9) - 1
	}
	return a
}

// Di1, Di2: long ways by chance, too.
func TestByChance(t *testing.T) {
	rnd := rand.New(rand.NewSource(1))
	for round := range 500 {
		room := []int{0, 1, 2, 7, 50, 300}[round%6]
		d, m := mustNew(t, room), &told{room: room, armed: -1}
		for range 300 {
			do(t, d, m, byChance(rnd, room))
		}
	}
}

// Di3: where nothing is cut or spoilt, what is safe is there behind any crash; what is there begins with it, is a beginning of all that was appended, and is safe.
func TestWhatFollows(t *testing.T) {
	rnd := rand.New(rand.NewSource(2))
	for range 300 {
		d, all, safe := mustNew(t, 10000), []byte(nil), 0 // all: that was appended since the last crash, behind what that left
		for range 40 {
			d.Arm(rnd.Intn(12) - 1)
			for !d.Dead() && rnd.Intn(10) > 0 {
				b := make([]byte, rnd.Intn(9))
				rnd.Read(b)
				if d.Append(b) != api.ErrFull {
					all = append(all, b...)
				}
				if rnd.Intn(3) == 0 && d.Sync() == api.OK {
					safe = len(all)
				}
			}
			d.Crash(rnd.Intn(30) - 5)
			b, e := d.All()
			if e != api.OK || len(b) < safe || !bytes.HasPrefix(all, b) || d.Safe() != len(b) {
				t.Fatalf("%x, error %d, safe %d, want at least %x, at most %x", b, e, d.Safe(), all[:safe], all)
			}
			all, safe = b, len(b)
		}
	}
}
