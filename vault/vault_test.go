package vault

import (
	"bytes"
	"crypto/hmac"
	"crypto/sha256"
	"encoding/binary"
	"encoding/hex"
	"math"
	"math/rand"
	"slices"
	"testing"

	"tithing/api"
	"tithing/blob"
)

// end is how far a counter goes, by the chapter.
const end = 1 << 40

// rising is a hash of 32 unlike bytes.
func rising() (h api.Hash) {
	for i := range h {
		h[i] = byte(i + 1)
	}
	return h
}

// made is a seal.
func made(view, phase, pview int) api.Seal {
	return api.Seal{View: view, Phase: phase, PView: pview, PHash: rising()}
}

// right are seals that may be; their blobs are of many lengths, and none goes by the one ahead of it.
func right() []api.Seal {
	return []api.Seal{
		made(1, 1, 0), made(1, 2, 0), made(1, 3, 1), made(1<<40, 3, 1<<40), {}, made(300, 2, 299), made(2, 1, 0),
		made(128, 3, 128), {View: 5, Phase: 3}, made(1<<40, 1, 1<<40-1), {View: 1, Phase: 1}, made(127, 2, 7),
	}
}

// wrong are seals that may not be.
func wrong() []api.Seal {
	return []api.Seal{
		{Phase: 1}, {View: 1}, {PView: 1}, {PHash: rising()}, made(1, 1, 1), made(1, 4, 0), made(-1, 1, 0), made(2, 2, 2), made(2, 3, 3),
		made(1<<40+1, 3, 0), made(3, 1, -1), made(3, -1, 0), made(math.MaxInt, 3, math.MaxInt), made(math.MinInt, 1, math.MinInt),
	}
}

// written is a blob by the library.
func written(i, version int, s api.Seal) []byte {
	var b []byte
	for _, n := range []int{version, s.View, s.Phase, s.PView} {
		b = binary.AppendUvarint(b, uint64(n))
	}
	b = append(b, s.PHash[:]...)
	key := sha256.Sum256(append([]byte("tithing key "), byte(i)))
	m := hmac.New(sha256.New, key[:])
	m.Write([]byte{3})
	m.Write(b)
	return m.Sum(b)
}

// filled is so many bytes that are none of a blob.
func filled(n int) []byte { return bytes.Repeat([]byte{0xEE}, n) }

// over is the first n bytes of b in place of a's own first ones.
func over(a, b []byte, n int) []byte {
	n = max(0, min(n, len(b)))
	l := bytes.Clone(a)
	for len(l) < n {
		l = append(l, 0)
	}
	copy(l, b[:n])
	return l
}

// mustNew is a part's vault.
func mustNew(t *testing.T, i, at int) *Vault {
	t.Helper()
	v, e := New(i, at)
	if v == nil || e != api.OK {
		t.Fatalf("New(%d, %d): %v, error %d", i, at, v, e)
	}
	return v
}

// mustKeep fails, unless a seal's keeping ends so.
func mustKeep(t *testing.T, what string, v *Vault, s api.Seal, want api.Errno) {
	t.Helper()
	if e := v.Keep(s); e != want {
		t.Errorf("%s: Keep(%v): error %d, want error %d", what, s, e, want)
	}
}

// mustLoad fails, unless a seal is loaded, also when it is asked for once more.
func mustLoad(t *testing.T, what string, v *Vault, want api.Seal) {
	t.Helper()
	for range 2 {
		if s, e := v.Load(); s != want || e != api.OK {
			t.Errorf("%s: Load: %v, error %d, want %v", what, s, e, want)
		}
	}
}

// mustNotLoad fails, unless an error is told, and nothing beside it.
func mustNotLoad(t *testing.T, what string, v *Vault, want api.Errno) {
	t.Helper()
	for range 2 {
		if s, e := v.Load(); s != (api.Seal{}) || e != want {
			t.Errorf("%s: Load: %v, error %d, want error %d", what, s, e, want)
		}
	}
}

// mustHave fails, unless a vault's slots, and its counter, are so.
func mustHave(t *testing.T, what string, v *Vault, first, second []byte, at int) {
	t.Helper()
	if a, b := v.Slot(0), v.Slot(1); !bytes.Equal(a, first) || !bytes.Equal(b, second) {
		t.Errorf("%s: slots %x and %x, want %x and %x", what, a, b, first, second)
	}
	if got := v.At(); got != at {
		t.Errorf("%s: at %d, want %d", what, got, at)
	}
}

// mustSwap fails, unless a slot's bytes are swapped.
func mustSwap(t *testing.T, v *Vault, k int, b []byte) {
	t.Helper()
	if e := v.Swap(k, b); e != api.OK || !bytes.Equal(v.Slot(k), b) {
		t.Errorf("Swap(%d, %d bytes): error %d, %x", k, len(b), e, v.Slot(k))
	}
}

// mustBeDead fails, unless a vault is dead, or is not.
func mustBeDead(t *testing.T, what string, v *Vault, want bool) {
	t.Helper()
	if got := v.Dead(); got != want {
		t.Errorf("%s: dead %v", what, got)
	}
}

// mustBeFresh fails, unless a vault keeps, as one that is neither armed nor dead; it has what is told, and perhaps the next ones.
func mustBeFresh(t *testing.T, what string, v *Vault) {
	t.Helper()
	mustBeDead(t, what, v, false)
	for _, s := range right() {
		at := v.At()
		mustKeep(t, what, v, s, api.OK)
		mustLoad(t, what, v, s)
		if v.At() != at+1 {
			t.Errorf("%s: from %d up to %d", what, at, v.At())
		}
	}
	mustBeDead(t, what, v, false)
}

// others are those that New did not give.
func others() map[string]*Vault {
	none, _ := New(0, 0)
	late, _ := New(1, end+1)
	return map[string]*Vault{"nil": nil, "zero": {}, "new": new(Vault), "of no part": none, "of no counter": late}
}

// noParts are numbers of which there is no part, noCounters those at which there is no counter.
func noParts() []int {
	return []int{math.MinInt, -1 << 40, -256, -2, -1, 0, 22, 23, 255, 256, 257, 1<<32 + 1, 1 << 40, math.MaxInt}
}

func noCounters() []int {
	return []int{math.MinInt, math.MinInt + 1, -1 << 40, -256, -2, -1, end + 1, end + 2, 1 << 41, 1 << 62, math.MaxInt}
}

// noSlots are numbers of which there is no slot.
func noSlots() []int {
	return []int{math.MinInt, math.MinInt + 1, -256, -2, -1, 2, 3, 4, 255, 256, 257, 1 << 32, 1<<32 + 1, math.MaxInt}
}

// The chapter's example.
func TestExample(t *testing.T) {
	v := mustNew(t, 2, 0)
	mustKeep(t, "first", v, made(1, 1, 0), api.OK)
	mustKeep(t, "second", v, made(2, 1, 0), api.OK)
	b := v.Slot(1)
	mustSwap(t, v, 0, b)
	mustSwap(t, v, 1, b)
	mustNotLoad(t, "both slots swapped", v, api.ErrHalt)
}

// Va1: of each part there is a vault, at each number that a counter has; it is empty, and loads the zero seal at 0 alone.
func TestNew(t *testing.T) {
	for i := 1; i <= 21; i++ {
		for _, at := range []int{0, 1, 2, 3, 127, 128, 300, 1<<32 + 1, end - 1, end} {
			v := mustNew(t, i, at)
			mustBeDead(t, "new", v, false)
			mustHave(t, "new", v, nil, nil, at)
			if at == 0 {
				mustLoad(t, "new", v, api.Seal{})
			} else {
				mustNotLoad(t, "new", v, api.ErrHalt)
			}
		}
	}
}

// Va1: of no part, or no counter, there is none; nothing is answered beside the error.
func TestNoNew(t *testing.T) {
	mustNone := func(i, at int) {
		if v, e := New(i, at); v != nil || e != api.ErrArg {
			t.Errorf("New(%d, %d): %v, error %d", i, at, v, e)
		}
	}
	for _, i := range noParts() {
		for _, at := range append(noCounters(), 0, 1, end) {
			mustNone(i, at)
		}
	}
	for _, at := range noCounters() {
		mustNone(1, at)
		mustNone(21, at)
	}
}

// Va1: bytes of a kept seal that were worked out elsewhere.
func TestTold(t *testing.T) {
	v := mustNew(t, 2, 6)
	mustKeep(t, "told", v, api.Seal{View: 3, Phase: 1}, api.OK)
	want := "07030100" + "0000000000000000000000000000000000000000000000000000000000000000" + "84a80f70a642b5036dee8be4a3fdb2af583e1631e8039bae8f7c14b5cb15a61e"
	if got := hex.EncodeToString(v.Slot(1)); got != want {
		t.Errorf("%s, want %s", got, want)
	}
}

// Va1: the blob of the next version goes to that version's slot alone, the counter goes up, and the seal is loaded.
func TestKeep(t *testing.T) {
	for i := 1; i <= 21; i++ {
		for _, from := range []int{0, 1, 126, 1<<14 - 2, end - len(right())} {
			v := mustNew(t, i, from)
			slots := [2][]byte{}
			for k, s := range right() {
				version := from + k + 1
				mustKeep(t, "kept", v, s, api.OK)
				slots[version%2] = written(i, version, s)
				mustHave(t, "kept", v, slots[0], slots[1], version)
				mustLoad(t, "kept", v, s)
				mustBeDead(t, "kept", v, false)
			}
		}
	}
}

// Va1: a blob's writing that is done whole leaves its bytes alone, whatever the slot had.
func TestKeepOverLonger(t *testing.T) {
	for _, own := range []int{0, 1, 67, 68, 69, 100, 1000} {
		v := mustNew(t, 3, 4)
		mustSwap(t, v, 0, filled(own))
		mustSwap(t, v, 1, filled(own))
		mustKeep(t, "over longer", v, made(1, 1, 0), api.OK)
		mustHave(t, "over longer", v, filled(own), written(3, 5, made(1, 1, 0)), 5)
		v.Arm(1)
		mustKeep(t, "over longer, dead", v, made(1, 2, 0), api.ErrDead)
		mustHave(t, "over longer, dead", v, written(3, 6, made(1, 2, 0)), written(3, 5, made(1, 1, 0)), 5)
	}
}

// Va1: a seal that may not be is not kept, and no step is done of it.
func TestKeepWrong(t *testing.T) {
	for _, s := range wrong() {
		v := mustNew(t, 4, 0)
		mustKeep(t, "ahead of all", v, s, api.ErrArg)
		mustHave(t, "ahead of all", v, nil, nil, 0)
		mustLoad(t, "ahead of all", v, api.Seal{})
		mustKeep(t, "right", v, made(7, 2, 6), api.OK)
		v.Arm(0)
		mustKeep(t, "wrong", v, s, api.ErrArg)
		mustBeDead(t, "wrong", v, false)
		mustHave(t, "wrong", v, nil, written(4, 1, made(7, 2, 6)), 1)
		mustLoad(t, "wrong", v, made(7, 2, 6))
		v.Arm(2)
		mustKeep(t, "wrong", v, s, api.ErrArg)
		mustKeep(t, "the steps are left", v, made(8, 1, 0), api.OK)
		mustKeep(t, "and no more", v, made(9, 1, 0), api.ErrDead)
	}
}

// Va1: at its end the counter is spent: nothing is kept any more, no step is done, and what was kept last is loaded.
func TestSpent(t *testing.T) {
	v := mustNew(t, 5, end-1)
	mustKeep(t, "the last one", v, made(1, 1, 0), api.OK)
	b := written(5, end, made(1, 1, 0))
	v.Arm(0)
	for range 3 {
		mustKeep(t, "at the end", v, made(2, 1, 0), api.ErrSpent)
		mustBeDead(t, "at the end", v, false)
		mustHave(t, "at the end", v, b, nil, end)
		mustLoad(t, "at the end", v, made(1, 1, 0))
	}
	v.Crash(1000)
	mustHave(t, "behind a crash at the end", v, b, nil, end)
	mustKeep(t, "behind a crash at the end", v, made(2, 1, 0), api.ErrSpent)
	w := mustNew(t, 5, end)
	mustKeep(t, "made at the end", w, api.Seal{}, api.ErrSpent)
	mustHave(t, "made at the end", w, nil, nil, end)
	mustNotLoad(t, "made at the end", w, api.ErrHalt)
	mustSwap(t, w, 1, b)
	mustLoad(t, "the last blob", w, made(1, 1, 0))
}

// Va1: ErrDead is ahead of ErrArg and ErrHalt, and ErrArg ahead of ErrSpent.
func TestWhichFirst(t *testing.T) {
	for _, s := range wrong() {
		mustKeep(t, "wrong and spent", mustNew(t, 1, end), s, api.ErrArg)
		v := mustNew(t, 1, 3)
		v.Arm(0)
		mustNotLoad(t, "armed", v, api.ErrHalt)
		mustKeep(t, "dying", v, made(1, 1, 0), api.ErrDead)
		mustKeep(t, "dead and wrong", v, s, api.ErrDead)
		mustNotLoad(t, "dead and nothing there", v, api.ErrDead)
	}
	v := mustNew(t, 1, end-1)
	v.Arm(1)
	mustKeep(t, "dying ahead of the end", v, made(1, 1, 0), api.ErrDead)
	mustKeep(t, "dead ahead of the end", v, made(1, 1, 0), api.ErrDead)
	mustHave(t, "dead ahead of the end", v, written(1, end, made(1, 1, 0)), nil, end-1)
	v.Crash(0)
	mustKeep(t, "to the end", v, made(1, 2, 0), api.OK)
	mustKeep(t, "at the end", v, made(1, 3, 0), api.ErrSpent)
}

// Va2: armed with n, n steps are done; it is dead only when the next one is to be done.
func TestArm(t *testing.T) {
	for n := range 10 {
		v := mustNew(t, 6, 0)
		slots := [2][]byte{}
		v.Arm(n)
		for k := range n / 2 {
			mustBeDead(t, "armed", v, false)
			mustKeep(t, "armed", v, made(k+1, 1, 0), api.OK)
			mustLoad(t, "armed", v, made(k+1, 1, 0))
			slots[(k+1)%2] = written(6, k+1, made(k+1, 1, 0))
		}
		mustBeDead(t, "all steps are done", v, false)
		mustHave(t, "all steps are done", v, slots[0], slots[1], n/2)
		mustKeep(t, "dying", v, made(50, 1, 0), api.ErrDead)
		if n%2 == 1 {
			slots[(n/2+1)%2] = written(6, n/2+1, made(50, 1, 0))
		}
		mustBeDead(t, "dead", v, true)
		mustHave(t, "dead", v, slots[0], slots[1], n/2)
		mustNotLoad(t, "dead", v, api.ErrDead)
	}
}

// Va2: of n below 0 it is not armed, also if it was; what it is armed with last counts.
func TestArmAnew(t *testing.T) {
	for _, n := range []int{-1, -2, -100, math.MinInt + 1, math.MinInt} {
		v := mustNew(t, 6, 0)
		v.Arm(n)
		mustBeFresh(t, "armed below 0", v)
		v.Arm(0)
		v.Arm(n)
		mustBeFresh(t, "armed with 0, then below 0", v)
		v.Arm(1)
		v.Arm(n)
		mustBeFresh(t, "armed with 1, then below 0", v)
	}
	v := mustNew(t, 6, 0)
	v.Arm(0)
	v.Arm(2)
	mustKeep(t, "armed with 0, then 2", v, made(1, 1, 0), api.OK)
	v.Arm(100)
	v.Arm(1)
	mustKeep(t, "armed with 100, then 1", v, made(2, 1, 0), api.ErrDead)
	mustHave(t, "armed with 100, then 1", v, written(6, 2, made(2, 1, 0)), written(6, 1, made(1, 1, 0)), 1)
	v = mustNew(t, 6, 0)
	v.Arm(math.MaxInt)
	mustBeFresh(t, "armed with very many", v)
}

// Va1, Va2: a dead one neither keeps nor loads, and no arming brings it back; it can be looked at, and swapped.
func TestDead(t *testing.T) {
	for n := range 2 {
		v := mustNew(t, 7, 0)
		mustKeep(t, "kept", v, made(1, 1, 0), api.OK)
		v.Arm(n)
		mustKeep(t, "dying", v, made(2, 1, 0), api.ErrDead)
		first := v.Slot(0)
		for _, again := range []int{-1, 0, 1, 2, 100, math.MaxInt, math.MinInt} {
			v.Arm(again)
			mustBeDead(t, "armed when dead", v, true)
			mustKeep(t, "armed when dead", v, made(3, 1, 0), api.ErrDead)
			mustNotLoad(t, "armed when dead", v, api.ErrDead)
			mustHave(t, "armed when dead", v, first, written(7, 1, made(1, 1, 0)), 1)
		}
		mustSwap(t, v, 1, filled(3))
		mustBeDead(t, "swapped", v, true)
		mustNotLoad(t, "swapped", v, api.ErrDead)
		mustSwap(t, v, 1, written(7, 1, made(1, 2, 0)))
		v.Crash(0)
		mustLoad(t, "swapped when dead, and crashed", v, made(1, 2, 0))
		mustBeFresh(t, "behind a crash", v)
	}
}

// Va2: a crash of one that did not die leaves what it has, and it is not armed any more.
func TestCrashAlive(t *testing.T) {
	for _, n := range []int{math.MinInt, -1, 0, 1, 68, 1000, math.MaxInt} {
		for _, arm := range []int{-1, 0, 1, 2, 3, 4, 100} {
			v := mustNew(t, 8, 0)
			v.Crash(n)
			mustHave(t, "crashed when new", v, nil, nil, 0)
			mustLoad(t, "crashed when new", v, api.Seal{})
			mustKeep(t, "kept", v, made(1, 1, 0), api.OK)
			mustKeep(t, "kept", v, made(2, 1, 0), api.OK)
			v.Arm(arm)
			v.Crash(n)
			mustHave(t, "crashed", v, written(8, 2, made(2, 1, 0)), written(8, 1, made(1, 1, 0)), 2)
			mustLoad(t, "crashed", v, made(2, 1, 0))
			mustBeFresh(t, "crashed", v)
		}
	}
}

// Va2, Va3: where a blob's writing was not done, as many first bytes of it stand over the slot's own as the crash says; what was kept last is loaded.
func TestCrashInWriting(t *testing.T) {
	for _, s := range right() {
		b := written(9, 3, s)
		for _, own := range [][]byte{nil, filled(1), filled(len(b) - 1), filled(len(b)), filled(len(b) + 1), filled(1000), written(9, 1, made(1<<40, 3, 1<<40)), b} {
			for n := -2; n <= len(b)+2; n++ {
				v := mustNew(t, 9, 1)
				mustKeep(t, "kept", v, made(2, 1, 0), api.OK)
				kept := v.Slot(0)
				mustSwap(t, v, 1, own)
				v.Arm(0)
				mustKeep(t, "dying", v, s, api.ErrDead)
				mustHave(t, "dead", v, kept, own, 2)
				v.Crash(n)
				mustHave(t, "torn", v, kept, over(own, b, n), 2)
				mustBeDead(t, "torn", v, false)
				mustLoad(t, "torn", v, made(2, 1, 0))
				v.Crash(1000)
				mustHave(t, "crashed once more", v, kept, over(own, b, n), 2)
				mustKeep(t, "kept anew", v, s, api.OK)
				mustHave(t, "kept anew", v, kept, b, 3)
				mustLoad(t, "kept anew", v, s)
			}
		}
	}
}

// Va2: of numbers that are very great, or far below 0, a crash leaves all of the blob, or none; they need not be near its length.
func TestCrashFar(t *testing.T) {
	for _, n := range []int{math.MinInt, math.MinInt + 1, -1 << 40, -68, 69, 1000, 1 << 32, 1 << 40, math.MaxInt - 1, math.MaxInt} {
		v := mustNew(t, 9, 0)
		v.Arm(0)
		mustKeep(t, "dying", v, made(1, 1, 0), api.ErrDead)
		v.Crash(n)
		mustHave(t, "torn", v, nil, over(nil, written(9, 1, made(1, 1, 0)), n), 0)
		mustLoad(t, "torn", v, api.Seal{})
		mustBeFresh(t, "torn", v)
	}
}

// Va2: what is torn stands over what the slot has at the crash; the other slot is left alone, also if it was swapped.
func TestCrashBehindSwap(t *testing.T) {
	b := written(9, 2, made(2, 1, 0))
	for _, own := range []int{0, 1, 30, 67, 68, 69, 1000} {
		for _, n := range []int{-1, 0, 1, 30, 67, 68, 69, 2000} {
			v := mustNew(t, 9, 0)
			mustKeep(t, "kept", v, made(1, 1, 0), api.OK)
			v.Arm(0)
			mustKeep(t, "dying", v, made(2, 1, 0), api.ErrDead)
			mustSwap(t, v, 0, filled(own))
			mustSwap(t, v, 1, filled(5))
			v.Crash(n)
			mustHave(t, "torn", v, over(filled(own), b, n), filled(5), 1)
			mustNotLoad(t, "torn", v, api.ErrHalt)
		}
	}
}

// Va2, Va3: where the counter did not go up, the blob is whole, whatever the crash says; what was kept last is loaded.
func TestCrashAheadOfUp(t *testing.T) {
	for _, n := range []int{math.MinInt, -1, 0, 1, 20, 67, 68, 1000, math.MaxInt} {
		v := mustNew(t, 10, 0)
		mustSwap(t, v, 1, filled(1000))
		v.Arm(1)
		mustKeep(t, "dying at first", v, made(1, 1, 0), api.ErrDead)
		v.Crash(n)
		mustHave(t, "crashed at first", v, nil, written(10, 1, made(1, 1, 0)), 0)
		mustLoad(t, "crashed at first", v, api.Seal{})
		mustKeep(t, "kept", v, made(1, 2, 0), api.OK)
		v.Arm(1)
		mustKeep(t, "dying", v, made(2, 1, 0), api.ErrDead)
		v.Crash(n)
		mustHave(t, "crashed", v, written(10, 2, made(2, 1, 0)), written(10, 1, made(1, 2, 0)), 1)
		mustLoad(t, "crashed", v, made(1, 2, 0))
		mustBeFresh(t, "crashed", v)
	}
}

// Va3: a blob that was to be kept when it died, and that the host brings back behind the next keeping, is of its version, too; it is loaded, of slot 0.
func TestToBeKept(t *testing.T) {
	v := mustNew(t, 10, 1)
	v.Arm(1)
	mustKeep(t, "dying", v, made(2, 1, 0), api.ErrDead)
	was := v.Slot(0)
	v.Crash(0)
	mustNotLoad(t, "nothing was kept", v, api.ErrHalt)
	mustKeep(t, "kept", v, made(1, 1, 0), api.OK)
	mustLoad(t, "kept", v, made(1, 1, 0))
	mustSwap(t, v, 1, was)
	mustLoad(t, "both are of the version: slot 0 is first", v, made(1, 1, 0))
	mustSwap(t, v, 0, was)
	mustLoad(t, "what was to be kept", v, made(2, 1, 0))
}

// Va2: there are two slots; a swap takes up to 1000 bytes of any kind, and leaves the other slot, and the counter.
func TestSwap(t *testing.T) {
	for _, n := range []int{0, 1, 2, 67, 68, 500, 999, 1000} {
		v := mustNew(t, 11, 5)
		mustSwap(t, v, 0, filled(n))
		mustHave(t, "slot 0", v, filled(n), nil, 5)
		mustSwap(t, v, 1, make([]byte, n))
		mustHave(t, "slot 1", v, filled(n), make([]byte, n), 5)
		mustSwap(t, v, 0, nil)
		mustHave(t, "emptied", v, nil, make([]byte, n), 5)
		if b := v.Slot(0); len(b) != 0 {
			t.Errorf("emptied: %x", b)
		}
		mustSwap(t, v, 1, []byte{})
		mustHave(t, "emptied", v, nil, nil, 5)
	}
}

// Va2: no slot, or too many bytes: ErrArg, and all is as it was.
func TestSwapWrong(t *testing.T) {
	v := mustNew(t, 11, 5)
	mustSwap(t, v, 0, filled(10))
	mustSwap(t, v, 1, filled(20))
	mustNot := func(k int, b []byte) {
		if e := v.Swap(k, b); e != api.ErrArg {
			t.Errorf("Swap(%d, %d bytes): error %d", k, len(b), e)
		}
		mustHave(t, "not swapped", v, filled(10), filled(20), 5)
	}
	for _, k := range noSlots() {
		mustNot(k, nil)
		mustNot(k, filled(1))
		mustNot(k, filled(1001))
		if b := v.Slot(k); b != nil {
			t.Errorf("Slot(%d): %x", k, b)
		}
	}
	for k := range 2 {
		for _, n := range []int{1001, 1002, 2000, 1 << 16, 1 << 20} {
			mustNot(k, make([]byte, n))
		}
	}
	v.Arm(0)
	mustKeep(t, "dying", v, made(1, 1, 0), api.ErrDead)
	mustNot(2, nil)
	mustNot(0, filled(1001))
}

// Va1: of the slots the first one is loaded that is a blob of the part whose version is the counter's number, in whichever slot it lies.
func TestLoad(t *testing.T) {
	one, two := written(12, 7, made(1, 1, 0)), written(12, 7, made(2, 2, 1))
	others := map[string][]byte{
		"nothing": nil, "one byte": {7}, "noughts": make([]byte, 68), "full": filled(1000), "cut": one[:len(one)-1], "longer": append(bytes.Clone(one), 0),
		"version 6": written(12, 6, made(9, 1, 0)), "version 8": written(12, 8, made(9, 1, 0)), "version 5": written(12, 5, made(9, 1, 0)), "version 9": written(12, 9, made(9, 1, 0)),
		"version 1": written(12, 1, made(9, 1, 0)), "the last version": written(12, end, made(9, 1, 0)), "version 7 and 2^32": written(12, 7+1<<32, made(9, 1, 0)),
		"no version": written(12, 0, made(9, 1, 0)), "another part's": written(11, 7, made(9, 1, 0)), "no part's": written(0, 7, made(9, 1, 0)), "no seal": written(12, 7, made(1, 1, 1)),
	}
	v := mustNew(t, 12, 7)
	swap := func(a, b []byte) {
		mustSwap(t, v, 0, a)
		mustSwap(t, v, 1, b)
	}
	for name, other := range others {
		swap(one, other)
		mustLoad(t, name+" in slot 1", v, made(1, 1, 0))
		swap(other, one)
		mustLoad(t, name+" in slot 0", v, made(1, 1, 0))
		swap(other, other)
		mustNotLoad(t, name+" in both slots", v, api.ErrHalt)
		for _, second := range others {
			swap(other, second)
			mustNotLoad(t, name+" and another one", v, api.ErrHalt)
		}
	}
	swap(one, two)
	mustLoad(t, "slot 0 first", v, made(1, 1, 0))
	swap(two, one)
	mustLoad(t, "slot 0 first", v, made(2, 2, 1))
}

// Va3: with any bit of its blob turned nothing is loaded.
func TestEachBit(t *testing.T) {
	for at := range 2 {
		v := mustNew(t, 13, at)
		mustKeep(t, "kept", v, made(300, 3, 300), api.OK)
		b := v.Slot((at + 1) % 2)
		for i := range 8 * len(b) {
			turned := bytes.Clone(b)
			turned[i/8] ^= 1 << (i % 8)
			mustSwap(t, v, (at+1)%2, turned)
			mustNotLoad(t, "a bit turned", v, api.ErrHalt)
		}
		mustSwap(t, v, (at+1)%2, b)
		mustLoad(t, "turned back", v, made(300, 3, 300))
	}
}

// Va1: at 0 the zero seal is loaded, whatever the slots have.
func TestLoadAtNought(t *testing.T) {
	v := mustNew(t, 12, 0)
	for _, b := range [][]byte{nil, filled(1000), make([]byte, 68), written(12, 0, made(1, 1, 0)), written(12, 1, made(1, 1, 0)), written(12, 0, api.Seal{})} {
		mustSwap(t, v, 0, b)
		mustSwap(t, v, 1, b)
		mustLoad(t, "at 0", v, api.Seal{})
	}
}

// Va3: of all blobs that the slots ever had none that is older is loaded, in whichever slot, of however many it is tried; the one that counts is.
func TestOlder(t *testing.T) {
	v := mustNew(t, 14, 0)
	var had [][]byte
	for k := range 12 {
		mustKeep(t, "kept", v, made(k+1, 1, k), api.OK)
		now := v.Slot((k + 1) % 2)
		for _, a := range had {
			for _, b := range had {
				mustSwap(t, v, 0, a)
				mustSwap(t, v, 1, b)
				mustNotLoad(t, "older ones", v, api.ErrHalt)
			}
			mustSwap(t, v, k%2, now)
			mustSwap(t, v, 1-k%2, a)
			mustLoad(t, "an older one beside it", v, made(k+1, 1, k))
		}
		had = append(had, now)
		mustSwap(t, v, 0, now)
		mustSwap(t, v, 1, now)
		mustLoad(t, "in both slots", v, made(k+1, 1, k))
	}
}

// R1: one that New did not give is dead, and does nothing.
func TestNotGiven(t *testing.T) {
	for name, v := range others() {
		for _, n := range []int{-1, 0, 1, 100} {
			mustBeDead(t, name, v, true)
			for _, s := range append(right(), wrong()...) {
				mustKeep(t, name, v, s, api.ErrState)
			}
			mustNotLoad(t, name, v, api.ErrState)
			for _, k := range append(noSlots(), 0, 1) {
				for _, b := range [][]byte{nil, filled(1), filled(1001)} {
					if e := v.Swap(k, b); e != api.ErrState {
						t.Errorf("%s: Swap(%d, %d bytes): error %d", name, k, len(b), e)
					}
				}
				if b := v.Slot(k); b != nil {
					t.Errorf("%s: Slot(%d): %x", name, k, b)
				}
			}
			v.Arm(n)
			mustBeDead(t, name, v, true)
			v.Crash(n)
			mustHave(t, name, v, nil, nil, 0)
		}
		mustBeDead(t, name, v, true)
		if v != nil && (v.left != 0 || v.dead || v.part != 0 || v.torn != nil || v.counter != nil) {
			t.Errorf("%s: turned", name)
		}
	}
}

// R3: what is handed in is not written to, nor kept; what is answered is new memory.
func TestNewMemory(t *testing.T) {
	v := mustNew(t, 15, 0)
	given := filled(100)[:40]
	mustSwap(t, v, 0, given)
	clear(given)
	mustHave(t, "what was given is cleared", v, filled(40), nil, 0)
	clear(v.Slot(0))
	mustHave(t, "what was told is cleared", v, filled(40), nil, 0)
	_ = append(v.Slot(0), 1)
	mustHave(t, "what was told is longer", v, filled(40), nil, 0)

	back := filled(1000)
	mustSwap(t, v, 1, back[:200])
	mustKeep(t, "kept", v, made(1, 1, 0), api.OK)
	v.Arm(0)
	mustKeep(t, "dying", v, made(2, 1, 0), api.ErrDead)
	mustSwap(t, v, 0, back[:300])
	v.Crash(50)
	if !bytes.Equal(back, filled(1000)) {
		t.Error("what was given is written to")
	}
	torn := over(filled(300), written(15, 2, made(2, 1, 0)), 50)
	mustHave(t, "torn", v, torn, written(15, 1, made(1, 1, 0)), 1)
	clear(v.Slot(0))
	clear(v.Slot(1))
	clear(back)
	mustHave(t, "all else is cleared", v, torn, written(15, 1, made(1, 1, 0)), 1)
	one := v.Slot(1)
	mustKeep(t, "kept", v, made(3, 1, 0), api.OK)
	mustKeep(t, "kept", v, made(4, 1, 0), api.OK)
	if !bytes.Equal(one, written(15, 1, made(1, 1, 0))) {
		t.Error("what was told is written to")
	}
}

// R4: vaults that New gives hang neither on each other nor on the calls ahead.
func TestNothingIsShared(t *testing.T) {
	a, b := mustNew(t, 1, 0), mustNew(t, 1, 0)
	mustKeep(t, "one", a, made(1, 1, 0), api.OK)
	mustHave(t, "another one", b, nil, nil, 0)
	a.Arm(0)
	mustKeep(t, "one", a, made(2, 1, 0), api.ErrDead)
	mustBeDead(t, "another one", b, false)
	mustSwap(t, b, 0, filled(2))
	mustHave(t, "one", a, nil, written(1, 1, made(1, 1, 0)), 1)
	a.Crash(3)
	mustHave(t, "another one", b, filled(2), nil, 0)
	mustHave(t, "a later one", mustNew(t, 1, 0), nil, nil, 0)
}

// told is the chapter's words, one by one: blobs are told apart by what they are of, not by their tags.
type told struct {
	part, at   int
	slots      [2][]byte
	armed      int
	dead, torn bool
	wanted     []byte
	blobs      map[string]api.Seal // of which seal, by the blob
	versions   map[string]int
}

// blobOf is a blob that the vault's part makes, and that can be loaded from now on.
func (m *told) blobOf(version int, s api.Seal) []byte {
	b := written(m.part, version, s)
	m.blobs[string(b)], m.versions[string(b)] = s, version
	return b
}

// dies tells whether the next step is not done.
func (m *told) dies() bool {
	m.dead = m.armed == 0
	m.armed = max(m.armed-1, -1)
	return m.dead
}

// keep is Keep.
func (m *told) keep(s api.Seal) api.Errno {
	if m.dead {
		return api.ErrDead
	}
	if blob.Check(s) != api.OK {
		return api.ErrArg
	}
	if m.at == end {
		return api.ErrSpent
	}
	m.wanted = m.blobOf(m.at+1, s)
	if m.dies() {
		m.torn = true
		return api.ErrDead
	}
	m.slots[(m.at+1)%2] = m.wanted
	if m.dies() {
		return api.ErrDead
	}
	m.at++
	return api.OK
}

// load is Load.
func (m *told) load() (api.Seal, api.Errno) {
	if m.dead {
		return api.Seal{}, api.ErrDead
	}
	if m.at == 0 {
		return api.Seal{}, api.OK
	}
	for _, b := range m.slots {
		if s, there := m.blobs[string(b)]; there && m.versions[string(b)] == m.at {
			return s, api.OK
		}
	}
	return api.Seal{}, api.ErrHalt
}

// crash is Crash.
func (m *told) crash(n int) {
	if m.torn {
		m.slots[(m.at+1)%2] = over(m.slots[(m.at+1)%2], m.wanted, n)
	}
	m.dead, m.torn, m.armed = false, false, -1
}

// swapped are bytes that a host may bring: what the slots ever had, other parts' blobs, those of near versions, and any.
func swapped(rnd *rand.Rand, m *told, had [][]byte) []byte {
	switch rnd.Intn(6) {
	case 0:
		return filled(rnd.Intn(1001))
	case 1:
		return written(m.part%21+1, m.at, made(3, 1, 2))
	case 2:
		return m.blobOf(min(max(1, m.at-2+rnd.Intn(5)), end), right()[rnd.Intn(len(right()))])
	}
	return had[rnd.Intn(len(had))]
}

// turn does one thing by chance with a vault, and with what is told of it.
func turn(t *testing.T, rnd *rand.Rand, v *Vault, m *told, had [][]byte) {
	t.Helper()
	switch rnd.Intn(10) {
	case 0:
		n := rnd.Intn(8) - 1
		v.Arm(n)
		if !m.dead {
			m.armed = max(n, -1)
		}
	case 1, 2:
		n := rnd.Intn(100) - 5
		v.Crash(n)
		m.crash(n)
	case 3:
		k, b := rnd.Intn(4)-1, swapped(rnd, m, had)
		want := api.ErrArg
		if k == 0 || k == 1 {
			want = api.OK
			m.slots[k] = slices.Clone(b)
		}
		if e := v.Swap(k, b); e != want {
			t.Fatalf("Swap(%d, %x): error %d, want error %d", k, b, e, want)
		}
	case 4:
		s := wrong()[rnd.Intn(len(wrong()))]
		if e, want := v.Keep(s), m.keep(s); e != want {
			t.Fatalf("Keep(%v): error %d, want error %d", s, e, want)
		}
	default:
		s := right()[rnd.Intn(len(right()))]
		if e, want := v.Keep(s), m.keep(s); e != want {
			t.Fatalf("Keep(%v): error %d, want error %d", s, e, want)
		}
	}
}

// Va1, Va2, Va3: whatever is called in whatever order, it is as the chapter's words say.
func TestByChance(t *testing.T) {
	rnd := rand.New(rand.NewSource(1))
	for round := range 300 {
		i, at := 1+rnd.Intn(21), []int{0, 1, 126, end - 20, end}[round%5]
		v := mustNew(t, i, at)
		m := &told{part: i, at: at, armed: -1, blobs: map[string]api.Seal{}, versions: map[string]int{}}
		had := [][]byte{nil}
		for range 200 {
			turn(t, rnd, v, m, had)
			if !bytes.Equal(v.Slot(0), m.slots[0]) || !bytes.Equal(v.Slot(1), m.slots[1]) || v.At() != m.at || v.Dead() != m.dead {
				t.Fatalf("slots %x and %x, at %d, dead %v, want %x and %x, at %d, dead %v", v.Slot(0), v.Slot(1), v.At(), v.Dead(), m.slots[0], m.slots[1], m.at, m.dead)
			}
			s, e := v.Load()
			if want, f := m.load(); s != want || e != f {
				t.Fatalf("Load: %v, error %d, want %v, error %d", s, e, want, f)
			}
			had = append(had, v.Slot(0), v.Slot(1))
		}
	}
}

// Va3: where no slot is swapped, what is loaded behind any crash is what was kept last, and the counter never goes down.
func TestWhatFollows(t *testing.T) {
	rnd := rand.New(rand.NewSource(2))
	for range 200 {
		v, last, at := mustNew(t, 16, 0), api.Seal{}, 0
		for range 100 {
			v.Arm(rnd.Intn(12) - 1)
			for s := right()[rnd.Intn(len(right()))]; rnd.Intn(8) > 0; s = right()[rnd.Intn(len(right()))] {
				if v.Keep(s) == api.OK {
					last, at = s, at+1
				}
			}
			v.Crash(rnd.Intn(100) - 5)
			mustLoad(t, "behind a crash", v, last)
			if v.At() != at {
				t.Fatalf("at %d, want %d", v.At(), at)
			}
		}
	}
}
