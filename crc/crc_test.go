package crc

import (
	"bytes"
	"encoding/binary"
	"hash/crc32"
	"math"
	"math/big"
	"math/bits"
	"math/rand"
	"testing"

	"tithing/api"
)

// libraryTable is the library's for the check. It goes from the lowest bits on: so all bits are turned round.
var libraryTable = crc32.MakeTable(bits.Reverse32(0x814141ab))

// library is the check by the library, from 0 on and without the turns of all bits that it makes ahead and behind.
func library(b []byte) uint32 {
	round := make([]byte, len(b))
	for i, x := range b {
		round[i] = bits.Reverse8(x)
	}
	return bits.Reverse32(^crc32.Update(math.MaxUint32, libraryTable, round))
}

// rest is the check by division: what is left of the bits, as a polynomial with 32 noughts behind, by that of the chapter.
func rest(b []byte) uint32 {
	n := new(big.Int).Lsh(new(big.Int).SetBytes(b), 32)
	by := big.NewInt(1<<32 | 0x814141ab)
	for n.BitLen() > 32 {
		n.Xor(n, new(big.Int).Lsh(by, uint(n.BitLen()-33)))
	}
	return uint32(n.Uint64())
}

// written is a record of bytes by the library: also one that there can't be.
func written(b []byte) []byte {
	out := binary.BigEndian.AppendUint32(nil, uint32(len(b)))
	return append(binary.BigEndian.AppendUint32(out, library(append(out[:4:4], b...))), b...)
}

// text is so many bytes, none like its neighbours.
func text(n int) []byte {
	b := make([]byte, n)
	for i := range b {
		b[i] = byte(7*i + i>>8 + 1)
	}
	return b
}

// chance is so many bytes by chance.
func chance(rnd *rand.Rand, n int) []byte {
	b := make([]byte, n)
	rnd.Read(b)
	return b
}

// lengths are how many bytes records of the tests are of.
func lengths() []int {
	return []int{1, 2, 3, 4, 5, 7, 8, 9, 31, 32, 33, 127, 128, 255, 256, 257, 1000, 65534, 65535, 65536}
}

// mustRecord is a record, which there must be.
func mustRecord(t *testing.T, b []byte) []byte {
	t.Helper()
	r, e := Record(b)
	if e != api.OK {
		t.Fatalf("Record of %d bytes: error %d", len(b), e)
	}
	return r
}

// mustTell holds that Next tells an error, and nothing beside it.
func mustTell(t *testing.T, what string, b []byte, want api.Errno) {
	t.Helper()
	if own, n, e := Next(b); e != want || own != nil || n != 0 {
		t.Errorf("%s: %d bytes, %d, error %d, want error %d", what, len(own), n, e, want)
	}
}

// Cr1: checks that were worked out elsewhere.
func TestOfTold(t *testing.T) {
	all := make([]byte, 256)
	for i := range all {
		all[i] = byte(i)
	}
	for _, e := range []struct {
		text []byte
		want uint32
	}{
		{nil, 0},
		{[]byte{}, 0},
		{[]byte{0}, 0},
		{[]byte{0, 0, 0, 0}, 0},
		{[]byte{1}, 0x814141ab},
		{[]byte{128}, 0x40005999},
		{[]byte{255}, 0x80006eee},
		{[]byte("a"), 0xd1112b6b},
		{[]byte("abc"), 0x9590b5b0},
		{[]byte("123456789"), 0x3010bf7f},
		{[]byte{255, 255, 255, 255}, 0x90a54352},
		{all, 0xab16ea85},
	} {
		if got := Of(e.text); got != e.want {
			t.Errorf("Of(%x): %08X, want %08X", e.text, got, e.want)
		}
	}
}

// Cr1: the check of each byte, of many pairs, and of longer texts, by division.
func TestOfIsDivision(t *testing.T) {
	for i := range 256 {
		if got, want := Of([]byte{byte(i)}), rest([]byte{byte(i)}); got != want {
			t.Errorf("Of(%d): %08X, want %08X", i, got, want)
		}
	}
	for i := 0; i < 65536; i += 7 {
		b := []byte{byte(i >> 8), byte(i)}
		if got, want := Of(b), rest(b); got != want {
			t.Errorf("Of(%v): %08X, want %08X", b, got, want)
		}
	}
	for n := range 200 {
		if got, want := Of(text(n)), rest(text(n)); got != want {
			t.Errorf("%d bytes: %08X, want %08X", n, got, want)
		}
	}
}

// Cr1: checks of short texts and long ones, by the library.
func TestOfLibrary(t *testing.T) {
	rnd := rand.New(rand.NewSource(1))
	for _, n := range append(lengths(), 0, 65537, 200000) {
		for _, b := range [][]byte{text(n), chance(rnd, n), make([]byte, n), bytes.Repeat([]byte{255}, n)} {
			if got, want := Of(b), library(b); got != want {
				t.Errorf("%d bytes: %08X, want %08X", n, got, want)
			}
		}
	}
}

// Cr1: no argument, no list, and empty parts are all the empty text.
func TestOfNothing(t *testing.T) {
	for name, parts := range map[string][][]byte{
		"no list": nil, "no part": {}, "nil": {nil}, "empty": {{}}, "several": {nil, {}, nil},
	} {
		if got := Of(parts...); got != 0 {
			t.Errorf("%s: %08X", name, got)
		}
	}
	if got := Of(); got != 0 {
		t.Errorf("no argument: %08X", got)
	}
}

// Cr1: records that were worked out elsewhere.
func TestRecordTold(t *testing.T) {
	for _, e := range []struct{ own, want []byte }{
		{[]byte{7}, []byte{0, 0, 0, 1, 0x04, 0x44, 0xf4, 0x35, 7}},
		{[]byte("abc"), []byte{0, 0, 0, 3, 0x61, 0xcd, 0x8a, 0x9b, 'a', 'b', 'c'}},
		{append(make([]byte, 65535), 1), append([]byte{0, 1, 0, 0, 0xdf, 0xa9, 0x55, 0x25}, append(make([]byte, 65535), 1)...)},
	} {
		got, err := Record(e.own)
		if err != api.OK || !bytes.Equal(got, e.want) {
			t.Errorf("Record of %d bytes: %x, error %d", len(e.own), got[:min(len(got), 20)], err)
		}
		own, n, err := Next(e.want)
		if err != api.OK || n != len(e.want) || !bytes.Equal(own, e.own) {
			t.Errorf("Next of a record of %d bytes: %d bytes, %d, error %d", len(e.own), len(own), n, err)
		}
	}
}

// Cr1: a record is how many bytes there are, the check of these four and the bytes, and the bytes; it is read.
func TestRecord(t *testing.T) {
	rnd := rand.New(rand.NewSource(2))
	for _, n := range lengths() {
		for _, b := range [][]byte{text(n), chance(rnd, n), make([]byte, n), bytes.Repeat([]byte{255}, n)} {
			r := mustRecord(t, b)
			if !bytes.Equal(r, written(b)) {
				t.Errorf("%d bytes: another record", n)
			}
			own, size, e := Next(r)
			if e != api.OK || size != 8+n || !bytes.Equal(own, b) {
				t.Errorf("%d bytes: Next: %d bytes, %d, error %d", n, len(own), size, e)
			}
		}
	}
	for n := 1; n <= 600; n++ {
		if r := mustRecord(t, text(n)); !bytes.Equal(r, written(text(n))) {
			t.Errorf("%d bytes: another record", n)
		}
	}
}

// Cr1: there is no record of no bytes, nor of more than 65536.
func TestNoRecord(t *testing.T) {
	for _, b := range [][]byte{nil, {}, make([]byte, 65537), make([]byte, 65538), make([]byte, 1<<17), text(1 << 20)} {
		if r, e := Record(b); e != api.ErrArg || r != nil {
			t.Errorf("Record of %d bytes: %d bytes, error %d", len(b), len(r), e)
		}
	}
}

// Cr1: what stands behind a record does not matter, whatever it is; one behind the other is read.
func TestNextOfMore(t *testing.T) {
	var all []byte
	for _, n := range lengths() {
		r := mustRecord(t, text(n))
		all = append(all, r...)
		for _, more := range [][]byte{{0}, {255}, make([]byte, 100), text(9), r, r[:len(r)-1]} {
			own, size, e := Next(append(r[:len(r):len(r)], more...))
			if e != api.OK || size != 8+n || !bytes.Equal(own, text(n)) {
				t.Errorf("%d bytes, %d behind: %d bytes, %d, error %d", n, len(more), len(own), size, e)
			}
		}
	}
	for _, n := range lengths() {
		own, size, e := Next(all)
		if e != api.OK || size != 8+n || !bytes.Equal(own, text(n)) {
			t.Fatalf("one behind the other, %d bytes: %d bytes, %d, error %d", n, len(own), size, e)
		}
		all = all[size:]
	}
	mustTell(t, "behind all", all, api.ErrNone)
}

// Cr1: fewer than 8 bytes are no record yet, whatever they are: also where what they say may not be.
func TestNextOfFew(t *testing.T) {
	mustTell(t, "nil", nil, api.ErrNone)
	for n := range 8 {
		mustTell(t, "noughts", make([]byte, n), api.ErrNone)
		mustTell(t, "255s", bytes.Repeat([]byte{255}, n), api.ErrNone)
		mustTell(t, "ones", bytes.Repeat([]byte{1}, n), api.ErrNone)
		mustTell(t, "a record's first bytes", mustRecord(t, []byte{7})[:n], api.ErrNone)
	}
}

// Cr1: a record that is cut is no record yet, wherever it is cut.
func TestNextOfCut(t *testing.T) {
	for _, n := range lengths() {
		r := mustRecord(t, text(n))
		for cut := 0; cut < len(r); cut += 1 + len(r)/300 {
			mustTell(t, "cut", r[:cut], api.ErrNone)
			mustTell(t, "cut, with room behind", r[:cut:cut], api.ErrNone)
		}
		mustTell(t, "cut by a byte", r[:len(r)-1], api.ErrNone)
	}
}

// Cr1: of one that ends within it, it does not count whether its check could be right.
func TestNextOfCutAndWrong(t *testing.T) {
	for _, n := range lengths() {
		for at := range 4 {
			r := mustRecord(t, text(n))
			r[4+at] ^= 1
			mustTell(t, "cut, with another check", r[:len(r)-1], api.ErrNone)
			mustTell(t, "whole, with another check", r, api.ErrText)
		}
	}
}

// Cr1: 8 bytes or more that say what may not be are none, though there are fewer than they say, and though the check is right.
func TestNextOfWrongLength(t *testing.T) {
	for _, n := range []uint32{0, 65537, 65538, 1 << 17, 1<<24 - 1, 1 << 24, 1 << 31, 1<<31 - 1, 1<<31 + 1, math.MaxUint32 - 8, math.MaxUint32 - 7, math.MaxUint32} {
		b := binary.BigEndian.AppendUint32(nil, n)
		for _, more := range []int{4, 5, 100, 70000} {
			mustTell(t, "what may not be", append(b[:4:4], make([]byte, more)...), api.ErrText)
		}
		b = binary.BigEndian.AppendUint32(b, library(b))
		mustTell(t, "what may not be, with its check", b, api.ErrText)
	}
	mustTell(t, "a record of no bytes", written(nil), api.ErrText)
	mustTell(t, "a record of no bytes, and more", append(written(nil), written([]byte{7})...), api.ErrText)
	mustTell(t, "a record of too many", written(text(65537)), api.ErrText)
	for _, n := range []uint32{1, 65535, 65536} { // the edges of what may be
		b := binary.BigEndian.AppendUint32(nil, n)
		mustTell(t, "what may be, and fewer", append(b, 0, 0, 0, 0), api.ErrNone)
	}
}

// Cr1: each bit of the check counts, and so does each bit of the length, where as many bytes are there.
func TestNextOfWrongCheck(t *testing.T) {
	for _, n := range []int{1, 3, 200, 65536} {
		for i := range 32 {
			r := mustRecord(t, text(n))
			r[4+i/8] ^= 1 << (i % 8)
			mustTell(t, "another check", r, api.ErrText)
		}
	}
	for i := range 17 {
		r := append(mustRecord(t, text(200)), make([]byte, 1<<18)...)
		r[3-i/8] ^= 1 << (i % 8)
		mustTell(t, "another length", r, api.ErrText)
	}
	b := text(100)
	other := binary.BigEndian.AppendUint32([]byte{0, 0, 0, 100}, library(b)) // of the bytes alone
	mustTell(t, "the check of the bytes alone", append(other, b...), api.ErrText)
	low := binary.LittleEndian.AppendUint32([]byte{0, 0, 0, 100}, library(append([]byte{0, 0, 0, 100}, b...)))
	mustTell(t, "the check, the lowest byte first", append(low, b...), api.ErrText)
}

// Cr2: how bytes are parted does not matter.
func TestPartsDoNotMatter(t *testing.T) {
	for _, n := range []int{1, 2, 9, 64, 130} {
		b := text(n)
		want := library(b)
		for i := range n + 1 {
			if got := Of(nil, b[:i], []byte{}, b[i:], nil); got != want {
				t.Errorf("%d bytes, parted at %d: %08X, want %08X", n, i, got, want)
			}
		}
	}
	rnd := rand.New(rand.NewSource(3))
	for range 500 {
		b := chance(rnd, rnd.Intn(500))
		var parts [][]byte
		for left := b; len(left) > 0; {
			n := rnd.Intn(min(len(left), 50) + 1)
			parts = append(parts, left[:n])
			left = left[n:]
		}
		if got, want := Of(parts...), library(b); got != want {
			t.Fatalf("%d bytes in %d parts: %08X, want %08X", len(b), len(parts), got, want)
		}
	}
	if Of([]byte("a"), []byte("b")) == Of([]byte("b"), []byte("a")) {
		t.Error("parts the other way round have the same check")
	}
}

// Cr2: the check of two texts that are exclusive-ored is the exclusive or of theirs.
func TestExclusiveOr(t *testing.T) {
	rnd := rand.New(rand.NewSource(4))
	for _, n := range append(lengths(), 0) {
		for range 5 {
			a, b, both := chance(rnd, n), chance(rnd, n), make([]byte, n)
			for i := range both {
				both[i] = a[i] ^ b[i]
			}
			if Of(both) != Of(a)^Of(b) {
				t.Errorf("%d bytes: %08X, want %08X", n, Of(both), Of(a)^Of(b))
			}
		}
	}
}

// turned is a record some of whose bits are turned, from that one of its own bytes on (the highest bit of a byte first): those of the pattern, its lowest bit first.
func turned(r []byte, from int, pattern uint32) []byte {
	out := bytes.Clone(r)
	for i := range 32 {
		if pattern>>i&1 == 1 {
			out[8+(from+i)/8] ^= 128 >> ((from + i) % 8)
		}
	}
	return out
}

// Cr2: a record bits of which are turned within 32 in a row is none: all patterns of few bits, and all at their places.
func TestTurnedFewBits(t *testing.T) {
	for _, n := range []int{1, 2, 5, 40} {
		r := mustRecord(t, text(n))
		for from := range 8 * n {
			for width := 1; width <= min(8, 8*n-from); width++ {
				for middle := range uint32(1) << max(width-2, 0) {
					pattern := 1 | middle<<1 | 1<<(width-1)
					mustTell(t, "turned", turned(r, from, pattern), api.ErrText)
				}
			}
		}
	}
}

// Cr2: likewise of patterns up to 32 bits, also at the ends of the longest record.
func TestTurnedManyBits(t *testing.T) {
	rnd := rand.New(rand.NewSource(5))
	for _, n := range []int{4, 5, 33, 500} {
		r := mustRecord(t, chance(rnd, n))
		for from := range 8*n - 31 {
			for _, pattern := range []uint32{math.MaxUint32, 1 | 1<<31, bits.Reverse32(0x814141ab), 1<<31 | bits.Reverse32(0x814141ab)>>1, rnd.Uint32() | 1, rnd.Uint32() | 1<<31} {
				mustTell(t, "turned", turned(r, from, pattern), api.ErrText)
			}
		}
	}
	long := mustRecord(t, text(65536))
	for _, from := range []int{0, 1, 7, 8, 31, 32, 1 << 18, 8*65536 - 33, 8*65536 - 32} {
		for range 5 {
			mustTell(t, "turned in the longest", turned(long, from, rnd.Uint32()|1), api.ErrText)
		}
	}
}

// Cr2: more than 32 in a row is not promised: the 33 bits by which the check divides are not seen.
func TestTurnedTooFar(t *testing.T) {
	r := mustRecord(t, text(5))
	r[8] ^= 1
	for i, x := range []byte{0x81, 0x41, 0x41, 0xab} {
		r[9+i] ^= x
	}
	if own, n, e := Next(r); e != api.OK || n != 13 || !bytes.Equal(own, r[8:]) {
		t.Errorf("%d bytes, %d, error %d", len(own), n, e)
	}
}

// R3: nothing is written to what is handed in, nor to the room behind it.
func TestNothingIsWritten(t *testing.T) {
	room := bytes.Repeat([]byte("room"), 100)
	b := bytes.Clone(room)
	parts := make([][]byte, 1, 4)
	parts[0] = b[:30]
	Of(parts...)
	r := mustRecord(t, b[:30])
	r[8]++
	if !bytes.Equal(b, room) || !bytes.Equal(mustRecord(t, b[:30]), written(room[:30])) {
		t.Error("Of, Record: what was handed in is changed")
	}
	if &parts[0][0] != &b[0] || len(parts[0]) != 30 || parts[:2][1] != nil {
		t.Error("Of: the list is changed")
	}
	disk := append(written(room), room...)
	was := bytes.Clone(disk)
	Next(disk[:20])
	Next(disk[4:])
	if own, _, e := Next(disk[:8+len(room)]); e != api.OK || !bytes.Equal(own, room) || !bytes.Equal(disk, was) {
		t.Error("Next: what was handed in is changed")
	}
}

// R3: what is answered is new memory, and can't grow into what was handed in.
func TestAnswersAreNew(t *testing.T) {
	for _, n := range lengths() {
		b := text(n)
		r := mustRecord(t, b)
		b[0]++
		if !bytes.Equal(r, written(text(n))) {
			t.Errorf("%d bytes: a record hangs on the bytes that were handed in", n)
		}
		disk := append(r, written([]byte{7})...)
		was := bytes.Clone(disk)
		own, _, _ := Next(disk)
		again, _, _ := Next(disk)
		own[0]++
		own = append(own, 1, 2, 3, 4, 5, 6, 7, 8, 9)
		clear(own)
		if !bytes.Equal(disk, was) {
			t.Errorf("%d bytes: what was read is the memory that was handed in", n)
		}
		clear(disk)
		if !bytes.Equal(again, text(n)) {
			t.Errorf("%d bytes: what was read twice is one memory, or hangs on what was handed in", n)
		}
	}
}

// R4: an answer hangs on its arguments alone.
func TestNothingIsKept(t *testing.T) {
	rnd := rand.New(rand.NewSource(6))
	for _, n := range lengths() {
		Of(chance(rnd, 100))
		Next(chance(rnd, 100))
		Record(chance(rnd, 100))
		if Of(text(n)) != library(text(n)) || !bytes.Equal(mustRecord(t, text(n)), written(text(n))) {
			t.Errorf("%d bytes: answers hang on the calls ahead", n)
		}
	}
}
