package mac

import (
	"bytes"
	"crypto/hmac"
	"crypto/sha256"
	"math/rand"
	"strings"
	"testing"

	"tithing/api"
	"tithing/sha"
)

// example is a key, a text, and its sum.
type example struct {
	key, text []byte
	want      string
}

// again is a byte, so many times.
func again(b byte, n int) []byte { return bytes.Repeat([]byte{b}, n) }

// examples are the chapter's, and those of RFC 4231.
func examples() []example {
	var rising []byte
	for i := range 25 {
		rising = append(rising, byte(i+1))
	}
	return []example{
		{[]byte("Jefe"), []byte("what do ya want for nothing?"), "5bdcc146bf60754e6a042426089575c75a003f089d2739839dec58b964ec3843"},
		{again(0x0b, 20), []byte("Hi There"), "b0344c61d8db38535ca8afceaf0bf12b881dc200c9833da726e9376c2e32cff7"},
		{again(0xaa, 20), again(0xdd, 50), "773ea91e36800e46854db8ebd09181a72959098b3ef8c122d9635514ced565fe"},
		{rising, again(0xcd, 50), "82558a389a443c0ea4cc819899f2083a85f0faa3e578f8077a2e3ff46729665b"},
		{again(0xaa, 131), []byte("Test Using Larger Than Block-Size Key - Hash Key First"), "60e431591ee0b67f0d8a26aacbf5b77f8e0bc6213728c5140546040f0ee37f54"},
		{again(0xaa, 131), []byte("This is a test using a larger than block-size key and a larger than block-size data. The key needs to be hashed before being used by the HMAC algorithm."), "9b09ffa71b942fcb27635fbcd5b0e944bfdc63644f0713938a7f51535c3a35e2"},
		{nil, nil, "b613679a0814d9ec772f95d778c35fc5ff1697c493715653c6c712144292c5ad"},
	}
}

// text is so many bytes, none like its neighbours, and none a nought at its end.
func text(n int) []byte {
	b := make([]byte, n)
	for i := range b {
		b[i] = byte(7*i+i>>8) | 1
	}
	return b
}

// library is the sum with a key by the library.
func library(key, text []byte) api.Hash {
	m := hmac.New(sha256.New, key)
	m.Write(text)
	return api.Hash(m.Sum(nil))
}

// keyLengths are those around a hash's length, a block's, and longer ones.
func keyLengths() []int {
	return []int{0, 1, 4, 31, 32, 33, 55, 56, 62, 63, 64, 65, 66, 127, 128, 129, 1000}
}

// Ma1: the sums that are told.
func TestOf(t *testing.T) {
	for _, e := range examples() {
		if got := sha.Hex(Of(e.key, e.text)); got != e.want {
			t.Errorf("Of(%x, %q): %s, want %s", e.key, e.text, got, e.want)
		}
	}
}

// Ma1: sums with keys of all lengths, also of a block's, one less and one more; and of texts of many.
func TestOfLengths(t *testing.T) {
	for n := range 200 {
		for _, m := range []int{0, 1, 28, 55, 56, 63, 64, 65, 119, 120, 128, 1000} {
			key, b := text(n), text(m)
			if got, want := Of(key, b), library(key, b); got != want {
				t.Errorf("key of %d bytes, text of %d: %s, want %s", n, m, sha.Hex(got), sha.Hex(want))
			}
		}
	}
	for _, n := range []int{1000, 4096, 65536, 100000} {
		key, b := text(n), text(n+1)
		if got, want := Of(key, b), library(key, b); got != want {
			t.Errorf("key of %d bytes: %s, want %s", n, sha.Hex(got), sha.Hex(want))
		}
	}
}

// Ma1: no part, no list of parts, and empty ones are all the empty text; no key is the empty one.
func TestOfNothing(t *testing.T) {
	for _, key := range [][]byte{nil, {}, []byte("Jefe"), text(64), text(65)} {
		want := library(key, nil)
		for name, parts := range map[string][][]byte{
			"no list": nil, "no part": {}, "nil": {nil}, "empty": {{}}, "several": {nil, {}, nil},
		} {
			if got := Of(key, parts...); got != want {
				t.Errorf("key of %d bytes, %s: %s, want %s", len(key), name, sha.Hex(got), sha.Hex(want))
			}
		}
		if got := Of(key); got != want {
			t.Errorf("key of %d bytes, no argument: %s, want %s", len(key), sha.Hex(got), sha.Hex(want))
		}
	}
	if Of(nil, []byte("abc")) != Of([]byte{}, []byte("abc")) {
		t.Error("no key is not the empty one")
	}
}

// Ma1: the sum is made of sums of blocks and texts, as the chapter tells.
func TestOfIsSums(t *testing.T) {
	for _, n := range keyLengths() {
		key, b := text(n), text(77)
		in, out := Block(key), Block(key)
		for i := range in {
			in[i] ^= 0x36
			out[i] ^= 0x5c
		}
		h := sha.Of(in[:], b)
		if got, want := Of(key, b), sha.Of(out[:], h[:]); got != want {
			t.Errorf("key of %d bytes: %s, want %s", n, sha.Hex(got), sha.Hex(want))
		}
	}
}

// Ma1: a key of a block's length at most is its block, with noughts behind.
func TestBlockOfShort(t *testing.T) {
	for n := range 65 {
		var want [64]byte
		copy(want[:], text(n))
		if got := Block(text(n)); got != want {
			t.Errorf("key of %d bytes: %x, want %x", n, got, want)
		}
	}
	if Block(nil) != ([64]byte{}) || Block([]byte{}) != ([64]byte{}) {
		t.Error("the block of no key is not all noughts")
	}
	if got := Block(again(255, 64)); got != [64]byte(again(255, 64)) {
		t.Errorf("a key that is a block: %x", got)
	}
}

// Ma1: of a longer key it is the sum, with noughts behind.
func TestBlockOfLong(t *testing.T) {
	for _, n := range []int{65, 66, 96, 127, 128, 129, 1000, 65536, 100000} {
		var want [64]byte
		h := sha256.Sum256(text(n))
		copy(want[:], h[:])
		if got := Block(text(n)); got != want {
			t.Errorf("key of %d bytes: %x, want %x", n, got, want)
		}
	}
	if got := Block(make([]byte, 65)); got == ([64]byte{}) {
		t.Error("noughts that are too long for a block are not summed")
	}
}

// Ma1: hashes are alike when all bytes are: each bit counts.
func TestSame(t *testing.T) {
	zero, ones := api.Hash{}, api.Hash(again(255, 32))
	h := Of([]byte("Jefe"), []byte("abc"))
	for _, a := range []api.Hash{zero, ones, h} {
		if b := a; !Same(a, b) {
			t.Errorf("Same(%x, %x): false", a, b)
		}
		for i := range 256 {
			b := a
			b[i/8] ^= 1 << (i % 8)
			if Same(a, b) || Same(b, a) {
				t.Errorf("Same(%x, %x): true", a, b)
			}
		}
	}
	if Same(zero, ones) || Same(ones, zero) || Same(zero, h) || Same(h, ones) {
		t.Error("hashes that have no byte in common are the same")
	}
}

// Ma1: what differs at one place is not made good at another one, whether differences are summed or exclusive-ored.
func TestSameAtTwoPlaces(t *testing.T) {
	h := Of([]byte("Jefe"), []byte("abc"))
	for i := range h {
		for j := range h {
			if i == j {
				continue
			}
			both, against := h, h
			both[i] ^= 128
			both[j] ^= 128
			against[i]++
			against[j]--
			if Same(h, both) || Same(h, against) {
				t.Errorf("bytes %d and %d both differ, and it is the same", i, j)
			}
		}
	}
	turned := h
	turned[0], turned[31] = h[31], h[0]
	if Same(h, turned) {
		t.Error("the same bytes in another order are the same")
	}
}

// mustBeOne holds that two keys have one block, and the same sums.
func mustBeOne(t *testing.T, a, b []byte) {
	t.Helper()
	if Block(a) != Block(b) {
		t.Errorf("keys %x and %x have unlike blocks", a, b)
	}
	for _, n := range []int{0, 1, 64, 200} {
		if Of(a, text(n)) != Of(b, text(n)) {
			t.Errorf("keys %x and %x have unlike sums", a, b)
		}
	}
}

// Ma2: keys of one block have the same sums: with noughts behind, and a long one and its sum.
func TestKeysOfOneBlock(t *testing.T) {
	for _, n := range keyLengths() {
		key := text(n)
		block := Block(key)
		mustBeOne(t, key, block[:])
		if n > 64 {
			h := sha.Of(key)
			mustBeOne(t, key, h[:])
			mustBeOne(t, key, append(h[:], 0, 0))
			continue
		}
		for more := range 64 - n + 1 {
			mustBeOne(t, key, append(text(n), make([]byte, more)...))
		}
	}
}

// Ma2: keys of unlike blocks are unlike keys.
func TestKeysOfUnlikeBlocks(t *testing.T) {
	for _, n := range keyLengths() {
		key := text(n)
		want := Of(key, []byte("abc"))
		for i := range key {
			other := text(n)
			other[i] ^= 1
			if Of(other, []byte("abc")) == want {
				t.Errorf("byte %d of a key of %d bytes does not matter", i, n)
			}
		}
		if n >= 64 { // a nought behind makes another sum
			if Of(append(text(n), 0), []byte("abc")) == want {
				t.Errorf("a nought behind a key of %d bytes does not matter", n)
			}
		}
	}
	if Of([]byte{0, 1}, nil) == Of([]byte{1, 0}, nil) {
		t.Error("a nought ahead is as one behind")
	}
}

// Ma2: how a text is parted does not matter.
func TestPartsDoNotMatter(t *testing.T) {
	for _, key := range [][]byte{nil, []byte("Jefe"), text(64), text(65)} {
		for _, n := range []int{1, 2, 55, 63, 64, 65, 130} {
			b := text(n)
			want := library(key, b)
			for i := range n + 1 {
				if got := Of(key, nil, b[:i], []byte{}, b[i:], nil); got != want {
					t.Errorf("%d bytes, parted at %d: %s, want %s", n, i, sha.Hex(got), sha.Hex(want))
				}
			}
		}
	}
	rnd := rand.New(rand.NewSource(1))
	for range 500 {
		key, b := make([]byte, rnd.Intn(150)), make([]byte, rnd.Intn(500))
		rnd.Read(key)
		rnd.Read(b)
		var parts [][]byte
		for rest := b; len(rest) > 0; {
			n := rnd.Intn(min(len(rest), 150) + 1)
			parts = append(parts, rest[:n])
			rest = rest[n:]
		}
		if got := Of(key, parts...); got != library(key, b) {
			t.Fatalf("%d bytes in %d parts: %s", len(b), len(parts), sha.Hex(got))
		}
	}
}

// Ma2: the order of parts does matter, and where the key ends does.
func TestTextMatters(t *testing.T) {
	key, a, b := []byte("Jefe"), []byte("a"), []byte("bc")
	if Of(key, a, b) == Of(key, b, a) {
		t.Error("parts the other way round have the same sum")
	}
	if Of(key, a) == Of(append([]byte("Jefe"), a...)) || Of(key, a) == Of(a, key) {
		t.Error("the key is as a part")
	}
	if Of(key, []byte{0}) == Of(key) {
		t.Error("a nought behind the text does not matter")
	}
	long := text(70)
	want := Of(key, long)
	for i := range 8 * len(long) {
		c := text(70)
		c[i/8] ^= 1 << (i % 8)
		if Of(key, c) == want {
			t.Errorf("bit %d does not matter", i)
		}
	}
}

// R3: nothing is written to what is handed in, nor to the room behind it.
func TestNothingIsWritten(t *testing.T) {
	for _, n := range keyLengths() {
		room := []byte(strings.Repeat("room", 500))
		key, part := room[:n], room[n:n+30]
		parts := make([][]byte, 1, 4)
		parts[0] = part
		want := Of(append([]byte(nil), key...), append([]byte(nil), part...))
		if got := Of(key, parts...); got != want {
			t.Errorf("key of %d bytes beside the text: %s, want %s", n, sha.Hex(got), sha.Hex(want))
		}
		block := Block(key)
		block[0]++
		if string(room) != strings.Repeat("room", 500) {
			t.Errorf("key of %d bytes: what was handed in is changed", n)
		}
		for i, p := range parts[1:cap(parts)] {
			if p != nil {
				t.Errorf("key of %d bytes: the list has a part %d", n, i+1)
			}
		}
		if &parts[0][0] != &part[0] || len(parts[0]) != 30 {
			t.Errorf("key of %d bytes: the list is changed", n)
		}
	}
}

// R4: a sum hangs on its own key and text alone.
func TestNothingIsKept(t *testing.T) {
	key, b := text(70), text(100)
	want := library(key, b)
	for _, e := range examples() {
		Of(e.key, e.text)
		Block(e.key)
		if Of(key, b) != want {
			t.Fatal("a sum hangs on the calls ahead")
		}
	}
}
