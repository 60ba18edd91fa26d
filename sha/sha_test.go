package sha

import (
	"bytes"
	"crypto/sha256"
	"encoding/binary"
	"math/rand"
	"strings"
	"testing"

	"tithing/api"
)

// sums are texts and their sums: the standard's examples.
func sums() map[string]string {
	return map[string]string{
		"":    "e3b0c44298fc1c149afbf4c8996fb92427ae41e4649b934ca495991b7852b855",
		"abc": "ba7816bf8f01cfea414140de5dae2223b00361a396177a9cb410ff61f20015ad",
		"abcdbcdecdefdefgefghfghighijhijkijkljklmklmnlmnomnopnopq":                                                         "248d6a61d20638b8e5c026930c3e6039a33ce45964ff2167f6ecedd419db06c1",
		"abcdefghbcdefghicdefghijdefghijkefghijklfghijklmghijklmnhijklmnoijklmnopjklmnopqklmnopqrlmnopqrsmnopqrstnopqrstu": "cf5b16a778af8380036ce59e7b0492370b249b11e8f07a51afac45037afee9d1",
		strings.Repeat("a", 1000000): "cdc76e5c9914fb9281a1c7e284d73e67f1809a48a497200e046d39ccc7112cd0",
	}
}

// text is so many bytes, none like its neighbours.
func text(n int) []byte {
	b := make([]byte, n)
	for i := range b {
		b[i] = byte(7*i + i>>8 + 1)
	}
	return b
}

// lengths are those at which a filled text has one block more, their neighbours, and some more.
func lengths() []int {
	list := []int{1000, 4095, 4096, 65536}
	for n := range 260 {
		list = append(list, n)
	}
	return list
}

// roomy is bytes with room behind them, which holds 99s.
func roomy(b []byte) []byte {
	r := append(append([]byte(nil), b...), bytes.Repeat([]byte{99}, 200)...)
	return r[:len(b)]
}

// Sh1: the sums that the standard tells.
func TestOf(t *testing.T) {
	for s, want := range sums() {
		if got := Hex(Of([]byte(s))); got != want {
			t.Errorf("Of(%d bytes): %s, want %s", len(s), got, want)
		}
	}
}

// Sh1: no part, no list of parts, and empty ones are all the empty text.
func TestOfNothing(t *testing.T) {
	want := sums()[""]
	for name, parts := range map[string][][]byte{
		"no list": nil, "no part": {}, "nil": {nil}, "empty": {{}}, "several": {nil, {}, nil},
	} {
		if got := Hex(Of(parts...)); got != want {
			t.Errorf("%s: %s, want %s", name, got, want)
		}
	}
	if got := Hex(Of()); got != want {
		t.Errorf("no argument: %s, want %s", got, want)
	}
}

// Sh1: sums at all lengths, also at those at which the filled text has one block more.
func TestOfLengths(t *testing.T) {
	for _, n := range lengths() {
		b := text(n)
		if got, want := Of(b), api.Hash(sha256.Sum256(b)); got != want {
			t.Errorf("%d bytes: %s, want %s", n, Hex(got), Hex(want))
		}
	}
}

// Sh1: a filled text is the text, a byte 128, as few noughts as do, and how many bits it has.
func TestFill(t *testing.T) {
	for n, size := range map[int]int{0: 64, 1: 64, 54: 64, 55: 64, 56: 128, 57: 128, 63: 128, 64: 128, 65: 128, 119: 128, 120: 192, 128: 192} {
		if got := len(Fill(text(n))); got != size {
			t.Errorf("%d bytes are filled to %d, want %d", n, got, size)
		}
	}
	for _, n := range lengths() {
		b := text(n)
		got := Fill(b)
		if len(got)%64 != 0 || len(got) < n+9 || len(got) > n+9+63 {
			t.Errorf("%d bytes are filled to %d", n, len(got))
			continue
		}
		end := len(got) - 8
		if !bytes.Equal(got[:n], b) || got[n] != 128 || !bytes.Equal(got[n+1:end], make([]byte, end-n-1)) {
			t.Errorf("%d bytes are not filled as they must be: %v", n, got)
		}
		if got := binary.BigEndian.Uint64(got[end:]); got != uint64(8*n) {
			t.Errorf("%d bytes: told as %d bits", n, got)
		}
	}
	want := append([]byte{'a', 'b', 'c', 128}, make([]byte, 60)...)
	want[63] = 24
	if got := Fill([]byte("abc")); !bytes.Equal(got, want) {
		t.Errorf("Fill(abc): %v", got)
	}
}

// Sh1: how many bits a text has stands in all of eight bytes. (Such texts are too long to be had.)
func TestFillingOfLong(t *testing.T) {
	for _, n := range []uint64{1 << 5, 1 << 13, 1 << 21, 1 << 29, 1<<31 - 1, 1 << 37, 1 << 60, 0x0123456789abcdef} {
		f := filling(n)
		if got := binary.BigEndian.Uint64(f[len(f)-8:]); got != 8*n || (n+uint64(len(f)))%64 != 0 {
			t.Errorf("%d bytes: %d bits, %d behind", n, got, len(f))
		}
	}
}

// Sh1: the first state.
func TestStart(t *testing.T) {
	want := [8]uint32{0x6a09e667, 0xbb67ae85, 0x3c6ef372, 0xa54ff53a, 0x510e527f, 0x9b05688c, 0x1f83d9ab, 0x5be0cd19}
	if got := Start(); got != want {
		t.Errorf("Start(): %x", got)
	}
	s := Start()
	s[0] = 0
	if Start() != want {
		t.Error("the first state is changed from without")
	}
}

// Sh1: the state behind a block, of any state; what is handed in stays.
func TestTurn(t *testing.T) {
	var ones, rising [8]uint32
	var full, counting [64]byte
	for i := range ones {
		ones[i], rising[i] = 1<<32-1, uint32(i+1)
	}
	for i := range full {
		full[i], counting[i] = 255, byte(i)
	}
	for _, c := range []struct {
		state [8]uint32
		block [64]byte
		want  [8]uint32
	}{
		{[8]uint32{}, [64]byte{}, [8]uint32{0x7ca51614, 0x425c3ba8, 0xce54dd2f, 0xc2020ae7, 0xb6e574d1, 0x98136d0f, 0xae7e26cc, 0xbf0be7a6}},
		{ones, full, [8]uint32{0x0598127a, 0xaf11706e, 0x77401fff, 0xd730c549, 0x0b84c867, 0xa98c6ca3, 0xd7f3c0f9, 0x06a78b79}},
		{rising, counting, [8]uint32{0xd983df8e, 0x621f4578, 0x1f917871, 0x0bdcc9b3, 0x3044782b, 0xa13edb77, 0xfba54b2c, 0xd168eed7}},
		{Start(), [64]byte(Fill([]byte("abc"))), [8]uint32{0xba7816bf, 0x8f01cfea, 0x414140de, 0x5dae2223, 0xb00361a3, 0x96177a9c, 0xb410ff61, 0xf20015ad}},
	} {
		state, block := c.state, c.block
		for range 2 { // a state hangs on nothing that was turned ahead
			if got := Turn(state, block); got != c.want {
				t.Errorf("Turn(%x, %x): %x, want %x", c.state, c.block, got, c.want)
			}
		}
		if state != c.state || block != c.block {
			t.Error("Turn wrote to what it was handed")
		}
	}
}

// Sh1: a sum is the last of the states that a filled text's blocks turn, one behind the other.
func TestOfIsTurns(t *testing.T) {
	for _, n := range lengths() {
		b := text(n)
		state := Start()
		for rest := Fill(b); len(rest) > 0; rest = rest[64:] {
			state = Turn(state, [64]byte(rest))
		}
		var want api.Hash
		for i, w := range state {
			binary.BigEndian.PutUint32(want[4*i:], w)
		}
		if got := Of(b); got != want || got != sha256.Sum256(b) {
			t.Errorf("%d bytes: %s, its turns make %s", n, Hex(got), Hex(want))
		}
	}
}

// Sh1, R3: nothing is written to what is handed in, nor to the room behind it, and no answer shares memory with it.
func TestNewMemory(t *testing.T) {
	for _, n := range []int{0, 3, 55, 56, 63, 64, 130} {
		b := roomy(text(n))
		room := append([]byte(nil), b[:cap(b)]...)
		Of(b, b)
		got := Fill(b)
		for i := range got {
			got[i] = 77
		}
		if !bytes.Equal(b[:cap(b)], room) {
			t.Errorf("%d bytes: what was handed in is changed", n)
		}
		if again := Fill(b); !bytes.Equal(again[:n], text(n)) || again[n] != 128 {
			t.Errorf("%d bytes: two answers share memory", n)
		}
	}
}

// Sh2: two digits a byte, the higher one first.
func TestHex(t *testing.T) {
	if got := Hex(api.Hash{}); got != strings.Repeat("0", 64) {
		t.Errorf("Hex(zero): %s", got)
	}
	h := api.Hash{0x01, 0x23, 0x45, 0x67, 0x89, 0xab, 0xcd, 0xef, 0xf0, 0x0f}
	h[31] = 0xa9
	want := "0123456789abcdeff00f" + strings.Repeat("0", 42) + "a9"
	if got := Hex(h); got != want {
		t.Errorf("Hex: %s, want %s", got, want)
	}
	if got, ok := Unhex(want); !ok || got != h {
		t.Errorf("Unhex(%s): %v, %v", want, got, ok)
	}
	if got, ok := Unhex(strings.Repeat("0", 64)); !ok || got != (api.Hash{}) {
		t.Errorf("Unhex(noughts): %v, %v", got, ok)
	}
	if got, ok := Unhex(strings.Repeat("f", 64)); !ok || got != api.Hash(bytes.Repeat([]byte{255}, 32)) {
		t.Errorf("Unhex(fs): %v, %v", got, ok)
	}
}

// mustNotRead holds that digits are no hash's.
func mustNotRead(t *testing.T, s string) {
	t.Helper()
	if h, ok := Unhex(s); ok || h != (api.Hash{}) {
		t.Errorf("Unhex(%q): %v, %v", s, h, ok)
	}
}

// Sh2: too few digits, or too many, are no hash's.
func TestUnhexLength(t *testing.T) {
	all := Hex(Of([]byte("abc")))
	for n := range 64 {
		mustNotRead(t, all[:n])
		mustNotRead(t, all[64-n:])
	}
	for _, s := range []string{all + "0", "0" + all, all + " ", all + "\n", all + "00", all + all, "0x" + all, "0x" + all[2:], strings.Repeat(all, 1000)} {
		mustNotRead(t, s)
	}
}

// Sh2: at each place stand 0 to 9 and a to f alone.
func TestUnhexDigits(t *testing.T) {
	all := Hex(Of([]byte("abc")))
	for place := range 64 {
		for c := range 256 {
			b := []byte(all)
			b[place] = byte(c)
			if !strings.ContainsRune("0123456789abcdef", rune(c)) {
				mustNotRead(t, string(b))
				continue
			}
			if h, ok := Unhex(string(b)); !ok || Hex(h) != string(b) {
				t.Errorf("Unhex(%q): %v, %v", b, h, ok)
			}
		}
	}
	for _, s := range []string{strings.ToUpper(all), strings.Repeat("é", 32), strings.Repeat("é", 64), strings.Repeat("٣", 32), strings.Repeat("\x00", 64), strings.Repeat(" ", 64), "+" + all[1:], "-" + all[1:], "_" + all[1:]} {
		mustNotRead(t, s)
	}
}

// Sh3: how a text is parted does not matter.
func TestPartsDoNotMatter(t *testing.T) {
	for _, n := range []int{1, 2, 55, 56, 63, 64, 65, 127, 128, 129, 200} {
		b := text(n)
		want := Of(b)
		for i := range n + 1 {
			if got := Of(b[:i], b[i:]); got != want {
				t.Errorf("%d bytes in parts of %d and %d: %s", n, i, n-i, Hex(got))
			}
			if got := Of(nil, b[:i], nil, []byte{}, b[i:], nil); got != want {
				t.Errorf("%d bytes, parted at %d, with empty parts: %s", n, i, Hex(got))
			}
		}
		var single [][]byte
		for i := range b {
			single = append(single, b[i:i+1])
		}
		if got := Of(single...); got != want {
			t.Errorf("%d bytes, each alone: %s", n, Hex(got))
		}
	}
	rnd := rand.New(rand.NewSource(1))
	for range 500 {
		b := make([]byte, rnd.Intn(500))
		rnd.Read(b)
		var parts [][]byte
		for rest := b; len(rest) > 0; {
			n := rnd.Intn(min(len(rest), 150) + 1)
			parts = append(parts, rest[:n])
			rest = rest[n:]
		}
		if got := Of(parts...); got != sha256.Sum256(b) {
			t.Fatalf("%d bytes in %d parts: %s", len(b), len(parts), Hex(got))
		}
	}
}

// Sh3: the order of parts does matter, and so does each bit.
func TestTextMatters(t *testing.T) {
	if Of([]byte("a"), []byte("bc")) == Of([]byte("bc"), []byte("a")) {
		t.Error("parts the other way round have the same sum")
	}
	b := text(70)
	want := Of(b)
	for i := range 8 * len(b) {
		c := append([]byte(nil), b...)
		c[i/8] ^= 1 << (i % 8)
		if Of(c) == want {
			t.Errorf("bit %d does not matter", i)
		}
	}
	if Of(append([]byte(nil), 0)) == Of(nil) {
		t.Error("a nought behind does not matter")
	}
}

// Sh3: digits that are told are read, and are told again.
func TestToldIsRead(t *testing.T) {
	rnd := rand.New(rand.NewSource(2))
	for range 2000 {
		var h api.Hash
		rnd.Read(h[:])
		got, ok := Unhex(Hex(h))
		if !ok || got != h || Hex(got) != Hex(h) {
			t.Fatalf("%v is told as %s, and read as %v, %v", h, Hex(h), got, ok)
		}
	}
}
