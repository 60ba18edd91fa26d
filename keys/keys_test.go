package keys

import (
	"bytes"
	"crypto/hmac"
	"crypto/sha256"
	"math"
	"math/bits"
	"strings"
	"testing"

	"tithing/api"
	"tithing/mac"
	"tithing/sha"
)

// nobody are numbers of which there is no part: beside the edges, those that are a part's as a byte.
func nobody() []int {
	return []int{
		math.MinInt, math.MinInt + 1, -257, -256, -255, -21, -2, -1, 0,
		22, 23, 24, 25, 255, 256, 257, 258, 277, 278, 1<<16 + 1, 1<<32 + 1, 1<<40 + 21, math.MaxInt - 1, math.MaxInt,
	}
}

// text is so many bytes, none like its neighbours.
func text(n int) []byte {
	b := make([]byte, n)
	for i := range b {
		b[i] = byte(7*i + i>>8 + 1)
	}
	return b
}

// lengths are those around a hash's length and a block's, with the domain's byte and without, and longer ones.
func lengths() []int {
	return []int{0, 1, 2, 31, 32, 33, 54, 55, 56, 62, 63, 64, 65, 127, 128, 129, 1000, 65536}
}

// libraryKey is a part's key by the library.
func libraryKey(i int) api.Hash {
	return sha256.Sum256(append([]byte("tithing key "), byte(i)))
}

// libraryTag is a tag by the library.
func libraryTag(i int, domain byte, b []byte) api.Hash {
	key := libraryKey(i)
	m := hmac.New(sha256.New, key[:])
	m.Write([]byte{domain})
	m.Write(b)
	return api.Hash(m.Sum(nil))
}

// Ky1: keys that were worked out elsewhere.
func TestKeyTold(t *testing.T) {
	for i, want := range map[int]string{
		1:  "d1b91d855f3b5c5b5f540fe02df9a55a81414a923aba0e923055e64d1edee940",
		2:  "97df8a170d94bc450c0f49570704d113e7d6f4b5742d5f3c2445ebfb55e4319e",
		10: "1fabdf4de8b57a0a5b772d35381330434265af2e9f5239cfef3b42b6ce5256c0",
		21: "0730a62298f1d6959f23bda36a763cd4409c336af4af33ba7ba601d580bd2336",
	} {
		if got := sha.Hex(Key(i)); got != want {
			t.Errorf("Key(%d): %s, want %s", i, got, want)
		}
	}
}

// Ky1: each part's key is the sum of the words, with a blank behind, and its number as a byte.
func TestKey(t *testing.T) {
	for i := 1; i <= 21; i++ {
		if got, want := Key(i), libraryKey(i); got != want {
			t.Errorf("Key(%d): %x, want %x", i, got, want)
		}
		if got, want := Key(i), sha.Of([]byte("tithing key "+string(rune(i)))); got != want {
			t.Errorf("Key(%d): %x, by layer 2 %x", i, got, want)
		}
	}
}

// Ky1: where there is no part, there is no key.
func TestKeyOfNobody(t *testing.T) {
	for _, i := range nobody() {
		if got := Key(i); got != (api.Hash{}) {
			t.Errorf("Key(%d): %x", i, got)
		}
	}
}

// Ky1: tags that were worked out elsewhere.
func TestTagTold(t *testing.T) {
	for _, e := range []struct {
		i      int
		domain byte
		text   []byte
		want   string
	}{
		{1, 0, nil, "687d2f17eea881f5a1d269c2cb7ffa6e87b32dc63e7045f691646208881e13de"},
		{2, 1, []byte{1, 2}, "7c44c5a76f4d6aaa730abdac59f4f6fed41c48dbd4de50dc37a70daf13713e34"},
		{21, 255, []byte("abc"), "aa870d4fd295f446abdf8b3ce6111cc0658212850c1ad1bc272f7ce22f1509b0"},
		{3, 3, make([]byte, 200), "8ad138f44fa632a5362f1a991ff2d16e9a71fbd5d4769511fe8112a3b9aa2163"},
	} {
		got := Tag(e.i, e.domain, e.text)
		if sha.Hex(got) != e.want {
			t.Errorf("Tag(%d, %d, %x): %s, want %s", e.i, e.domain, e.text, sha.Hex(got), e.want)
		}
		if !Check(e.i, e.domain, got, e.text) {
			t.Errorf("Check(%d, %d, %x): false", e.i, e.domain, e.text)
		}
	}
}

// Ky1: each part's tags, of each domain.
func TestTagOfAll(t *testing.T) {
	for i := 1; i <= 21; i++ {
		for domain := range 256 {
			d, b := byte(domain), text(domain)
			if got, want := Tag(i, d, b), libraryTag(i, d, b); got != want {
				t.Errorf("Tag(%d, %d, ..): %x, want %x", i, d, got, want)
			}
		}
	}
}

// Ky1: tags of texts of many lengths, by the library, and by layer 3.
func TestTagLengths(t *testing.T) {
	for _, n := range lengths() {
		b, key := text(n), Key(7)
		got := Tag(7, 5, b)
		if want := libraryTag(7, 5, b); got != want {
			t.Errorf("%d bytes: %x, want %x", n, got, want)
		}
		if want := mac.Of(key[:], append([]byte{5}, b...)); got != want {
			t.Errorf("%d bytes: %x, by layer 3 %x", n, got, want)
		}
	}
}

// Ky1: no part of the text, no list, and empty ones are all the empty text: the domain alone is tagged.
func TestTagOfNothing(t *testing.T) {
	want := libraryTag(4, 2, nil)
	for name, parts := range map[string][][]byte{
		"no list": nil, "no part": {}, "nil": {nil}, "empty": {{}}, "several": {nil, {}, nil},
	} {
		if got := Tag(4, 2, parts...); got != want {
			t.Errorf("%s: %x, want %x", name, got, want)
		}
		if !Check(4, 2, want, parts...) {
			t.Errorf("%s: the tag is none", name)
		}
	}
	if Tag(4, 2) != want || !Check(4, 2, want) {
		t.Error("no argument: another tag")
	}
}

// Ky1: how a text is parted does not matter.
func TestPartsDoNotMatter(t *testing.T) {
	for _, n := range []int{1, 2, 55, 63, 64, 130} {
		b := text(n)
		want := libraryTag(9, 3, b)
		for i := range n + 1 {
			parts := [][]byte{nil, b[:i], {}, b[i:], nil}
			if got := Tag(9, 3, parts...); got != want {
				t.Errorf("%d bytes, parted at %d: %x, want %x", n, i, got, want)
			}
			if !Check(9, 3, want, parts...) {
				t.Errorf("%d bytes, parted at %d: the tag is none", n, i)
			}
		}
	}
}

// Ky1: where there is no part, there is no tag, and nothing is one: neither the zero hash nor a sum with the zero key, nor a part's whose number is the same byte.
func TestTagOfNobody(t *testing.T) {
	zero := api.Hash{}
	for _, i := range nobody() {
		for _, parts := range [][][]byte{nil, {nil}, {{1, 2}}, {{1}, {2}}, {text(100)}} {
			if got := Tag(i, 1, parts...); got != zero {
				t.Errorf("Tag(%d, 1, %x): %x", i, parts, got)
			}
			list := append([][]byte{{1}}, parts...)
			near := Tag(int(byte(i)), 1, parts...)
			own := libraryTag(i, 1, bytes.Join(parts, nil))
			for _, tag := range []api.Hash{zero, mac.Of(zero[:], list...), mac.Of(nil, list...), near, own} {
				if Check(i, 1, tag, parts...) {
					t.Errorf("Check(%d, 1, %x, %x): true", i, tag, parts)
				}
			}
		}
	}
}

// Ky1: a part's tag is found to be one, and neither the zero hash nor a sum without its key is.
func TestCheck(t *testing.T) {
	for i := 1; i <= 21; i++ {
		for domain := range 8 {
			d, b := byte(domain), text(10*i+domain)
			if !Check(i, d, libraryTag(i, d, b), b) {
				t.Errorf("Check(%d, %d, ..): false", i, d)
			}
			list, key := append([]byte{d}, b...), Key(i)
			for _, tag := range []api.Hash{{}, Key(i), sha.Of(list), mac.Of(nil, list), mac.Of(key[:], b), mac.Of(make([]byte, 32), list)} {
				if Check(i, d, tag, b) {
					t.Errorf("Check(%d, %d, %x, ..): true", i, d, tag)
				}
			}
		}
	}
}

// Ky1: each bit of a tag counts.
func TestCheckBits(t *testing.T) {
	want := Tag(21, 4, text(50))
	for i := range 256 {
		tag := want
		tag[i/8] ^= 1 << (i % 8)
		if Check(21, 4, tag, text(50)) {
			t.Errorf("bit %d of a tag does not matter", i)
		}
	}
}

// Ky1: there are parts 1 to 21.
func TestNode(t *testing.T) {
	for n := 1; n <= 21; n++ {
		if !Node(n) {
			t.Errorf("Node(%d): false", n)
		}
	}
	for n := -300; n <= 300; n++ {
		if want := n >= 1 && n <= 21; Node(n) != want {
			t.Errorf("Node(%d): %v", n, Node(n))
		}
	}
	for _, n := range nobody() {
		if Node(n) {
			t.Errorf("Node(%d): true", n)
		}
	}
}

// Ky1: the quorum of each number of parts that has one.
func TestQuorum(t *testing.T) {
	for n, want := range map[int]int{
		1: 1, 3: 2, 5: 3, 7: 4, 9: 5, 11: 6, 13: 7, 15: 8, 17: 9, 19: 10, 21: 11,
	} {
		if got := Quorum(n); got != want {
			t.Errorf("Quorum(%d): %d, want %d", n, got, want)
		}
	}
	for f := range api.MaxFaults + 1 {
		if got := Quorum(2*f + 1); got != f+1 {
			t.Errorf("Quorum(%d): %d, want %d", 2*f+1, got, f+1)
		}
	}
}

// Ky1: even numbers of parts, and such as there are not, have no quorum.
func TestNoQuorum(t *testing.T) {
	for n := -301; n <= 301; n++ {
		if got := Quorum(n); got != 0 && (n%2 == 0 || n < 1 || n > 21) {
			t.Errorf("Quorum(%d): %d", n, got)
		}
	}
	for _, n := range nobody() {
		if got := Quorum(n); got != 0 {
			t.Errorf("Quorum(%d): %d", n, got)
		}
	}
}

// Ky2: each part has a key of its own.
func TestKeysAreUnlike(t *testing.T) {
	seen := map[api.Hash]int{{}: 0}
	for i := 1; i <= 21; i++ {
		if j, ok := seen[Key(i)]; ok {
			t.Errorf("parts %d and %d have one key", j, i)
		}
		seen[Key(i)] = i
	}
}

// Ky2: a tag is its own: another part's, another domain's and another text's are others, and are not found to be it.
func TestTagsAreUnlike(t *testing.T) {
	type what struct {
		i      int
		domain byte
		text   string
	}
	var all []what
	for i := 1; i <= 21; i++ {
		for domain := range byte(5) {
			for _, s := range []string{"", "\x00", "\x01", "\x01\x02", "\x02\x01", "\x00\x01\x02", "\x01\x02\x00", strings.Repeat("a", 63), strings.Repeat("a", 64)} {
				all = append(all, what{i, domain, s})
			}
		}
	}
	seen := map[api.Hash]what{}
	for _, w := range all {
		tag := Tag(w.i, w.domain, []byte(w.text))
		if v, ok := seen[tag]; ok {
			t.Errorf("%v and %v have one tag", v, w)
		}
		seen[tag] = w
	}
	tag, own := Tag(2, 1, []byte{1, 2}), what{2, 1, "\x01\x02"}
	for _, w := range all {
		if got := Check(w.i, w.domain, tag, []byte(w.text)); got != (w == own) {
			t.Errorf("%v, with the tag of %v: %v", w, own, got)
		}
	}
}

// Ky2: each bit of a text, and of a domain, matters; so does where parts end against the domain's byte.
func TestTextMatters(t *testing.T) {
	want := Tag(5, 1, text(70))
	for i := range 8 * 70 {
		b := text(70)
		b[i/8] ^= 1 << (i % 8)
		if Tag(5, 1, b) == want || Check(5, 1, want, b) {
			t.Errorf("bit %d of a text does not matter", i)
		}
	}
	for i := range 8 {
		if d := byte(1) ^ 1<<i; Tag(5, d, text(70)) == want || Check(5, d, want, text(70)) {
			t.Errorf("bit %d of a domain does not matter", i)
		}
	}
	if Tag(5, 1, []byte("a"), []byte("b")) == Tag(5, 1, []byte("b"), []byte("a")) {
		t.Error("parts the other way round have the same tag")
	}
	if Tag(5, 1, []byte{2}) == Tag(5, 2, []byte{1}) || Tag(5, 1, []byte{0}) == Tag(5, 1) {
		t.Error("the domain is as a part, or a nought does not matter")
	}
}

// common tells whether any two of the sets of n parts that have size ones have one in common.
func common(n, size int) bool {
	var sets []uint
	for s := range uint(1) << n {
		if bits.OnesCount(s) == size {
			sets = append(sets, s)
		}
	}
	for _, a := range sets {
		for _, b := range sets {
			if a&b == 0 {
				return false
			}
		}
	}
	return true
}

// Ky2: two quorums of one number of parts have a part in common; of fewer ones that does not hold, and those that are left without half of the others are a quorum.
func TestQuorumsMeet(t *testing.T) {
	for n := 1; n <= 9; n += 2 {
		if !common(n, Quorum(n)) {
			t.Errorf("of %d parts, two quorums of %d have none in common", n, Quorum(n))
		}
		if common(n, Quorum(n)-1) {
			t.Errorf("of %d parts, %d are more than are needed", n, Quorum(n))
		}
	}
	for n := 1; n <= 21; n += 2 {
		q := Quorum(n)
		if 2*q <= n || q > n-(n-1)/2 {
			t.Errorf("of %d parts, %d are a quorum", n, q)
		}
	}
}

// R3: nothing is written to what is handed in, nor to the room behind it.
func TestNothingIsWritten(t *testing.T) {
	room := strings.Repeat("room", 50)
	b := []byte(room)
	parts := make([][]byte, 1, 4)
	parts[0] = b[:30]
	want := libraryTag(3, 9, []byte(room[:30]))
	if got := Tag(3, 9, parts...); got != want {
		t.Errorf("with room behind: %x, want %x", got, want)
	}
	if !Check(3, 9, want, parts...) {
		t.Error("with room behind: the tag is none")
	}
	if string(b) != room {
		t.Errorf("the text is changed: %q", b)
	}
	if &parts[0][0] != &b[0] || len(parts[0]) != 30 {
		t.Error("the list is changed")
	}
	for i, p := range parts[1:cap(parts)] {
		if p != nil {
			t.Errorf("the list has a part %d", i+1)
		}
	}
}

// R3, R4: what is answered hangs on the arguments alone, and not on what is done with answers ahead.
func TestNothingIsKept(t *testing.T) {
	for i := 1; i <= 21; i++ {
		key, tag := Key(i), Tag(i, 1, text(20))
		key[0]++
		tag[0]++
		Check(i, 1, tag, text(20))
		Tag(22-i, 2, text(21))
		if Key(i) != libraryKey(i) || Tag(i, 1, text(20)) != libraryTag(i, 1, text(20)) {
			t.Errorf("part %d: answers hang on the calls ahead", i)
		}
	}
}
