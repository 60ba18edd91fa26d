package blob

import (
	"bytes"
	"crypto/hmac"
	"crypto/sha256"
	"encoding/binary"
	"encoding/hex"
	"math"
	"math/rand"
	"slices"
	"testing"

	"tithing/api"
	"tithing/keys"
	"tithing/sha"
)

// rising is a hash of 32 unlike bytes, full one of bytes 255, only one that is nought but for one byte.
func rising() (h api.Hash) {
	for i := range h {
		h[i] = byte(i + 1)
	}
	return h
}

func full() (h api.Hash) {
	for i := range h {
		h[i] = 255
	}
	return h
}

func only(i int) (h api.Hash) {
	h[i] = 1
	return h
}

// made is a seal.
func made(view, phase, pview int, phash api.Hash) api.Seal {
	return api.Seal{View: view, Phase: phase, PView: pview, PHash: phash}
}

// with is a seal that is turned.
func with(s api.Seal, turn func(*api.Seal)) api.Seal {
	turn(&s)
	return s
}

// right are seals that may be, at all edges; no two are alike.
func right() []api.Seal {
	var none api.Hash
	up, ones := rising(), full()
	l := []api.Seal{{}}
	for phase := 1; phase <= 3; phase++ {
		l = append(l, made(1, phase, 0, none), made(1, phase, 0, up))
		for _, view := range []int{2, 127, 128, 129, 300, 1<<14 - 1, 1 << 14, 1<<32 + 1, 1<<40 - 1, 1 << 40} {
			l = append(l, made(view, phase, 0, none), made(view, phase, view-1, up), made(view, phase, view/2, ones))
		}
		for i := range 32 {
			l = append(l, made(5, phase, 1, only(i)))
		}
	}
	for _, view := range []int{1, 2, 127, 128, 300, 1<<40 - 1, 1 << 40} { // behind what is stored a prepared block may be of the view itself
		l = append(l, made(view, 3, view, none), made(view, 3, view, up))
	}
	return l
}

// bases are a few seals that may be, one of each phase but 0.
func bases() []api.Seal {
	return []api.Seal{made(9, 1, 8, rising()), made(300, 2, 0, api.Hash{}), made(1<<40, 3, 1<<40, full()), made(7, 3, 2, rising())}
}

// beyond are numbers that are below 0, or above 2^40.
func beyond() []int {
	return []int{math.MinInt, math.MinInt + 1, -1 << 40, -256, -3, -2, -1, 1<<40 + 1, 1<<40 + 2, 1 << 41, 1 << 62, math.MaxInt - 1, math.MaxInt}
}

// wrong are seals that may not be, most of them for one reason alone.
func wrong() []api.Seal {
	var none api.Hash
	l := []api.Seal{{Phase: 1}, {Phase: 2}, {Phase: 3}, {PView: 1}, {PView: -1}, {PHash: rising()}, {View: 1}, {View: 1 << 40}, {View: 2, PView: 1}, {Phase: 3, PHash: full()}}
	for i := range 32 {
		l = append(l, api.Seal{PHash: only(i)})
	}
	for _, n := range beyond() {
		l = append(l, api.Seal{View: n}, api.Seal{Phase: n}, api.Seal{PView: n})
	}
	for _, s := range bases() {
		for _, n := range append(beyond(), 0) {
			l = append(l, with(s, func(s *api.Seal) { s.View = n }), with(s, func(s *api.Seal) { s.View, s.PView = n, n }))
		}
		for _, n := range append(beyond(), s.View+1, s.View+2, s.View+256) {
			l = append(l, with(s, func(s *api.Seal) { s.PView = n }))
		}
		for _, n := range append(beyond(), 0, 4, 5, 127, 128, 129, 255, 256, 257, 258, 259, 1<<32+1, 1<<40) {
			l = append(l, with(s, func(s *api.Seal) { s.Phase = n }))
		}
	}
	for phase := 1; phase <= 2; phase++ { // a prepared block of the view itself, behind what is not stored
		for _, view := range []int{1, 2, 128, 1<<40 - 1, 1 << 40} {
			l = append(l, made(view, phase, view, rising()), made(view, phase, view, none))
		}
		l = append(l, made(1, phase, 1<<40, none))
	}
	return append(l, made(1, 3, 2, none), made(1<<40, 3, 1<<40+1, none), made(1<<40+1, 3, 1<<40, none))
}

// versions are some that there are, noVersions some that there are not.
func versions() []int {
	return []int{1, 2, 7, 127, 128, 300, 1<<14 - 1, 1 << 14, 1<<32 + 1, 1<<40 - 1, 1 << 40}
}

func noVersions() []int { return append(beyond(), 0) }

// noParts are numbers of which there is no part.
func noParts() []int {
	return append(beyond(), 0, 22, 23, 40, 127, 128, 255, 256, 257, 258, 1<<16+1, 1<<32+1, 1<<40)
}

// parts are the bytes of a version and a seal by the library, also of such as may not be: four numbers', and the hash's.
func parts(version int, s api.Seal) [][]byte {
	var l [][]byte
	for _, n := range []int{version, s.View, s.Phase, s.PView} {
		l = append(l, binary.AppendUvarint(nil, uint64(n)))
	}
	return append(l, s.PHash[:])
}

// said is what is tagged, by the library.
func said(version int, s api.Seal) []byte { return bytes.Join(parts(version, s), nil) }

// tagOf is a part's tag by the library, of a domain, also where there is no such part.
func tagOf(i int, domain byte, b []byte) api.Hash {
	key := sha256.Sum256(append([]byte("tithing key "), byte(i)))
	m := hmac.New(sha256.New, key[:])
	m.Write([]byte{domain})
	m.Write(b)
	return api.Hash(m.Sum(nil))
}

// behind is bytes with a tag's behind; sealed is bytes with part i's right tag, whatever they are.
func behind(b []byte, tag api.Hash) []byte { return append(bytes.Clone(b), tag[:]...) }

func sealed(i int, b []byte) []byte { return behind(b, tagOf(i, 3, b)) }

// written is a blob by the library.
func written(i, version int, s api.Seal) []byte { return sealed(i, said(version, s)) }

// mustGet fails, unless a version and a seal are got.
func mustGet(t *testing.T, what string, i int, b []byte, version int, s api.Seal) {
	t.Helper()
	if v, got, e := Get(i, b); v != version || got != s || e != api.OK {
		t.Errorf("%s: Get(%d, %x): %d, %v, error %d, want %d, %v", what, i, b, v, got, e, version, s)
	}
}

// mustBe fails, unless an error is told, and nothing beside it.
func mustBe(t *testing.T, what string, want api.Errno, i int, b []byte) {
	t.Helper()
	if v, s, e := Get(i, b); v != 0 || s != (api.Seal{}) || e != want {
		t.Errorf("%s: Get(%d, %x): %d, %v, error %d, want error %d", what, i, b[:min(len(b), 120)], v, s, e, want)
	}
}

// mustBeNone fails, unless bytes are no version, seal and 32 bytes, whoever asks, also of no part.
func mustBeNone(t *testing.T, what string, b []byte) {
	t.Helper()
	for _, i := range []int{1, 2, 21, 0, 22, -1} {
		mustBe(t, what, api.ErrText, i, b)
	}
}

// mustNotPut fails, unless ErrArg is told, and nothing beside it.
func mustNotPut(t *testing.T, i, version int, s api.Seal) {
	t.Helper()
	if b, e := Put(i, version, s); b != nil || e != api.ErrArg {
		t.Errorf("Put(%d, %d, %v): %x, error %d", i, version, s, b, e)
	}
}

// The chapter's example.
func TestExample(t *testing.T) {
	if b, e := Put(1, 1, api.Seal{}); len(b) != 68 || e != api.OK {
		t.Errorf("%d bytes, error %d", len(b), e)
	}
}

// Bl1, Bl2: numbers' bytes, and tags, that were worked out elsewhere.
func TestTold(t *testing.T) {
	for _, c := range []struct {
		i, version int
		seal       api.Seal
		ahead, tag string
	}{
		{1, 1, api.Seal{}, "01000000", "68a03c9b6c009cf7e11aa5b3118851df5916c566869bf4fc91cb0492d71c65b2"},
		{2, 7, made(3, 1, 0, api.Hash{}), "07030100", "84a80f70a642b5036dee8be4a3fdb2af583e1631e8039bae8f7c14b5cb15a61e"},
		{2, 128, made(300, 1, 299, rising()), "8001ac0201ab02", "a9408f7080be0859e9510727346d418ce55bd46712d963cf9f5ce2b77a546b60"},
		{3, 1 << 14, made(128, 3, 128, full()), "8080018001038001", "a44edaed012389abc459961702b460bfc73812d3f66dbd91fb05a82d0c12ecc9"},
		{21, 1 << 40, made(1<<40, 3, 1<<40, full()), "80808080802080808080802003808080808020", "a8e5412242f74efce2e4de9cc63652b9a30303b4625cf270e1a75b2550de2282"},
		{21, 1<<40 - 1, made(1<<40, 2, 1<<40-1, rising()), "ffffffffff1f80808080802002ffffffffff1f", "e02f97cb85c543a61018a86d9723196922b4f6f4bbb506f72f54e4a8fa68e863"},
		{9, 300, made(1, 1, 0, rising()), "ac02010100", "805782e413adb59507e2676d197e5938a2b43aef239b4effcaa46e1e6e7dced4"},
		{1, 1, made(1, 3, 1, rising()), "01010301", "40fbc5b63cebadaa03d8012af6cddbf2ba4c2414970fe7d6b6bba0da200e7fdc"},
	} {
		want := c.ahead + sha.Hex(c.seal.PHash) + c.tag
		if b, e := Put(c.i, c.version, c.seal); e != api.OK || hex.EncodeToString(b) != want {
			t.Errorf("Put(%d, %d, %v): %x, error %d, want %s", c.i, c.version, c.seal, b, e, want)
		}
		b, err := hex.DecodeString(want)
		if err != nil {
			t.Fatal(err)
		}
		mustGet(t, "told", c.i, b, c.version, c.seal)
	}
}

// Bl1: what may be.
func TestCheckRight(t *testing.T) {
	for _, s := range right() {
		if e := Check(s); e != api.OK {
			t.Errorf("Check(%v): error %d", s, e)
		}
	}
}

// Bl1: what may not be.
func TestCheckWrong(t *testing.T) {
	for _, s := range wrong() {
		if e := Check(s); e != api.ErrArg {
			t.Errorf("Check(%v): error %d", s, e)
		}
	}
}

// mayBe is the chapter's words of a seal, one by one.
func mayBe(s api.Seal) bool {
	if s.View < 0 || s.View > 1<<40 || s.Phase < 0 || s.Phase > 3 || (s.Phase == 0) != (s.View == 0) {
		return false
	}
	if s.PView < 0 || s.PView > s.View || s.PView == s.View && s.Phase != 3 && s.View != 0 {
		return false
	}
	return s.View != 0 || s.PHash == api.Hash{}
}

// Bl1: which seals there may be, of all small numbers and those about the end; those alone are put, and got.
func TestCheckSmall(t *testing.T) {
	views := []int{-2, -1, 0, 1, 2, 3, 4, 1<<40 - 1, 1 << 40, 1<<40 + 1}
	for _, view := range views {
		for phase := -1; phase <= 5; phase++ {
			for _, pview := range append(views, 5, 6) {
				for _, h := range []api.Hash{{}, rising(), only(0), only(31)} {
					s := made(view, phase, pview, h)
					want := api.ErrArg
					if mayBe(s) {
						want = api.OK
					}
					if e := Check(s); e != want {
						t.Errorf("Check(%v): error %d, want error %d", s, e, want)
					}
					if _, e := Put(2, 3, s); e != want {
						t.Errorf("Put of %v: error %d, want error %d", s, e, want)
					}
					if want == api.OK {
						mustGet(t, "small", 2, written(2, 3, s), 3, s)
					} else {
						mustBe(t, "small", api.ErrText, 2, written(2, 3, s))
					}
				}
			}
		}
	}
}

// Bl1: the blob is the bytes of the version and the seal, and the part's tag of these, of the domain 3.
func TestPut(t *testing.T) {
	for _, s := range right() {
		for _, version := range versions() {
			b, e := Put(7, version, s)
			if e != api.OK || !bytes.Equal(b, written(7, version, s)) {
				t.Errorf("Put(7, %d, %v): %x, error %d, want %x", version, s, b, e, written(7, version, s))
			}
			if own := said(version, s); !bytes.Equal(b, behind(own, keys.Tag(7, 3, own))) {
				t.Errorf("the tag of %d, %v is not layer 4's", version, s)
			}
		}
	}
}

// Bl1: of each part there is a blob, and no two blobs are alike.
func TestPutOfEachPart(t *testing.T) {
	seen := map[string]int{}
	for i := 1; i <= 21; i++ {
		for _, s := range right() {
			b, e := Put(i, 5, s)
			if e != api.OK || !bytes.Equal(b, written(i, 5, s)) {
				t.Errorf("Put(%d, 5, %v): %x, error %d", i, s, b, e)
			}
			seen[string(b)]++
			seen[string(b[len(b)-32:])]++
		}
	}
	if want := 2 * 21 * len(right()); len(seen) != want {
		t.Errorf("%d blobs and tags, want %d", len(seen), want)
	}
}

// Bl1: nothing is put of a seal that may not be, of no part, or no version.
func TestPutWrong(t *testing.T) {
	for _, s := range wrong() {
		for _, i := range []int{1, 2, 21} {
			mustNotPut(t, i, 1, s)
			mustNotPut(t, i, 1<<40, s)
		}
	}
	for _, s := range append(bases(), api.Seal{}) {
		for _, i := range noParts() {
			mustNotPut(t, i, 1, s)
			mustNotPut(t, i, 1<<40, s)
		}
		for _, version := range noVersions() {
			mustNotPut(t, 1, version, s)
			mustNotPut(t, 21, version, s)
		}
	}
	mustNotPut(t, 0, 0, api.Seal{})
	mustNotPut(t, 22, 1<<40+1, wrong()[0])
}

// Bl1, Bl2: what is put is got by that part, the version and the seal alike; by another part, or none, it is ErrTag.
func TestGet(t *testing.T) {
	for _, s := range right() {
		for _, version := range versions() {
			mustGet(t, "by the library", 7, written(7, version, s), version, s)
		}
	}
	for i := 1; i <= 21; i++ {
		for _, s := range append(bases(), api.Seal{}) {
			b, _ := Put(i, 300, s)
			mustGet(t, "put", i, b, 300, s)
			for k := 1; k <= 21; k++ {
				if k != i {
					mustBe(t, "another part's", api.ErrTag, k, b)
				}
			}
			for _, k := range noParts() {
				mustBe(t, "no part's", api.ErrTag, k, b)
			}
		}
	}
}

// Bl1: where there is no part, no tag is right: not the zero one, nor one with the key that such a part would have, or of nought.
func TestGetOfNoPart(t *testing.T) {
	for _, s := range append(bases(), api.Seal{}) {
		own := said(3, s)
		m := hmac.New(sha256.New, make([]byte, 32))
		m.Write(append([]byte{3}, own...))
		for _, i := range noParts() {
			for _, tag := range []api.Hash{{}, tagOf(i, 3, own), api.Hash(m.Sum(nil)), keys.Tag(i, 3, own)} {
				mustBe(t, "no part's", api.ErrTag, i, behind(own, tag))
			}
		}
	}
}

// Bl1: another tag is ErrTag: another domain's, another part's, of other bytes, or none.
func TestOtherTags(t *testing.T) {
	for _, s := range right() {
		own := said(9, s)
		tags := []api.Hash{{}, full(), s.PHash, sha.Of(own), keys.Key(4), tagOf(0, 3, own), tagOf(4, 3, nil), tagOf(4, 3, own[1:]), tagOf(4, 3, said(8, s)), tagOf(4, 3, said(10, s)), tagOf(4, 3, written(4, 9, s))}
		for domain := range 256 {
			if domain != 3 {
				tags = append(tags, tagOf(4, byte(domain), own))
			}
		}
		for i := 1; i <= 21; i++ {
			if i != 4 {
				tags = append(tags, tagOf(i, 3, own))
			}
		}
		for _, tag := range tags {
			mustBe(t, "another tag", api.ErrTag, 4, behind(own, tag))
		}
	}
}

// Bl1: each bit of a blob counts: with one turned it is not got any more; with one of its tag turned, it is ErrTag.
func TestEachBit(t *testing.T) {
	for _, s := range append(bases(), api.Seal{}) {
		b := written(4, 300, s)
		for i := range 8 * len(b) {
			turned := bytes.Clone(b)
			turned[i/8] ^= 1 << (i % 8)
			if v, got, e := Get(4, turned); v != 0 || got != (api.Seal{}) || e != api.ErrTag && e != api.ErrText {
				t.Errorf("bit %d of %x turned: %d, %v, error %d", i, b, v, got, e)
			}
			if i/8 >= len(b)-32 {
				mustBe(t, "a bit of the tag", api.ErrTag, 4, turned)
			}
		}
		for i := range 256 {
			other := with(s, func(s *api.Seal) { s.PHash[i/8] ^= 1 << (i % 8) })
			want := api.ErrTag
			if s.View == 0 {
				want = api.ErrText
			}
			mustBe(t, "a bit of the hash", want, 4, behind(said(300, other), tagOf(4, 3, said(300, s))))
		}
	}
}

// Bl1: the version and each number of a seal are tagged: the tag of one is none of another one.
func TestAllIsTagged(t *testing.T) {
	for _, s := range bases() {
		tag := tagOf(6, 3, said(300, s))
		for _, version := range versions() {
			if version != 300 {
				mustBe(t, "another version", api.ErrTag, 6, behind(said(version, s), tag))
			}
		}
		for _, other := range right() {
			if other != s {
				mustBe(t, "another seal", api.ErrTag, 6, behind(said(300, other), tag))
			}
		}
	}
}

// Bl1: one that is cut is none: also where only a prepared view, a hash, or a tag is not there, that could be nought.
func TestCut(t *testing.T) {
	for _, s := range right() {
		for _, version := range []int{1, 300, 1 << 40} {
			b := written(2, version, s)
			for cut := range b {
				mustBe(t, "cut", api.ErrText, 2, b[:cut])
			}
			own := said(version, s)
			for cut := range own {
				mustBe(t, "cut and sealed", api.ErrText, 2, sealed(2, own[:cut]))
			}
		}
	}
	mustBeNone(t, "no list", nil)
	mustBeNone(t, "nothing", []byte{})
	mustBeNone(t, "half a tag", make([]byte, 52))
}

// Bl1: with something behind, or ahead, it is none; of that, too, a tag does not matter.
func TestMore(t *testing.T) {
	for _, s := range right() {
		b := written(2, 5, s)
		for _, more := range [][]byte{{0}, {255}, {1, 1, 1, 1}, b, make([]byte, 300)} {
			mustBe(t, "more behind", api.ErrText, 2, slices.Concat(b, more))
			mustBe(t, "more behind, sealed", api.ErrText, 2, sealed(2, slices.Concat(said(5, s), more)))
			mustBe(t, "sealed twice", api.ErrText, 2, sealed(2, b))
		}
	}
	mustBeNone(t, "much", make([]byte, 1<<20))
	mustBeNone(t, "much more behind", slices.Concat(written(2, 5, api.Seal{}), make([]byte, 1<<20)))
}

// Bl1: one of a seal that may not be, or of no version, is none, though it has the part's tag.
func TestGetWrong(t *testing.T) {
	for _, s := range wrong() {
		for _, i := range []int{1, 2, 21} {
			mustBe(t, "a seal that may not be", api.ErrText, i, written(i, 1, s))
		}
		mustBeNone(t, "a seal that may not be, no tag", behind(said(1, s), api.Hash{}))
	}
	for _, s := range append(bases(), api.Seal{}) {
		for _, version := range noVersions() {
			for _, i := range []int{1, 2, 21} {
				mustBe(t, "no version", api.ErrText, i, written(i, version, s))
			}
			mustBeNone(t, "no version, no tag", behind(said(version, s), api.Hash{}))
		}
	}
	mustBeNone(t, "all nought", make([]byte, 68))
}

// Bl1: numbers of more than 40 bits are no smaller ones.
func TestGreat(t *testing.T) {
	for _, s := range append(bases(), api.Seal{}) {
		for _, n := range []uint64{1<<40 + 1, 1<<41 + 1, 1<<63 - 1, 1 << 63, 1<<63 + 1, 1<<63 + 3, 1<<63 + 9, math.MaxUint64 - 1, math.MaxUint64} {
			for at := range 4 {
				l := parts(5, s)
				l[at] = binary.AppendUvarint(nil, n)
				mustBe(t, "a great number", api.ErrText, 2, sealed(2, bytes.Join(l, nil)))
			}
		}
	}
}

// Bl1: a number that is not written in as few bytes as can be, or has more than 64 bits, is none, though it is sealed so.
func TestNotAsFew(t *testing.T) {
	for _, s := range append(bases(), api.Seal{}) {
		for at := range 4 {
			for more := 1; more <= 11; more++ {
				l := parts(5, s)
				long := bytes.Clone(l[at])
				long[len(long)-1] |= 128
				l[at] = append(append(long, bytes.Repeat([]byte{128}, more-1)...), 0)
				mustBe(t, "too long a number", api.ErrText, 2, sealed(2, bytes.Join(l, nil)))
			}
			l := parts(5, s)
			l[at] = bytes.Repeat([]byte{255}, 11)
			mustBe(t, "a number without end", api.ErrText, 2, sealed(2, bytes.Join(l, nil)))
		}
	}
}

// Bl1, R2: ErrText is told ahead of ErrTag, also of no part.
func TestTextAheadOfTag(t *testing.T) {
	for _, s := range append(bases(), api.Seal{}) {
		b := written(4, 5, s)
		for _, i := range append(noParts(), 1, 3, 21) {
			mustBe(t, "another part's, and cut", api.ErrText, i, b[:len(b)-1])
			mustBe(t, "another part's, and more", api.ErrText, i, append(bytes.Clone(b), 0))
			mustBe(t, "another part's, of no version", api.ErrText, i, written(4, 0, s))
			mustBe(t, "another part's", api.ErrTag, i, b)
		}
	}
}

// following turns bytes to those that follow, of an alphabet; it is false behind the last ones.
func following(b, alphabet []byte) bool {
	for i := range b {
		at := bytes.IndexByte(alphabet, b[i])
		if at+1 < len(alphabet) {
			b[i] = alphabet[at+1]
			return true
		}
		b[i] = alphabet[0]
	}
	return false
}

// Bl1: of all short numbers ahead of a hash, those that are got are what is put of what is got.
func TestShortTexts(t *testing.T) {
	seen := map[string]bool{}
	for n := 3; n <= 6; n++ {
		for ahead := make([]byte, n); ; {
			for _, h := range []api.Hash{{}, rising()} {
				b := sealed(2, slices.Concat(ahead, h[:]))
				v, s, e := Get(2, b)
				if e != api.OK {
					mustBe(t, "short", api.ErrText, 2, b)
				} else if own, f := Put(2, v, s); f != api.OK || !bytes.Equal(own, b) || s.PHash != h {
					t.Fatalf("%x is got as %d, %v, which is put as %x, error %d", b, v, s, own, f)
				} else {
					seen[hex.EncodeToString(ahead)] = true
				}
			}
			if !following(ahead, []byte{0, 1, 2, 3, 4, 128, 129}) {
				break
			}
		}
	}
	for what, want := range map[string]bool{
		"01000000": true, "04000000": true, "01010100": true, "01010301": true, "01020101": true, "8001010303": false, "80018001028101": false,
		"800104020301": false, "8001040201": true, "8001040203": true, "8001040204": false, "0180010304": true, "018001038001": true, "018101028001": true, "018001028001": false,
		"00000000": false, "01010101": false, "01010201": false, "01010302": false, "01010000": false, "01000100": false, "01000001": false, "01020400": false,
		"0100000000": false, "010000": false, "8000000000": false, "0180000100": false, "0101810000": false,
	} {
		if seen[what] != want {
			t.Errorf("%s: %v", what, !want)
		}
	}
}

// Bl1: whether a seal is ahead: by View, and of one View by Phase; nothing else matters, and what may be does not.
func TestLess(t *testing.T) {
	numbers := append(beyond(), 0, 1, 2, 3, 4, 127, 128, 255, 256, 1<<32, 1<<40)
	hashes := []api.Hash{{}, rising(), full()}
	rnd := rand.New(rand.NewSource(1))
	for _, aview := range numbers {
		for _, bview := range numbers {
			for _, aphase := range numbers {
				for _, bphase := range numbers {
					a := made(aview, aphase, numbers[rnd.Intn(len(numbers))], hashes[rnd.Intn(3)])
					b := made(bview, bphase, numbers[rnd.Intn(len(numbers))], hashes[rnd.Intn(3)])
					want := aview < bview || aview == bview && aphase < bphase
					if Less(a, b) != want {
						t.Fatalf("Less(%v, %v): %v", a, b, !want)
					}
				}
			}
		}
	}
}

// Bl1: of seals that may be: none is ahead of itself, or of one that differs in PView and PHash alone.
func TestLessOfRight(t *testing.T) {
	for _, a := range right() {
		for _, b := range right() {
			one := a.View == b.View && a.Phase == b.Phase
			if one == (Less(a, b) || Less(b, a)) || Less(a, b) && Less(b, a) {
				t.Errorf("Less(%v, %v): %v; the other way round: %v", a, b, Less(a, b), Less(b, a))
			}
		}
	}
	if !Less(made(2, 3, 2, full()), made(3, 1, 0, api.Hash{})) || !Less(made(3, 1, 2, full()), made(3, 2, 0, api.Hash{})) || !Less(api.Seal{}, made(1, 1, 0, api.Hash{})) {
		t.Error("steps are not ahead")
	}
}

// byChance is a seal that may be.
func byChance(rnd *rand.Rand) api.Seal {
	view, phase := 1+rnd.Intn(1<<rnd.Intn(41)), 1+rnd.Intn(3)
	s := made(view, phase, rnd.Intn(view+phase/3), api.Hash{})
	rnd.Read(s.PHash[:])
	return s
}

// Bl2: what is put is got by that part alone, of seals by chance.
func TestByChance(t *testing.T) {
	rnd := rand.New(rand.NewSource(2))
	for range 5000 {
		i, version, s := 1+rnd.Intn(21), 1+rnd.Intn(1<<rnd.Intn(41)), byChance(rnd)
		b, e := Put(i, version, s)
		if e != api.OK || Check(s) != api.OK {
			t.Fatalf("Put(%d, %d, %v): error %d", i, version, s, e)
		}
		mustGet(t, "by chance", i, b, version, s)
		mustBe(t, "by chance, another part", api.ErrTag, i%21+1, b)
	}
}

// Bl1: of bytes by chance, and blobs some bytes of which are turned, taken away or put between, none is got; sealed anew, just what would be put.
func TestTurnedBytes(t *testing.T) {
	rnd := rand.New(rand.NewSource(3))
	many := 0
	for range 20000 {
		own := said(1+rnd.Intn(300), byChance(rnd))
		if rnd.Intn(10) == 0 {
			own = make([]byte, rnd.Intn(80))
			rnd.Read(own)
		}
		if len(own) > 0 {
			at := rnd.Intn(min(len(own), 8)) // where numbers are
			switch rnd.Intn(3) {
			case 0:
				own[at] = byte(rnd.Intn(256))
			case 1:
				own = slices.Delete(own, at, at+1)
			case 2:
				own = slices.Insert(own, at, byte(rnd.Intn(256)))
			}
		}
		b := sealed(3, own)
		if v, s, e := Get(3, b); e == api.OK {
			many++
			if got, f := Put(3, v, s); f != api.OK || !bytes.Equal(got, b) {
				t.Fatalf("%x is got as %d, %v, which is put as %x", b, v, s, got)
			}
			mustBe(t, "turned, with no tag", api.ErrTag, 3, behind(own, api.Hash{}))
		} else {
			mustBe(t, "turned", api.ErrText, 3, b)
		}
	}
	if many == 0 {
		t.Error("none was got")
	}
}

// R3: nothing is written to what is handed in, nor to the room behind it; what is answered is new memory.
func TestNewMemory(t *testing.T) {
	for _, s := range append(bases(), api.Seal{}) {
		one, _ := Put(2, 5, s)
		again, _ := Put(2, 5, s)
		one = append(one, 1, 2, 3)
		clear(one)
		if !bytes.Equal(again, written(2, 5, s)) {
			t.Errorf("two blobs of %v share memory", s)
		}
		room := append(written(2, 5, s), "room"...)
		b := room[:len(room)-4]
		want := bytes.Clone(room)
		for _, i := range []int{2, 3, 0} {
			Get(i, b)
			Get(i, b[:len(b)-1])
			Get(i, room)
		}
		if !bytes.Equal(room, want) {
			t.Errorf("Get of %x writes to what it was handed", want)
		}
		v, got, e := Get(2, b)
		clear(room)
		if v != 5 || got != s || e != api.OK {
			t.Errorf("Get of %x: %d, %v, error %d", want, v, got, e)
		}
	}
}

// R4: an answer hangs on its arguments alone.
func TestNothingIsKept(t *testing.T) {
	for _, s := range right() {
		other := made(77, 2, 70, full())
		Put(20, 9, other)
		Get(20, written(20, 9, other))
		Get(3, []byte("other"))
		Put(0, 0, other)
		Check(made(-1, -1, -1, full()))
		Less(other, s)
		b, e := Put(3, 4, s)
		if Check(s) != api.OK || e != api.OK || !bytes.Equal(b, written(3, 4, s)) {
			t.Errorf("answers hang on the calls ahead: %v", s)
		}
		mustGet(t, "behind other calls", 3, b, 4, s)
	}
}
