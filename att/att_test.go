package att

import (
	"bytes"
	"crypto/hmac"
	"crypto/sha256"
	"encoding/binary"
	"encoding/hex"
	"math"
	"math/rand"
	"strings"
	"testing"

	"tithing/api"
	"tithing/keys"
	"tithing/octet"
	"tithing/sha"
)

// rising is a hash of 32 unlike bytes, full one of bytes 255, only one that is nought but for one byte.
func rising() (h api.Hash) {
	for i := range h {
		h[i] = byte(i + 1)
	}
	return h
}

func full() (h api.Hash) {
	for i := range h {
		h[i] = 255
	}
	return h
}

func only(i int) (h api.Hash) {
	h[i] = 1
	return h
}

// made is an attestation without a tag.
func made(by, kind, view int, hash api.Hash, pview int, phash api.Hash) api.Att {
	return api.Att{By: by, Kind: kind, View: view, Phase: kind, Hash: hash, PView: pview, PHash: phash}
}

// with is an attestation that is turned.
func with(a api.Att, turn func(*api.Att)) api.Att {
	turn(&a)
	return a
}

// right are attestations that may be, at all edges, without tags; no two are alike in all.
func right() []api.Att {
	var none api.Hash
	up, ones := rising(), full()
	var l []api.Att
	for kind := 1; kind <= 3; kind++ {
		for by := 1; by <= 21; by++ {
			l = append(l, made(by, kind, 1, none, 0, none))
		}
		for _, view := range []int{2, 127, 128, 129, 300, 1<<14 - 1, 1 << 14, 1<<32 + 1, 1<<40 - 1, 1 << 40} {
			l = append(l, made(7, kind, view, none, 0, none), made(7, kind, view, up, view-1, ones), made(21, kind, view, ones, view/2, up))
		}
		l = append(l, made(2, kind, 3, up, 0, none), made(2, kind, 3, none, 0, up), made(2, kind, 3, up, 2, up), made(2, kind, 3, up, 1, up))
		for i := range 32 {
			l = append(l, made(4, kind, 5, only(i), 1, none), made(4, kind, 5, none, 1, only(i)))
		}
	}
	for _, view := range []int{1, 2, 127, 128, 300, 1<<40 - 1, 1 << 40} { // of what is stored a prepared block may be of the view itself
		l = append(l, made(9, 3, view, up, view, up), made(21, 3, view, ones, view, none))
	}
	return l
}

// bases are a few attestations that may be, one of each kind.
func bases() []api.Att {
	return []api.Att{made(2, 1, 9, api.Hash{}, 8, rising()), made(21, 2, 300, rising(), 0, api.Hash{}), made(1, 3, 1<<40, full(), 1<<40, full())}
}

// beyond are numbers that are below 0, or above 2^40.
func beyond() []int {
	return []int{math.MinInt, math.MinInt + 1, -1 << 40, -256, -2, -1, 1<<40 + 1, 1<<40 + 2, 1 << 41, 1 << 62, math.MaxInt - 1, math.MaxInt}
}

// wrong are attestations that may not be, most of them for one reason alone.
func wrong() []api.Att {
	l := []api.Att{{}, {By: 1}, {By: 1, View: 1}, {Kind: 1, Phase: 1, View: 1}, {By: 1, Kind: 1, View: 1}, {By: 1, Phase: 1, View: 1}}
	for _, a := range bases() {
		for _, n := range append(beyond(), 0, 22, 23, 40, 127, 128, 255, 256, 257, 1<<16+1, 1<<32+1, 1<<40) {
			l = append(l, with(a, func(a *api.Att) { a.By = n }))
		}
		for _, n := range append(beyond(), 0) {
			l = append(l, with(a, func(a *api.Att) { a.View = n }), with(a, func(a *api.Att) { a.View, a.PView = n, n }))
		}
		for _, n := range append(beyond(), a.View+1, a.View+2, a.View+256) {
			l = append(l, with(a, func(a *api.Att) { a.PView = n }))
		}
		for _, n := range append(beyond(), 0, 4, 5, 127, 128, 129, 255, 256, 257, 258, 259, 1<<32+1, 1<<40+2) {
			l = append(l, with(a, func(a *api.Att) { a.Kind, a.Phase = n, n }))
			l = append(l, with(a, func(a *api.Att) { a.Kind = n }), with(a, func(a *api.Att) { a.Phase = n }))
		}
		for n := 1; n <= 3; n++ {
			if n != a.Kind {
				l = append(l, with(a, func(a *api.Att) { a.Phase = n }))
			}
		}
	}
	for kind := 1; kind <= 2; kind++ { // a prepared block of the view itself, of what is not stored
		for _, view := range []int{1, 2, 128, 1<<40 - 1, 1 << 40} {
			l = append(l, made(3, kind, view, rising(), view, rising()))
		}
		l = append(l, made(3, kind, 1, api.Hash{}, 1<<40, api.Hash{}))
	}
	return append(l, made(3, 3, 1<<40, api.Hash{}, 1<<40+1, api.Hash{}), made(3, 3, 1, api.Hash{}, 2, api.Hash{}))
}

// said is what is tagged, by the library, also of one that may not be; written is its bytes.
func said(a api.Att) []byte {
	num := func(b []byte, n int) []byte { return binary.AppendUvarint(b, uint64(n)) }
	b := append(num(num(num(nil, a.Kind), a.View), a.Phase), a.Hash[:]...)
	return append(num(b, a.PView), a.PHash[:]...)
}

func written(a api.Att) []byte {
	b := append(binary.AppendUvarint(nil, uint64(a.By)), said(a)...)
	return append(b, a.Tag[:]...)
}

// tagOf is a part's tag by the library, of a domain, also where there is no such part.
func tagOf(by int, domain byte, b []byte) api.Hash {
	key := sha256.Sum256(append([]byte("tithing key "), byte(by)))
	m := hmac.New(sha256.New, key[:])
	m.Write([]byte{domain})
	m.Write(b)
	return api.Hash(m.Sum(nil))
}

// signed is an attestation with the tag by the library.
func signed(a api.Att) api.Att {
	a.Tag = tagOf(a.By, 1, said(a))
	return a
}

// turns are attestations that are like a in all but one thing, neither By nor Tag.
func turns(a api.Att) []api.Att {
	var l []api.Att
	for _, n := range []int{-1, 1, 2, 256, 1 << 32} {
		l = append(l,
			with(a, func(a *api.Att) { a.Kind += n }), with(a, func(a *api.Att) { a.Phase += n }),
			with(a, func(a *api.Att) { a.View += n }), with(a, func(a *api.Att) { a.PView += n }))
	}
	for i := range 256 {
		l = append(l,
			with(a, func(a *api.Att) { a.Hash[i/8] ^= 1 << (i % 8) }), with(a, func(a *api.Att) { a.PHash[i/8] ^= 1 << (i % 8) }))
	}
	return l
}

// mustBeNone holds that no attestation that may be is read.
func mustBeNone(t *testing.T, what string, b []byte) {
	t.Helper()
	if a, ok := Read(octet.Read(b)); ok || a != (api.Att{}) {
		t.Errorf("%s: Read(%x): %v, %v", what, b[:min(len(b), 120)], a, ok)
	}
}

// mustBeOwn holds that bytes begin with no attestation, or just with those that it is put as; it tells whether they do.
func mustBeOwn(t *testing.T, b []byte) bool {
	t.Helper()
	r := octet.Read(b)
	a, ok := Read(r)
	if !ok {
		if a != (api.Att{}) {
			t.Fatalf("%x: %v beside false", b, a)
		}
		return false
	}
	if own := b[:len(b)-r.Left()]; Check(a) != api.OK || !bytes.Equal(Put(nil, a), own) {
		t.Fatalf("%x is read as %v, which is put as %x", own, a, Put(nil, a))
	}
	return true
}

// told are attestations, the bytes of their numbers (ahead of the Hash, and of PView), and tags that were worked out elsewhere.
func told() []struct {
	att         api.Att
	ahead, prep string
	tag         string
} {
	var none api.Hash
	return []struct {
		att         api.Att
		ahead, prep string
		tag         string
	}{
		{made(1, 1, 1, none, 0, none), "01010101", "00", "fa4b39e024b980c73667ac1f72e578729f4a17485e73ed0319c2af057ff07c7f"},
		{made(2, 2, 3, none, 0, none), "02020302", "00", "e718a6108ef958a1812d3e977b8025603a29927890b7849b603fb98c218acd71"},
		{made(2, 1, 300, rising(), 299, full()), "0201ac0201", "ab02", "75e4234e9f7a18de9f7a0ac08ce60beceed567c0162f729c585a702c16213c99"},
		{made(3, 3, 128, full(), 128, rising()), "0303800103", "8001", "53bdaf6234aba9a7c18b725927e43448d214bf3c0e954b6f13ec16b029627028"},
		{made(21, 3, 1<<40, full(), 1<<40, full()), "150380808080802003", "808080808020", "531f820da53e6f9705ecc61c00e0f4a8b0f92e06264dd751297695ba7416c018"},
		{made(21, 1, 1<<40, none, 1<<40-1, rising()), "150180808080802001", "ffffffffff1f", "8441fc244e4a2b7fe5411fafa24e6f66c418960f55c91ab30c3fab4f6db73705"},
	}
}

// At1, At2: tags and bytes that were worked out elsewhere.
func TestTold(t *testing.T) {
	for _, c := range told() {
		a := Sign(c.att)
		if sha.Hex(a.Tag) != c.tag {
			t.Errorf("Sign(%v): the tag %x, want %s", c.att, a.Tag, c.tag)
		}
		want := c.ahead + sha.Hex(c.att.Hash) + c.prep + sha.Hex(c.att.PHash) + c.tag
		if got := hex.EncodeToString(Put(nil, a)); got != want {
			t.Errorf("Put: %s, want %s", got, want)
		}
		b, err := hex.DecodeString(want)
		if got, ok := Read(octet.Read(b)); err != nil || !ok || got != a || !Right(got) {
			t.Errorf("Read(%s): %v, %v", want, got, ok)
		}
	}
}

// At1: what may be; the tag is not looked at.
func TestCheckRight(t *testing.T) {
	for _, a := range right() {
		for _, tag := range []api.Hash{{}, rising(), full(), signed(a).Tag} {
			a.Tag = tag
			if e := Check(a); e != api.OK {
				t.Errorf("Check(%v): error %d", a, e)
			}
		}
	}
}

// At1: what may not be, whatever its tag is: it is told, and it is not right, not even with the tag that it would have.
func TestCheckWrong(t *testing.T) {
	for _, a := range wrong() {
		for _, tag := range []api.Hash{{}, rising(), signed(a).Tag, keys.Tag(a.By, 1, said(a))} {
			a.Tag = tag
			if e := Check(a); e != api.ErrArg {
				t.Errorf("Check(%v): error %d", a, e)
			}
			if Right(a) {
				t.Errorf("Right(%v)", a)
			}
		}
	}
}

// At1: which kinds, phases and views there may be, of all small numbers.
func TestCheckSmall(t *testing.T) {
	for kind := -1; kind <= 5; kind++ {
		for phase := -1; phase <= 5; phase++ {
			for view := -2; view <= 5; view++ {
				for pview := -2; pview <= 7; pview++ {
					want := kind >= 1 && kind <= 3 && phase == kind && view >= 1 && pview >= 0 && (pview < view || kind == 3 && pview == view)
					a := api.Att{By: 3, Kind: kind, View: view, Phase: phase, PView: pview}
					if e := Check(a); (e == api.OK) != want || (e == api.ErrArg) == want {
						t.Errorf("Check of kind %d, phase %d, view %d, prepared view %d: error %d", kind, phase, view, pview, e)
					}
				}
			}
		}
	}
}

// At1: the right tag is By's, of the domain 1, of what is tagged; nothing else is turned, and the tag that was there does not matter.
func TestSign(t *testing.T) {
	for _, a := range right() {
		want := signed(a)
		for _, tag := range []api.Hash{{}, rising(), full(), want.Tag} {
			b := a
			b.Tag = tag
			if got := Sign(b); got != want {
				t.Errorf("Sign(%v): %v, want %v", b, got, want)
			}
		}
		if want.Tag != keys.Tag(a.By, 1, said(a)) {
			t.Errorf("the tag of %v is not layer 4's", a)
		}
	}
}

// At1: one that may not be has the zero tag, whatever tag it had; the rest is as it was.
func TestSignWrong(t *testing.T) {
	for _, a := range wrong() {
		for _, tag := range []api.Hash{{}, rising(), signed(a).Tag} {
			b := a
			b.Tag = tag
			if got := Sign(b); got != a || Right(got) {
				t.Errorf("Sign(%v): %v", b, got)
			}
		}
	}
}

// At1, At3: what is signed is right.
func TestRight(t *testing.T) {
	for _, a := range right() {
		if !Right(signed(a)) || !Right(Sign(a)) {
			t.Errorf("%v, signed, is not right", a)
		}
	}
}

// At1: without a tag, or with one that is another domain's, another part's, of other bytes, or with another key, it is not right.
func TestOtherTags(t *testing.T) {
	for _, a := range right() {
		b := said(a)
		tags := []api.Hash{{}, full(), sha.Of(b), keys.Key(a.By), a.Hash, keys.Tag(a.By, 1, written(a)), keys.Tag(a.By, 1, nil), tagOf(0, 1, b), tagOf(a.By+256, 0, b)}
		for domain := range 256 {
			if domain != 1 {
				tags = append(tags, tagOf(a.By, byte(domain), b))
			}
		}
		for by := 1; by <= 21; by++ {
			if by != a.By {
				tags = append(tags, tagOf(by, 1, b))
			}
		}
		for _, tag := range tags {
			a.Tag = tag
			if Right(a) {
				t.Errorf("Right(%v)", a)
			}
		}
	}
}

// At1: each bit of a tag counts.
func TestTagBits(t *testing.T) {
	for _, a := range bases() {
		for i := range 256 {
			b := Sign(a)
			b.Tag[i/8] ^= 1 << (i % 8)
			if Right(b) {
				t.Errorf("bit %d of the tag of %v does not count", i, a)
			}
		}
	}
}

// At1: each thing that is attested counts: with one of them turned, or another By, the tag is not right any more.
func TestAllIsTagged(t *testing.T) {
	for _, a := range right() {
		a = Sign(a)
		for by := 1; by <= 21; by++ {
			if b := with(a, func(a *api.Att) { a.By = by }); Right(b) != (by == a.By) {
				t.Errorf("Right(%v): %v", b, by != a.By)
			}
		}
		for _, b := range turns(a) {
			if Right(b) {
				t.Errorf("%v is right with the tag of %v", b, a)
			}
		}
		if a.Hash != a.PHash && Right(with(a, func(a *api.Att) { a.Hash, a.PHash = a.PHash, a.Hash })) {
			t.Errorf("%v is right with its hashes the other way round", a)
		}
	}
}

// At1: no two attestations have one tag.
func TestTagsAreUnlike(t *testing.T) {
	seen := map[api.Hash]api.Att{{}: {}}
	for _, a := range right() {
		tag := Sign(a).Tag
		if other, there := seen[tag]; there {
			t.Errorf("%v and %v have one tag", a, other)
		}
		seen[tag] = a
	}
}

// At1: By and Tag do not matter for what is alike, also of attestations that may not be.
func TestAlike(t *testing.T) {
	for _, a := range append(right(), wrong()...) {
		for _, by := range []int{math.MinInt, -1, 0, 1, a.By, 21, 22, math.MaxInt} {
			for _, tag := range []api.Hash{{}, rising(), only(0), only(31), signed(a).Tag} {
				b := with(a, func(a *api.Att) { a.By, a.Tag = by, tag })
				if !Alike(a, b) || !Alike(b, a) {
					t.Errorf("%v and %v are not alike", a, b)
				}
			}
		}
	}
}

// At1: all else matters.
func TestUnlike(t *testing.T) {
	for _, a := range append(bases(), Sign(bases()[1]), api.Att{}, api.Att{By: -1, Kind: 7, View: -3}) {
		for _, b := range turns(a) {
			if Alike(a, b) || Alike(b, a) {
				t.Errorf("%v and %v are alike", a, b)
			}
		}
	}
	if a, b := made(1, 1, 2, rising(), 0, full()), made(1, 1, 2, full(), 0, rising()); Alike(a, b) {
		t.Errorf("%v and %v are alike", a, b)
	}
	if a, b := made(1, 1, 2, rising(), 1, full()), made(1, 1, 1, rising(), 2, full()); Alike(a, b) {
		t.Errorf("%v and %v are alike", a, b)
	}
}

// At2: the bytes stand behind those that were there, with whatever tag.
func TestPut(t *testing.T) {
	for _, a := range right() {
		for _, tag := range []api.Hash{{}, rising(), signed(a).Tag} {
			a.Tag = tag
			want := written(a)
			for _, b := range [][]byte{nil, {}, {7}, {1, 2, 3}, bytes.Repeat([]byte{200}, 1000), want} {
				if got := Put(b, a); !bytes.Equal(got, append(bytes.Clone(b), want...)) {
					t.Errorf("Put(%d bytes, %v): %x", len(b), a, got)
				}
			}
		}
	}
}

// At2: of one that may not be nothing is put.
func TestPutWrong(t *testing.T) {
	for _, a := range wrong() {
		for _, b := range [][]byte{nil, {}, {7}, {1, 2, 3}} {
			if got := Put(b, signed(a)); !bytes.Equal(got, b) {
				t.Errorf("Put(%v, %v): %x", b, a, got)
			}
		}
	}
}

// At2: what is read next, whatever its tag is, and nothing behind it.
func TestReadNext(t *testing.T) {
	for _, a := range right() {
		for _, tag := range []api.Hash{{}, full(), signed(a).Tag} {
			a.Tag = tag
			for _, more := range [][]byte{nil, {0}, {255}, {1, 1, 1, 1}, written(a), make([]byte, 300)} {
				r := octet.Read(append(written(a), more...))
				if got, ok := Read(r); !ok || got != a || r.Left() != len(more) || r.Wrong() {
					t.Errorf("Read(%v, and %d bytes): %v, %v, left %d", a, len(more), got, ok, r.Left())
				}
			}
		}
	}
}

// At2, At3: what is put is read, one behind the other, from wherever the reader stands; what was signed is right.
func TestReadInTurn(t *testing.T) {
	b := octet.Num(nil, 300)
	for _, a := range right() {
		b = Put(b, Sign(a))
	}
	r := octet.Read(b)
	if n := r.Num(); n != 300 {
		t.Fatalf("the number ahead: %d", n)
	}
	for i, a := range right() {
		got, ok := Read(r)
		if !ok || got != signed(a) || !Right(got) {
			t.Fatalf("%d: %v, %v, want %v", i, got, ok, a)
		}
	}
	if !r.Done() {
		t.Errorf("left %d, wrong %v", r.Left(), r.Wrong())
	}
	if got, ok := Read(r); ok || got != (api.Att{}) {
		t.Errorf("behind all: %v, %v", got, ok)
	}
}

// At2: one that is cut is none: also where only a prepared view, a hash, or a tag is not there, that could be nought.
func TestReadCut(t *testing.T) {
	for _, a := range right() {
		for _, b := range [][]byte{written(a), written(signed(a))} {
			for cut := range b {
				mustBeNone(t, "cut", b[:cut])
			}
		}
	}
	mustBeNone(t, "numbers alone", []byte{1, 1, 1, 1})
	mustBeNone(t, "no hash behind", append([]byte{1, 1, 1, 1}, make([]byte, 33)...))
	mustBeNone(t, "no tag", append([]byte{1, 1, 1, 1}, make([]byte, 65)...))
	mustBeNone(t, "half a tag", append([]byte{1, 1, 1, 1}, make([]byte, 81)...))
}

// At2: bytes of one that may not be are none.
func TestReadWrong(t *testing.T) {
	for _, a := range wrong() {
		mustBeNone(t, "may not be", written(a))
		mustBeNone(t, "may not be, signed", written(signed(a)))
		mustBeNone(t, "may not be, and more", append(written(a), make([]byte, 100)...))
	}
}

// parts are an attestation's bytes: its five numbers' at 0 to 3 and 5, and hashes'.
func parts(a api.Att) [][]byte {
	num := func(n int) []byte { return binary.AppendUvarint(nil, uint64(n)) }
	return [][]byte{num(a.By), num(a.Kind), num(a.View), num(a.Phase), a.Hash[:], num(a.PView), a.PHash[:], a.Tag[:]}
}

// At2: numbers of more than 40 bits, or 63, are no smaller ones.
func TestReadGreat(t *testing.T) {
	for _, a := range bases() {
		for _, n := range []uint64{1<<40 + 1, 1<<63 - 1, 1 << 63, 1<<63 + 1, 1<<63 + 2, 1<<63 + 9, math.MaxUint64 - 1, math.MaxUint64} {
			for _, at := range []int{0, 1, 2, 3, 5} {
				l := parts(Sign(a))
				l[at] = binary.AppendUvarint(nil, n)
				mustBeNone(t, "a great number", bytes.Join(l, nil))
			}
			l := parts(Sign(a))
			l[1] = binary.AppendUvarint(nil, n)
			l[3] = l[1]
			mustBeNone(t, "a great kind", bytes.Join(l, nil))
		}
	}
}

// At2: no other bytes are the same one's: a number with more bytes than it needs is none, wherever it stands.
func TestLongNumbers(t *testing.T) {
	for _, a := range append(bases(), made(1, 1, 1, api.Hash{}, 0, api.Hash{}), made(3, 3, 4, full(), 4, full())) {
		for _, at := range []int{0, 1, 2, 3, 5} {
			l := parts(a)
			own, end := l[at], len(l[at])-1
			for _, more := range [][]byte{{0}, {128, 0}, {128, 128, 128, 0}} {
				long := append(bytes.Clone(own), more...)
				long[end] |= 128
				l[at] = long
				mustBeNone(t, "a long number", bytes.Join(l, nil))
			}
			l[at] = nil
			mustBeNone(t, "no number", bytes.Join(l, nil))
		}
	}
}

// At2, R1: of no reader, or one that is wrong, nothing is read.
func TestReadOfNobody(t *testing.T) {
	failed := octet.Read(append([]byte{128, 0}, written(bases()[0])...))
	failed.Num()
	for name, r := range map[string]*octet.Reader{
		"nil": nil, "zero": {}, "no bytes": octet.Read(nil), "wrong": failed,
	} {
		if a, ok := Read(r); ok || a != (api.Att{}) {
			t.Errorf("%s: %v, %v", name, a, ok)
		}
	}
}

// following turns bytes into the next ones of that alphabet, the first place first; it tells whether there are any.
func following(b, alphabet []byte) bool {
	for i := range b {
		at := bytes.IndexByte(alphabet, b[i])
		if at+1 < len(alphabet) {
			b[i] = alphabet[at+1]
			return true
		}
		b[i] = alphabet[0]
	}
	return false
}

// At2, At3: of all short numbers ahead of a hash, and a prepared view behind it, those that are read are what is put of what was read.
func TestShortTexts(t *testing.T) {
	seen := map[string]bool{}
	for n := 3; n <= 6; n++ {
		ahead := make([]byte, n)
		for {
			for _, pview := range []byte{0, 1, 2, 22, 128} {
				b := append(bytes.Clone(ahead), make([]byte, 32)...)
				b = append(append(b, pview), bytes.Repeat([]byte{0}, 64)...)
				if mustBeOwn(t, b) {
					seen[hex.EncodeToString(ahead)+" "+hex.EncodeToString([]byte{pview})] = true
				}
			}
			if !following(ahead, []byte{0, 1, 2, 3, 21, 22, 128}) {
				break
			}
		}
	}
	for what, want := range map[string]bool{
		"01010101 00": true, "15010201 01": true, "15020202 01": true, "15030203 02": true, "0203800103 16": true, "0203801603 80": false,
		"01010101 01": false, "02020202 02": false, "03030103 01": true, "03030103 02": false, "16010101 00": false, "00010101 00": false,
		"01000100 00": false, "01010001 00": false, "01020103 00": false, "01160116 00": false, "8001010101 00": false, "01010102 00": false,
	} {
		if seen[what] != want {
			t.Errorf("%s: %v", what, !want)
		}
	}
}

// At2, At3: likewise of bytes some of which are turned, taken away, or put between.
func TestTurnedBytes(t *testing.T) {
	rnd := rand.New(rand.NewSource(1))
	many := 0
	for range 200 {
		for _, a := range right() {
			b := written(Sign(a))
			at := rnd.Intn(len(b))
			if rnd.Intn(2) == 0 {
				at = rnd.Intn(6) // where numbers are
			}
			switch rnd.Intn(3) {
			case 0:
				b[at] = byte(rnd.Intn(256))
			case 1:
				b = append(b[:at], b[at+1:]...)
			case 2:
				b = append(b[:at+1], b[at:]...)
			}
			if mustBeOwn(t, b) {
				many++
			}
		}
	}
	if many == 0 {
		t.Error("none was read")
	}
}

// At3: what is signed is right, and what is put is read, of attestations by chance.
func TestByChance(t *testing.T) {
	rnd := rand.New(rand.NewSource(2))
	for range 5000 {
		kind, view := 1+rnd.Intn(3), 1+rnd.Intn(1<<rnd.Intn(41))
		a := made(1+rnd.Intn(21), kind, view, api.Hash{}, rnd.Intn(view+kind/3), api.Hash{})
		rnd.Read(a.Hash[:])
		rnd.Read(a.PHash[:])
		rnd.Read(a.Tag[:])
		if Right(a) {
			t.Fatalf("Right(%v)", a)
		}
		b := Sign(a)
		if b != signed(a) || !Right(b) || !Alike(a, b) {
			t.Fatalf("%v is signed as %v", a, b)
		}
		for _, x := range []api.Att{a, b} {
			r := octet.Read(Put(nil, x))
			if got, ok := Read(r); !ok || got != x || !r.Done() {
				t.Fatalf("%v is read as %v, %v", x, got, ok)
			}
		}
	}
}

// R3: nothing is written to what is handed in, nor to the room behind it; what is answered is new memory, also where nothing is put.
func TestPutIsNewMemory(t *testing.T) {
	room := []byte(strings.Repeat("room", 100))
	for _, a := range append(bases(), api.Att{}, made(22, 1, 1, api.Hash{}, 0, api.Hash{})) {
		for _, n := range []int{0, 1, 3, 399, 400} {
			b := bytes.Clone(room)
			got := Put(b[:n], a)
			again := Put(b[:n], a)
			got = append(got, 1, 2, 3)
			clear(got)
			if !bytes.Equal(b, room) {
				t.Fatalf("Put(%d bytes, %v) writes to what it was handed, or shares memory with it", n, a)
			}
			clear(b)
			if !bytes.Equal(again, Put(room[:n], a)) {
				t.Errorf("Put(%d bytes, %v) hangs on what was handed in", n, a)
			}
		}
	}
}

// R4: an answer hangs on its arguments alone.
func TestNothingIsKept(t *testing.T) {
	for _, a := range right() {
		other := made(20, 2, 77, full(), 70, rising())
		Sign(other)
		Right(signed(other))
		Put([]byte("other"), other)
		Read(octet.Read(written(other)))
		Check(api.Att{})
		Alike(other, a)
		if Check(a) != api.OK || Sign(a) != signed(a) || Right(a) || !bytes.Equal(Put(nil, a), written(a)) {
			t.Errorf("answers hang on the calls ahead: %v", a)
		}
	}
}
