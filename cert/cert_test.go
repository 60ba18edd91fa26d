package cert

import (
	"bytes"
	"crypto/hmac"
	"crypto/sha256"
	"encoding/binary"
	"encoding/hex"
	"math"
	"math/bits"
	"math/rand"
	"reflect"
	"slices"
	"strings"
	"testing"

	"tithing/api"
	"tithing/att"
	"tithing/octet"
)

// rising is a hash of 32 unlike bytes, full one of bytes 255, only one that is nought but for one byte.
func rising() (h api.Hash) {
	for i := range h {
		h[i] = byte(i + 1)
	}
	return h
}

func full() (h api.Hash) {
	for i := range h {
		h[i] = 255
	}
	return h
}

func only(i int) (h api.Hash) {
	h[i] = 1
	return h
}

// made is an attestation of nobody, without a tag.
func made(kind, view int, hash api.Hash, pview int, phash api.Hash) api.Att {
	return api.Att{Kind: kind, View: view, Phase: kind, Hash: hash, PView: pview, PHash: phash}
}

// upTo are the numbers from 1 on.
func upTo(n int) []int {
	l := make([]int, n)
	for i := range l {
		l[i] = i + 1
	}
	return l
}

// odd are the numbers of parts of which there is a quorum; notOdd are some of which there is none.
func odd() []int { return []int{1, 3, 5, 7, 9, 11, 13, 15, 17, 19, 21} }

func notOdd() []int {
	l := []int{math.MinInt, math.MinInt + 1, -1 << 40, -256, -21, -3, -2, -1, 0, 22, 23, 24, 25, 41, 42, 43, 127, 128, 129, 255, 256, 257, 259, 1<<32 + 3, 1<<40 + 3, math.MaxInt - 1, math.MaxInt}
	for n := 2; n <= 20; n += 2 {
		l = append(l, n)
	}
	return l
}

// bases are a few attestations of nobody that may be somebody's, at all edges.
func bases() []api.Att {
	var none api.Hash
	up, ones := rising(), full()
	return []api.Att{
		made(1, 1, none, 0, none), made(2, 1, none, 0, none), made(3, 1, none, 0, none), made(3, 1, none, 1, none),
		made(1, 9, none, 8, up), made(2, 300, up, 0, none), made(2, 128, up, 127, ones), made(3, 128, ones, 128, up),
		made(1, 1<<40, only(0), 1<<40-1, only(31)), made(2, 1<<40, only(31), 1<<40-1, only(0)), made(3, 1<<40, ones, 1<<40, ones),
	}
}

// base is one attestation of nobody, all things of which are unlike nought.
func base() api.Att { return made(2, 300, rising(), 299, full()) }

// wrong are attestations of nobody that may be nobody's, most of them for one reason alone.
func wrong() []api.Att {
	l := []api.Att{{}, {View: 1}, {Kind: 1, View: 1}, {Phase: 1, View: 1}, made(1, 5, rising(), 5, rising()), made(2, 5, rising(), 5, rising()), made(3, 5, rising(), 6, rising())}
	for _, n := range []int{math.MinInt, -1, 0, 4, 128, 257, 258, 259, 1<<32 + 2, math.MaxInt} {
		a, b, c := base(), base(), base()
		a.Kind, a.Phase = n, n
		b.Kind = n
		c.Phase = n
		l = append(l, a, b, c)
	}
	for _, n := range []int{math.MinInt, -1, 1<<40 + 1, 1 << 62, math.MaxInt} {
		a, b, c := base(), base(), base()
		a.View = n
		b.PView = n
		c.View, c.PView = n, n
		l = append(l, a, b, c)
	}
	a, b := base(), base()
	a.View = 0
	b.Kind, b.View, b.PView = 3, 0, 0
	return append(l, a, b, made(1, 5, rising(), 5, rising()), made(2, 1<<40, full(), 1<<40, full()), made(3, 1<<40, full(), 1<<40+1, full()))
}

// said is what is tagged of an attestation, by the library, also of one that may not be.
func said(a api.Att) []byte {
	num := func(b []byte, n int) []byte { return binary.AppendUvarint(b, uint64(n)) }
	b := append(num(num(num(nil, a.Kind), a.View), a.Phase), a.Hash[:]...)
	return append(num(b, a.PView), a.PHash[:]...)
}

// tagOf is a part's tag of an attestation by the library, also where there is no such part.
func tagOf(by int, a api.Att) api.Hash {
	key := sha256.Sum256(append([]byte("tithing key "), byte(by)))
	m := hmac.New(sha256.New, key[:])
	m.Write([]byte{1})
	m.Write(said(a))
	return api.Hash(m.Sum(nil))
}

// signed is an attestation as a part's, with its tag by the library.
func signed(by int, a api.Att) api.Att {
	a.By, a.Tag = by, tagOf(by, a)
	return a
}

// all are an attestation as each part's.
func all(a api.Att, bys ...int) []api.Att {
	var l []api.Att
	for _, by := range bys {
		l = append(l, signed(by, a))
	}
	return l
}

// certOf is the certificate of an attestation with those signatures, whatever they are.
func certOf(a api.Att, bys ...int) api.Cert {
	c := api.Cert{Att: a}
	for _, by := range bys {
		c.Sigs = append(c.Sigs, api.Sig{By: by, Tag: tagOf(by, a)})
	}
	return c
}

// written is a certificate's bytes by the library, also of one that has none.
func written(c api.Cert) []byte {
	b := binary.AppendUvarint(said(c.Att), uint64(len(c.Sigs)))
	for _, s := range c.Sigs {
		b = append(binary.AppendUvarint(b, uint64(s.By)), s.Tag[:]...)
	}
	return b
}

// copied is a certificate in new memory.
func copied(c api.Cert) api.Cert {
	c.Sigs = slices.Clone(c.Sigs)
	return c
}

// alike tells whether certificates are, with no list and an empty one the same.
func alike(a, b api.Cert) bool {
	return reflect.DeepEqual(a.Att, b.Att) && len(a.Sigs) == len(b.Sigs) && (len(a.Sigs) == 0 || reflect.DeepEqual(a.Sigs, b.Sigs))
}

// mustMake holds that a certificate is made, and that it is right.
func mustMake(t *testing.T, n int, l []api.Att, want api.Cert) {
	t.Helper()
	c, e := Make(n, l)
	if e != api.OK || !alike(c, want) {
		t.Errorf("Make(%d, %v): %v, error %d, want %v", n, l, c, e, want)
	}
	if !Right(n, c) {
		t.Errorf("Right(%d, %v): false", n, c)
	}
}

// mustFail holds that none is made, for that reason.
func mustFail(t *testing.T, what string, n int, l []api.Att, want api.Errno) {
	t.Helper()
	c, e := Make(n, l)
	if e != want || !reflect.DeepEqual(c, api.Cert{}) {
		t.Errorf("%s: Make of %d parts and %d attestations: %v, error %d, want %d", what, n, len(l), c, e, want)
	}
}

// shuffled are those in another order.
func shuffled[T any](rnd *rand.Rand, l []T) []T {
	l = slices.Clone(l)
	rnd.Shuffle(len(l), func(i, j int) { l[i], l[j] = l[j], l[i] })
	return l
}

// Ce1, Ce2: tags and bytes that were worked out elsewhere (of the longer ones their sums).
func TestTold(t *testing.T) {
	var none api.Hash
	nought := strings.Repeat("00", 32)
	for _, c := range []struct {
		n    int
		att  api.Att
		bys  []int
		want string
		sum  string
	}{
		{1, made(1, 1, none, 0, none), []int{1},
			"010101" + nought + "00" + nought + "0101fa4b39e024b980c73667ac1f72e578729f4a17485e73ed0319c2af057ff07c7f",
			"850f572d5269085cf3fb1098575297739ba79a7f10458f5c0fc6f115bbf07f28"},
		{3, made(2, 3, none, 0, none), []int{2, 1},
			"020302" + nought + "00" + nought + "0201cc6d12ede95578ab41fdb71e8969b5b2a9c897889476fae155bd73ad8f191d1502e718a6108ef958a1812d3e977b8025603a29927890b7849b603fb98c218acd71",
			"12d4fbdd6d8427e63cb4907d2623fd67da21b16c75b3c2b4396bf08622f4bb72"},
		{5, made(1, 300, rising(), 299, full()), []int{4, 2, 5}, "",
			"74c07a669b0c7acff1747ed59d505f68879f7501c29283d435afb8db24ac413d"},
		{21, made(3, 1<<40, full(), 1<<40, rising()), []int{21, 1, 19, 3, 17, 5, 15, 7, 13, 9, 11}, "",
			"04edb02a04594624f7788f91117d3b9756dad1673a9ae4ff61771667fb0e5abc"},
	} {
		var l []api.Att
		for _, by := range c.bys {
			a := c.att
			a.By = by
			l = append(l, att.Sign(a))
		}
		x, e := Make(c.n, l)
		b := Put(nil, x)
		if sum := sha256.Sum256(b); e != api.OK || hex.EncodeToString(sum[:]) != c.sum {
			t.Errorf("Make(%d, of the parts %v): error %d; its bytes: %x", c.n, c.bys, e, b)
		}
		if c.want != "" && hex.EncodeToString(b) != c.want {
			t.Errorf("Put: %x, want %s", b, c.want)
		}
	}
}

// Ce1: of just a quorum's attestations, for each number of parts, in any order.
func TestMake(t *testing.T) {
	rnd := rand.New(rand.NewSource(1))
	for _, a := range bases() {
		for _, n := range odd() {
			bys := shuffled(rnd, upTo(n))[:n/2+1]
			mustMake(t, n, all(a, bys...), certOf(a, slices.Sorted(slices.Values(bys))...))
		}
	}
}

// Ce1: of more than a quorum's, the lowest By count, in whichever order they come.
func TestMakeFirst(t *testing.T) {
	rnd := rand.New(rand.NewSource(2))
	a := base()
	for _, n := range odd() {
		for range 5 {
			many := n/2 + 1 + rnd.Intn(n-n/2)
			bys := shuffled(rnd, upTo(n))[:many]
			want := slices.Sorted(slices.Values(bys))[:n/2+1]
			mustMake(t, n, all(a, bys...), certOf(a, want...))
		}
		mustMake(t, n, all(a, upTo(n)...), certOf(a, upTo(n/2+1)...))
		back := upTo(n)
		slices.Reverse(back)
		mustMake(t, n, all(a, back...), certOf(a, upTo(n/2+1)...))
		mustMake(t, n, all(a, back[:n/2+1]...), certOf(a, upTo(n)[n/2:]...))
	}
}

// Ce1: one By that comes many times has one signature.
func TestMakeRepeated(t *testing.T) {
	a := base()
	mustMake(t, 1, all(a, 1, 1, 1), certOf(a, 1))
	mustMake(t, 3, all(a, 3, 3, 3, 2, 2, 3), certOf(a, 2, 3))
	mustMake(t, 5, all(a, 5, 4, 5, 4, 1, 1, 5), certOf(a, 1, 4, 5))
	mustMake(t, 5, all(a, slices.Repeat([]int{4, 1, 2, 5, 3}, 40)...), certOf(a, 1, 2, 3))
	for _, n := range odd() {
		mustMake(t, n, all(a, slices.Concat(upTo(n), upTo(n))...), certOf(a, upTo(n/2+1)...))
	}
}

// Ce1: without a quorum of n there is none, whatever else is wrong.
func TestMakeNoQuorum(t *testing.T) {
	a := base()
	for _, n := range notOdd() {
		mustFail(t, "no quorum", n, all(a, upTo(21)...), api.ErrArg)
		mustFail(t, "no quorum, one", n, all(a, 1), api.ErrArg)
		mustFail(t, "no quorum, none", n, nil, api.ErrArg)
		mustFail(t, "no quorum, a wrong tag", n, []api.Att{{By: 1}}, api.ErrArg)
		mustFail(t, "no quorum, By above", n, all(a, 21), api.ErrArg)
	}
}

// Ce1, R5: of no attestation there is none.
func TestMakeOfNone(t *testing.T) {
	for _, n := range odd() {
		mustFail(t, "nil", n, nil, api.ErrArg)
		mustFail(t, "empty", n, []api.Att{}, api.ErrArg)
		mustFail(t, "empty, with room", n, all(base(), 1, 2, 3)[:0], api.ErrArg)
	}
}

// Ce1: one that is not right is told, wherever it stands, also where others would be enough, or too few, or unlike.
func TestMakeTag(t *testing.T) {
	a := base()
	other := made(3, 300, rising(), 300, full())
	var bad []api.Att
	for _, w := range append(wrong(), a) {
		bad = append(bad, w, signed(0, w), signed(22, w), signed(-1, w), signed(257, w))
	}
	for _, w := range wrong() {
		bad = append(bad, signed(1, w), signed(2, w))
	}
	x, y := signed(2, a), signed(2, a)
	x.Tag[0] ^= 1
	y.Tag[31] ^= 128
	z := signed(2, a)
	z.By = 1
	u := signed(2, a)
	u.Hash = full()
	v := signed(1, a)
	v.Tag = api.Hash{}
	bad = append(bad, x, y, z, u, v)
	for _, w := range bad {
		for _, l := range [][]api.Att{nil, all(a, 1), all(a, 1, 2), all(a, 3, 2, 1), append(all(a, 1, 2), all(other, 3)...), append(all(other, 3), all(a, 2, 1)...)} {
			for at := range len(l) + 1 {
				mustFail(t, "a wrong tag", 3, slices.Insert(slices.Clone(l), at, w), api.ErrTag)
			}
		}
	}
}

// Ce1: one whose By is above n is told likewise.
func TestMakeAbove(t *testing.T) {
	a, other := base(), made(1, 2, rising(), 1, full())
	for _, n := range odd() {
		for by := n + 1; by <= 21; by++ {
			mustFail(t, "alone", n, all(a, by), api.ErrTag)
			mustFail(t, "ahead", n, append(all(a, by), all(a, upTo(n)...)...), api.ErrTag)
			mustFail(t, "behind", n, append(all(a, upTo(n)...), all(a, by)...), api.ErrTag)
			mustFail(t, "unlike, behind", n, append(all(a, upTo(n)...), all(other, by)...), api.ErrTag)
			mustFail(t, "behind unlike ones", n, append(all(a, 1), append(all(other, 1), all(a, by)...)...), api.ErrTag)
		}
	}
}

// unlike are attestations that are like base in all but one thing, and may be.
func unlike() []api.Att {
	l := []api.Att{
		made(1, 300, rising(), 299, full()), made(3, 300, rising(), 299, full()),
		made(2, 301, rising(), 299, full()), made(2, 1<<40, rising(), 299, full()),
		made(2, 300, full(), 299, full()), made(2, 300, rising(), 298, full()), made(2, 300, rising(), 0, full()), made(2, 300, rising(), 299, rising()),
	}
	for i := range 32 {
		a, b := base(), base()
		a.Hash[i] ^= 1
		b.PHash[i] ^= 128
		l = append(l, a, b)
	}
	return l
}

// Ce1: where two are not alike there is none, also where others would be enough, or too few; which By they have does not matter.
func TestMakeUnlike(t *testing.T) {
	a := base()
	for _, b := range unlike() {
		for by := 1; by <= 3; by++ {
			for _, l := range [][]api.Att{all(a, 1), all(a, 2, 1), all(a, 1, 2, 3), all(a, 3, 3)} {
				for at := range len(l) + 1 {
					mustFail(t, "unlike", 3, slices.Insert(slices.Clone(l), at, signed(by, b)), api.ErrArg)
				}
			}
		}
	}
	mustFail(t, "unlike, and too few", 21, append(all(a, 1), all(unlike()[0], 1)...), api.ErrArg)
	mustFail(t, "the last one of many", 21, append(all(a, upTo(21)...), all(unlike()[4], 21)...), api.ErrArg)
}

// Ce1: fewer By than the quorum are too few, however often they come.
func TestMakeFew(t *testing.T) {
	rnd := rand.New(rand.NewSource(3))
	a := base()
	for _, n := range odd() {
		for many := 1; many <= n/2; many++ {
			bys := shuffled(rnd, upTo(n))[:many]
			mustFail(t, "few", n, all(a, bys...), api.ErrNone)
			mustFail(t, "few, and often", n, all(a, slices.Repeat(bys, 4)...), api.ErrNone)
			mustFail(t, "few, the first ones", n, all(a, upTo(many)...), api.ErrNone)
			mustFail(t, "few, the last ones", n, all(a, upTo(n)[n-many:]...), api.ErrNone)
		}
	}
	mustFail(t, "one, many times", 3, all(a, slices.Repeat([]int{2}, 100)...), api.ErrNone)
}

// Ce1: for which n a certificate is right.
func TestRight(t *testing.T) {
	for _, a := range append(bases(), base()) {
		for _, n := range odd() {
			c := certOf(a, upTo(n)[n/2:]...)
			if !Right(n, c) || !Right(n, certOf(a, upTo(n/2+1)...)) {
				t.Errorf("Right(%d, %v): false", n, c)
			}
			for m := -1; m <= 24; m++ {
				if m != n && Right(m, c) {
					t.Errorf("Right(%d, %v)", m, c)
				}
			}
			for _, m := range notOdd() {
				if Right(m, c) {
					t.Errorf("Right(%d, %v)", m, c)
				}
			}
		}
	}
}

// Ce1: of all sets of signers, just the quorums of parts that there are.
func TestRightSets(t *testing.T) {
	a := base()
	for n := -1; n <= 8; n++ {
		for set := range 1 << 9 {
			var bys []int
			for by := range 9 {
				if set>>by&1 == 1 {
					bys = append(bys, by)
				}
			}
			want := n > 0 && n%2 == 1 && len(bys) == n/2+1 && bys[0] > 0 && bys[len(bys)-1] <= n
			if c := certOf(a, bys...); Right(n, c) != want {
				t.Errorf("Right(%d, of the signers %v): %v", n, bys, !want)
			}
		}
	}
}

// Ce1: one with too few signatures, too many, or none is not right.
func TestRightHowMany(t *testing.T) {
	a := base()
	for _, n := range odd() {
		for many := 0; many <= 21; many++ {
			if c := certOf(a, upTo(many)...); Right(n, c) != (many == n/2+1) {
				t.Errorf("Right(%d, with %d signatures): %v", n, many, many != n/2+1)
			}
		}
	}
	for _, n := range append(notOdd(), odd()...) {
		for _, c := range []api.Cert{{}, {Att: a}, {Att: a, Sigs: []api.Sig{}}, {Sigs: make([]api.Sig, 1)}, {Att: a, Sigs: make([]api.Sig, 2)}} {
			if Right(n, c) {
				t.Errorf("Right(%d, %v)", n, c)
			}
		}
	}
}

// Ce1: By do not fall, nor stay.
func TestRightOrder(t *testing.T) {
	a := base()
	for _, bys := range [][]int{{2, 1}, {1, 1}, {2, 2}, {3, 1}, {3, 3}, {0, 1}, {1, 0}, {-1, 1}, {1, 257}, {2, 258}, {1, math.MaxInt}, {math.MinInt, 1}} {
		if Right(3, certOf(a, bys...)) {
			t.Errorf("Right(3, of the signers %v)", bys)
		}
	}
	for i := range 3 {
		for j := range 3 {
			for k := range 3 {
				bys := []int{i + 1, j + 1, k + 1}
				if Right(5, certOf(a, bys...)) != (i < j && j < k) {
					t.Errorf("Right(5, of the signers %v): %v", bys, i >= j || j >= k)
				}
			}
		}
	}
}

// turned are certificates that are like c in all but one thing.
func turned(c api.Cert) []api.Cert {
	var l []api.Cert
	add := func(turn func(*api.Cert)) {
		x := copied(c)
		turn(&x)
		l = append(l, x)
	}
	for _, n := range []int{-1, 1, 2, 256, 1 << 32, math.MinInt} {
		add(func(x *api.Cert) { x.Att.By += n })
		add(func(x *api.Cert) { x.Att.Kind += n })
		add(func(x *api.Cert) { x.Att.Phase += n })
		add(func(x *api.Cert) { x.Att.View += n })
		add(func(x *api.Cert) { x.Att.PView += n })
		for i := range c.Sigs {
			add(func(x *api.Cert) { x.Sigs[i].By += n })
		}
	}
	for i := range 256 {
		at, bit := i/8, byte(1)<<(i%8)
		add(func(x *api.Cert) { x.Att.Hash[at] ^= bit })
		add(func(x *api.Cert) { x.Att.PHash[at] ^= bit })
		add(func(x *api.Cert) { x.Att.Tag[at] ^= bit })
		for j := range c.Sigs {
			add(func(x *api.Cert) { x.Sigs[j].Tag[at] ^= bit })
		}
	}
	for i := range c.Sigs {
		add(func(x *api.Cert) { x.Sigs = slices.Delete(x.Sigs, i, i+1) })
		add(func(x *api.Cert) { x.Sigs = slices.Insert(x.Sigs, i, x.Sigs[i]) })
		add(func(x *api.Cert) { x.Sigs[i].Tag = api.Hash{} })
		for j := range i {
			add(func(x *api.Cert) { x.Sigs[i], x.Sigs[j] = x.Sigs[j], x.Sigs[i] })
			add(func(x *api.Cert) { x.Sigs[i].Tag, x.Sigs[j].Tag = x.Sigs[j].Tag, x.Sigs[i].Tag })
		}
	}
	add(func(x *api.Cert) { x.Sigs = nil })
	add(func(x *api.Cert) { x.Sigs = append(x.Sigs, api.Sig{}) })
	return l
}

// Ce1: each thing of a certificate counts.
func TestRightTurned(t *testing.T) {
	for _, c := range []api.Cert{certOf(base(), 1, 3), certOf(made(3, 1, rising(), 1, rising()), 2, 3), certOf(made(1, 1<<40, api.Hash{}, 0, api.Hash{}), 1, 2)} {
		if !Right(3, c) {
			t.Errorf("Right(3, %v): false", c)
		}
		for _, x := range turned(c) {
			if Right(3, x) {
				t.Errorf("Right(3, %v)", x)
			}
		}
	}
}

// Ce1: its own By is 0, and its Tag zero, also where it would be a signer's.
func TestRightOwn(t *testing.T) {
	a := base()
	for _, by := range []int{1, 2, 3} {
		c := certOf(a, 1, 2)
		c.Att.By = by
		if Right(3, c) {
			t.Errorf("Right(3, %v)", c)
		}
		c.Att.Tag = tagOf(by, a)
		if Right(3, c) {
			t.Errorf("Right(3, %v)", c)
		}
		c.Att.By = 0
		if Right(3, c) {
			t.Errorf("Right(3, %v)", c)
		}
	}
}

// Ce1: of an attestation that may not be it is not right, not even with the tags that there would be.
func TestRightWrong(t *testing.T) {
	for _, a := range wrong() {
		for _, c := range []api.Cert{certOf(a, 1, 2), certOf(a, 2, 3)} {
			if Right(3, c) {
				t.Errorf("Right(3, %v)", c)
			}
		}
	}
}

// some are certificates that have bytes, at all edges.
func some() []api.Cert {
	var l []api.Cert
	for _, a := range append(bases(), base()) {
		for _, bys := range [][]int{{1}, {21}, {1, 21}, {2, 5, 9}, upTo(20), upTo(21)} {
			c := certOf(a, bys...)
			zero := copied(c)
			zero.Sigs[0].Tag = api.Hash{}
			last := copied(c)
			last.Sigs[len(bys)-1].Tag = full()
			l = append(l, c, zero, last)
		}
	}
	return l
}

// without are certificates that have no bytes, most of them for one reason alone.
func without() []api.Cert {
	var l []api.Cert
	for _, a := range wrong() {
		l = append(l, certOf(a, 1), certOf(a, 1, 2, 3))
	}
	a := base()
	for _, by := range []int{math.MinInt, -1, 1, 2, 3, 21, 22, 256, math.MaxInt} {
		x, y := certOf(a, 1, 2, 3), certOf(a, 2)
		x.Att.By, y.Att.By = by, by
		l = append(l, x, y)
	}
	for _, tag := range []api.Hash{only(0), only(15), only(31), full(), tagOf(1, a)} {
		x := certOf(a, 1, 2)
		x.Att.Tag = tag
		l = append(l, x)
	}
	l = append(l, api.Cert{}, certOf(a), api.Cert{Att: a, Sigs: []api.Sig{}}, api.Cert{Sigs: []api.Sig{{By: 1}}})
	for _, bys := range [][]int{
		{0}, {-1}, {22}, {23}, {128}, {256}, {257}, {1<<32 + 1}, {math.MinInt}, {math.MaxInt},
		{0, 1}, {-1, 1}, {1, 0}, {1, 22}, {21, 22}, {1, 1}, {21, 21}, {2, 1}, {21, 1}, {1, 2, 2}, {1, 3, 2}, {2, 1, 3}, {1, 1, 2}, {1, 257}, {1, 2, math.MaxInt},
		upTo(22), upTo(23), upTo(130), append(upTo(21), 21), append(upTo(21), 1), append([]int{0}, upTo(21)...), append([]int{0}, upTo(20)...), append([]int{1}, upTo(21)...), slices.Repeat([]int{1}, 22),
	} {
		l = append(l, certOf(a, bys...))
	}
	return l
}

// Ce1: what is alike is so in all: the attestation, and who signed, and how; also where neither is right.
func TestSame(t *testing.T) {
	for _, c := range append(some(), without()...) {
		if x := copied(c); !Same(c, x) || !Same(x, c) || !Same(c, c) {
			t.Errorf("Same(%v, its copy): false", c)
		}
	}
	for _, c := range []api.Cert{certOf(base(), 1, 3), certOf(base()), {}, certOf(made(9, -4, full(), 7, rising()), 30, 2)} {
		for _, x := range turned(c) {
			if len(c.Sigs) == 0 && len(x.Sigs) == 0 && x.Att == c.Att {
				continue
			}
			if Same(c, x) || Same(x, c) {
				t.Errorf("Same(%v, %v)", c, x)
			}
		}
	}
	l := some()
	for i, a := range l {
		for j, b := range l {
			if Same(a, b) != (i == j) {
				t.Errorf("Same(%v, %v): %v", a, b, i != j)
			}
		}
	}
}

// Ce1, R5: no list, and an empty one, are the same.
func TestSameOfNone(t *testing.T) {
	a, b := certOf(base()), certOf(base())
	a.Sigs, b.Sigs = nil, make([]api.Sig, 0, 5)
	if !Same(a, b) || !Same(b, a) || !Same(api.Cert{}, api.Cert{Sigs: []api.Sig{}}) {
		t.Error("no list and an empty one are unlike")
	}
}

// Ce1: who signed, in the order of the signatures, also of what is not right.
func TestSigners(t *testing.T) {
	for _, bys := range [][]int{nil, {1}, {21}, {1, 3}, {3, 1}, {2, 2}, {0}, {-5, 22, math.MaxInt}, upTo(21), upTo(30)} {
		for _, a := range []api.Att{base(), {}, signed(9, base())} {
			if got := Signers(certOf(a, bys...)); !slices.Equal(got, bys) {
				t.Errorf("Signers of %v: %v", bys, got)
			}
		}
	}
	if got := Signers(api.Cert{Sigs: []api.Sig{}}); len(got) != 0 {
		t.Errorf("Signers of none: %v", got)
	}
}

// Ce2: the bytes stand behind those that were there, with whatever tags.
func TestPut(t *testing.T) {
	for _, c := range some() {
		want := written(c)
		for _, b := range [][]byte{nil, {}, {7}, {1, 2, 3}, bytes.Repeat([]byte{200}, 1000), want} {
			if got := Put(b, c); !bytes.Equal(got, append(bytes.Clone(b), want...)) {
				t.Errorf("Put(%d bytes, %v): %x", len(b), c, got)
			}
		}
	}
}

// Ce2: of one that has no bytes nothing is put.
func TestPutWrong(t *testing.T) {
	for _, c := range without() {
		for _, b := range [][]byte{nil, {}, {7}, {1, 2, 3}, written(two())} {
			if got := Put(b, c); !bytes.Equal(got, b) {
				t.Errorf("Put(%d bytes, %v): %x", len(b), c, got)
			}
		}
	}
}

// two is a certificate that has bytes, of two signers.
func two() api.Cert { return certOf(base(), 1, 2) }

// Ce2: what is read next, and nothing behind it.
func TestReadNext(t *testing.T) {
	for _, c := range some() {
		for _, more := range [][]byte{nil, {0}, {255}, {1, 1, 1, 1}, written(c), make([]byte, 300)} {
			r := octet.Read(append(written(c), more...))
			if got, ok := Read(r); !ok || !alike(got, c) || r.Left() != len(more) || r.Wrong() {
				t.Errorf("Read(%v, and %d bytes): %v, %v, left %d", c, len(more), got, ok, r.Left())
			}
		}
	}
}

// Ce2, Ce3: what is put is read, one behind the other, from wherever the reader stands.
func TestReadInTurn(t *testing.T) {
	b := octet.Num(nil, 300)
	for _, c := range some() {
		b = Put(b, c)
	}
	r := octet.Read(b)
	if n := r.Num(); n != 300 {
		t.Fatalf("the number ahead: %d", n)
	}
	for i, c := range some() {
		if got, ok := Read(r); !ok || !Same(got, c) || !alike(got, c) {
			t.Fatalf("%d: %v, %v, want %v", i, got, ok, c)
		}
	}
	if !r.Done() {
		t.Errorf("left %d, wrong %v", r.Left(), r.Wrong())
	}
	if c, ok := Read(r); ok || !reflect.DeepEqual(c, api.Cert{}) {
		t.Errorf("behind all: %v, %v", c, ok)
	}
}

// mustBeNone holds that no certificate is read.
func mustBeNone(t *testing.T, what string, b []byte) {
	t.Helper()
	if c, ok := Read(octet.Read(b)); ok || !reflect.DeepEqual(c, api.Cert{}) {
		t.Errorf("%s: Read(%x): %v, %v", what, b[:min(len(b), 120)], c, ok)
	}
}

// mustBeOwn holds that bytes begin with no certificate, or just with those that it is put as; it tells whether they do.
func mustBeOwn(t *testing.T, b []byte) bool {
	t.Helper()
	r := octet.Read(b)
	c, ok := Read(r)
	if !ok {
		if !reflect.DeepEqual(c, api.Cert{}) {
			t.Fatalf("%x: %v beside false", b, c)
		}
		return false
	}
	if own := b[:len(b)-r.Left()]; len(own) == 0 || !bytes.Equal(Put(nil, c), own) || !bytes.Equal(written(c), own) {
		t.Fatalf("%x is read as %v, which is put as %x", own, c, Put(nil, c))
	}
	return true
}

// Ce2: one that is cut is none: also where only a tag is not there, that could be nought.
func TestReadCut(t *testing.T) {
	for _, c := range some() {
		if len(c.Sigs) > 3 {
			continue
		}
		b := written(c)
		for cut := range b {
			mustBeNone(t, "cut", b[:cut])
		}
	}
	head := append([]byte{1, 1, 1}, make([]byte, 65)...)
	mustBeNone(t, "no signatures", head)
	mustBeNone(t, "no By", append(bytes.Clone(head), 1))
	mustBeNone(t, "no tag", append(bytes.Clone(head), 1, 1))
	mustBeNone(t, "half a tag", append(append(bytes.Clone(head), 1, 1), make([]byte, 16)...))
	mustBeNone(t, "one of two", append(append(bytes.Clone(head), 2, 1), make([]byte, 32)...))
	if !mustBeOwn(t, append(append(bytes.Clone(head), 1, 1), make([]byte, 32)...)) {
		t.Error("one with a zero tag is not read")
	}
}

// Ce2: bytes of one that would have none are none.
func TestReadWrong(t *testing.T) {
	for _, c := range without() {
		if c.Att.By != 0 || c.Att.Tag != (api.Hash{}) { // these have no bytes of their own
			continue
		}
		mustBeNone(t, "no bytes", written(c))
		mustBeNone(t, "no bytes, and more", append(written(c), make([]byte, 100)...))
	}
}

// parts are a certificate's bytes: its numbers' at 0, 1, 2, 4, 6, and from there on at each odd place, and hashes'.
func parts(c api.Cert) [][]byte {
	num := func(n int) []byte { return binary.AppendUvarint(nil, uint64(n)) }
	l := [][]byte{num(c.Att.Kind), num(c.Att.View), num(c.Att.Phase), c.Att.Hash[:], num(c.Att.PView), c.Att.PHash[:], num(len(c.Sigs))}
	for _, s := range c.Sigs {
		l = append(l, num(s.By), s.Tag[:])
	}
	return l
}

// Ce2: numbers that are too great are no smaller ones.
func TestReadGreat(t *testing.T) {
	c := certOf(made(3, 9, rising(), 8, full()), 1, 2)
	for _, n := range []uint64{1<<40 + 1, 1<<63 - 1, 1 << 63, 1<<63 + 1, 1<<63 + 2, 1<<63 + 9, math.MaxUint64 - 1, math.MaxUint64} {
		for _, at := range []int{0, 1, 2, 4, 6, 7, 9} {
			l := parts(c)
			l[at] = binary.AppendUvarint(nil, n)
			mustBeNone(t, "a great number", bytes.Join(l, nil))
		}
		l := parts(c)
		l[0] = binary.AppendUvarint(nil, n)
		l[2] = l[0]
		mustBeNone(t, "a great kind", bytes.Join(l, nil))
	}
}

// Ce2: how many signatures there are is told, by a number of 1 to MaxNodes.
func TestReadHowMany(t *testing.T) {
	for many := 0; many <= 300; many++ {
		l := parts(certOf(base(), upTo(21)...))
		l[6] = binary.AppendUvarint(nil, uint64(many))
		b := bytes.Join(l, nil)
		r := octet.Read(b)
		c, ok := Read(r)
		if ok != (1 <= many && many <= 21) || len(c.Sigs) != many && ok {
			t.Errorf("%d signatures: %v, %v", many, c, ok)
		}
		if ok && r.Left() != 33*(21-many) {
			t.Errorf("%d signatures: left %d", many, r.Left())
		}
	}
}

// Ce2: no other bytes are the same one's: a number with more bytes than it needs is none, wherever it stands.
func TestLongNumbers(t *testing.T) {
	for _, c := range []api.Cert{certOf(base(), 1, 21), certOf(made(1, 1, api.Hash{}, 0, api.Hash{}), 5, 6)} {
		for _, at := range []int{0, 1, 2, 4, 6, 7, 9} {
			l := parts(c)
			own, end := l[at], len(l[at])-1
			for _, more := range [][]byte{{0}, {128, 0}, {128, 128, 128, 0}} {
				long := append(bytes.Clone(own), more...)
				long[end] |= 128
				l[at] = long
				mustBeNone(t, "a long number", bytes.Join(l, nil))
			}
			l[at] = nil
			mustBeNone(t, "no number", bytes.Join(l, nil))
		}
	}
}

// Ce2, R1: of no reader, or one that is wrong, nothing is read.
func TestReadOfNobody(t *testing.T) {
	failed := octet.Read(append([]byte{128, 0}, written(two())...))
	failed.Num()
	for name, r := range map[string]*octet.Reader{
		"nil": nil, "zero": {}, "no bytes": octet.Read(nil), "wrong": failed,
	} {
		if c, ok := Read(r); ok || !reflect.DeepEqual(c, api.Cert{}) {
			t.Errorf("%s: %v, %v", name, c, ok)
		}
	}
}

// Ce2, Ce3: of bytes some of which are turned, taken away, or put between, those that are read are what is put of what was read.
func TestTurnedBytes(t *testing.T) {
	rnd := rand.New(rand.NewSource(4))
	many := 0
	for range 60 {
		for _, c := range some() {
			b := written(c)
			at := rnd.Intn(len(b))
			switch rnd.Intn(3) {
			case 0:
				at = rnd.Intn(9) // where the first numbers are
			case 1:
				at = len(b) - 33*(1+rnd.Intn(len(c.Sigs))) - rnd.Intn(2) // where a By is, or what is ahead of it
			}
			switch rnd.Intn(3) {
			case 0:
				b[at] = byte(rnd.Intn(24))
			case 1:
				b = append(b[:at], b[at+1:]...)
			case 2:
				b = append(b[:at+1], b[at:]...)
			}
			if mustBeOwn(t, b) {
				many++
			}
		}
	}
	if many == 0 {
		t.Error("none was read")
	}
}

// Ce2, Ce3: likewise of all small numbers where numbers are.
func TestSmallNumbers(t *testing.T) {
	many := 0
	for kind := range byte(5) {
		for view := range byte(4) {
			for phase := range byte(5) {
				for pview := range byte(5) {
					for sigs := range byte(4) {
						b := append([]byte{kind, view, phase}, make([]byte, 32)...)
						b = append(append(b, pview), make([]byte, 32)...)
						b = append(b, sigs)
						for i := range sigs {
							b = append(append(b, i+1), make([]byte, 32)...)
						}
						want := 1 <= kind && kind <= 3 && phase == kind && view >= 1 && sigs >= 1 && (pview < view || kind == 3 && pview == view)
						if mustBeOwn(t, b) != want {
							t.Errorf("kind %d, view %d, phase %d, prepared view %d, %d signatures: %v", kind, view, phase, pview, sigs, !want)
						}
						many++
					}
				}
			}
		}
	}
	if many != 2000 {
		t.Errorf("%d were asked for", many)
	}
}

// Ce2: likewise of all small By of two signatures.
func TestSmallBys(t *testing.T) {
	for one := range 130 {
		for two := range 130 {
			b := append([]byte{2, 3, 2}, make([]byte, 65)...)
			b = append(octet.Num(append(b, 2), uint64(one)), make([]byte, 32)...)
			b = append(octet.Num(b, uint64(two)), make([]byte, 32)...)
			if want := 1 <= one && one < two && two <= 21; mustBeOwn(t, b) != want {
				t.Errorf("the signers %d and %d: %v", one, two, !want)
			}
		}
	}
}

// Ce3: what is made is right, and what is put of it is read, and is right, by chance.
func TestByChance(t *testing.T) {
	rnd := rand.New(rand.NewSource(5))
	for range 400 {
		kind, view := 1+rnd.Intn(3), 1+rnd.Intn(1<<rnd.Intn(41))
		a := made(kind, view, api.Hash{}, rnd.Intn(view+kind/3), api.Hash{})
		rnd.Read(a.Hash[:])
		rnd.Read(a.PHash[:])
		n := odd()[rnd.Intn(11)]
		var bys []int
		for range 1 + rnd.Intn(30) {
			bys = append(bys, 1+rnd.Intn(n))
		}
		want := slices.Compact(slices.Sorted(slices.Values(bys)))
		if len(want) < n/2+1 {
			mustFail(t, "by chance", n, all(a, bys...), api.ErrNone)
			continue
		}
		mustMake(t, n, all(a, bys...), certOf(a, want[:n/2+1]...))
		c, _ := Make(n, all(a, bys...))
		r := octet.Read(Put(nil, c))
		if got, ok := Read(r); !ok || !r.Done() || !Same(got, c) || !Right(n, got) {
			t.Fatalf("%v is read as %v, %v", c, got, ok)
		}
	}
}

// Ce3: two right ones for the same n have a signer in common, of all that there are.
func TestSignerInCommon(t *testing.T) {
	a, b := base(), made(3, 7, full(), 2, rising())
	for _, n := range []int{1, 3, 5, 7, 9} {
		var sets [2][]uint
		for set := range uint(1 << n) {
			var bys []int
			for by := 1; by <= n; by++ {
				if set>>(by-1)&1 == 1 {
					bys = append(bys, by)
				}
			}
			for i, x := range []api.Att{a, b} {
				c := certOf(x, bys...)
				if !Right(n, c) {
					continue
				}
				var by uint
				for _, s := range Signers(c) {
					by |= 1 << (s - 1)
				}
				if bits.OnesCount(by) != n/2+1 {
					t.Fatalf("the signers of %v: %b", c, by)
				}
				sets[i] = append(sets[i], by)
			}
		}
		for _, x := range sets[0] {
			for _, y := range sets[1] {
				if x&y == 0 {
					t.Fatalf("of %d parts, %b and %b have none in common", n, x, y)
				}
			}
		}
		if len(sets[0]) == 0 || len(sets[0]) != len(sets[1]) {
			t.Errorf("of %d parts: %d and %d right ones", n, len(sets[0]), len(sets[1]))
		}
	}
}

// R3: nothing is written to what is handed in, nor to the room behind it; what is answered is new memory, also where nothing is put.
func TestPutIsNewMemory(t *testing.T) {
	room := []byte(strings.Repeat("room", 100))
	for _, c := range []api.Cert{two(), {}, certOf(base(), 2, 1), certOf(base())} {
		old := copied(c)
		for _, n := range []int{0, 1, 3, 399, 400} {
			b := bytes.Clone(room)
			got := Put(b[:n], c)
			again := Put(b[:n], c)
			got = append(got, 1, 2, 3)
			clear(got)
			if !bytes.Equal(b, room) || !alike(c, old) {
				t.Fatalf("Put(%d bytes, %v) writes to what it was handed, or shares memory with it", n, c)
			}
			clear(b)
			if !bytes.Equal(again, Put(room[:n], c)) {
				t.Errorf("Put(%d bytes, %v) hangs on what was handed in", n, c)
			}
		}
	}
}

// R3: what is made shares no memory with what it is made of, which stays as it was, its order too; nor with another one.
func TestMakeIsNewMemory(t *testing.T) {
	a := base()
	l := all(a, 3, 1, 2, 3)
	old := slices.Clone(l)
	c, e := Make(3, l)
	d, f := Make(3, l)
	if e != api.OK || f != api.OK || !slices.Equal(l, old) {
		t.Fatalf("errors %d, %d; %v", e, f, l)
	}
	clear(l)
	c.Sigs = append(c.Sigs, api.Sig{By: 9})
	clear(c.Sigs)
	if !alike(d, certOf(a, 1, 2)) {
		t.Errorf("shared: %v", d)
	}
	clear(d.Sigs[:cap(d.Sigs)])
	mustMake(t, 3, old, certOf(a, 1, 2))
}

// R3: who signed is new memory; what is asked of, and read of, stays as it was.
func TestAnswersAreNewMemory(t *testing.T) {
	c := two()
	s := Signers(c)
	clear(s[:cap(s)])
	other := certOf(base(), 2, 1)
	old := copied(other)
	Right(3, other)
	Same(other, c)
	if !alike(c, two()) || !slices.Equal(Signers(c), []int{1, 2}) || !alike(other, old) {
		t.Errorf("shared: %v, %v", c, other)
	}
	b := append(written(c), written(c)...)
	was := bytes.Clone(b)
	r := octet.Read(b)
	x, ok := Read(r)
	clear(x.Sigs[:cap(x.Sigs)])
	y, there := Read(r)
	if !ok || !there || !alike(y, c) || !bytes.Equal(b, was) {
		t.Errorf("shared: %v, %v, %v", y, ok, there)
	}
}

// R4: an answer hangs on its arguments alone.
func TestNothingIsKept(t *testing.T) {
	other := made(1, 77, full(), 70, rising())
	for _, a := range bases() {
		Make(5, all(other, 5, 4, 3))
		Make(3, all(other, 4))
		Right(5, certOf(other, 3, 4, 5))
		Put([]byte("other"), certOf(other, 3, 4, 5))
		Read(octet.Read(written(certOf(other, 3, 4, 5))))
		Signers(certOf(other, 7))
		c := certOf(a, 1, 2)
		mustMake(t, 3, all(a, 2, 1), c)
		if !Right(3, c) || Right(3, certOf(a, 1)) || !bytes.Equal(Put(nil, c), written(c)) || !slices.Equal(Signers(c), []int{1, 2}) {
			t.Errorf("answers hang on the calls ahead: %v", a)
		}
	}
}
