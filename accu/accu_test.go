package accu

import (
	"bytes"
	"crypto/hmac"
	"crypto/sha256"
	"encoding/binary"
	"encoding/hex"
	"math"
	"math/rand"
	"reflect"
	"slices"
	"strings"
	"testing"

	"tithing/api"
	"tithing/att"
	"tithing/keys"
	"tithing/octet"
)

// rising is a hash of 32 unlike bytes, full one of bytes 255, of one that is nought but for its last byte.
func rising() (h api.Hash) {
	for i := range h {
		h[i] = byte(i + 1)
	}
	return h
}

func full() (h api.Hash) {
	for i := range h {
		h[i] = 255
	}
	return h
}

func of(n int) (h api.Hash) {
	h[31] = byte(n)
	return h
}

// upTo are the numbers from 1 on.
func upTo(n int) []int {
	l := make([]int, n)
	for i := range l {
		l[i] = i + 1
	}
	return l
}

// odd are the numbers of parts of which there is a quorum; notOdd are some of which there is none.
func odd() []int { return []int{1, 3, 5, 7, 9, 11, 13, 15, 17, 19, 21} }

func notOdd() []int {
	l := []int{math.MinInt, math.MinInt + 1, -1 << 40, -256, -21, -3, -2, -1, 0, 22, 23, 24, 25, 41, 42, 43, 127, 128, 129, 255, 256, 257, 259, 1<<32 + 3, 1<<40 + 3, math.MaxInt - 1, math.MaxInt}
	for n := 2; n <= 20; n += 2 {
		l = append(l, n)
	}
	return l
}

// num is bytes with a number's behind, by the library.
func num(b []byte, n int) []byte { return binary.AppendUvarint(b, uint64(n)) }

// tag is a part's tag by the library, also where there is no such part.
func tag(by int, domain byte, b []byte) api.Hash {
	key := sha256.Sum256(append([]byte("tithing key "), byte(by)))
	m := hmac.New(sha256.New, key[:])
	m.Write([]byte{domain})
	m.Write(b)
	return api.Hash(m.Sum(nil))
}

// signed is an attestation with its tag by the library, also one that may not be.
func signed(a api.Att) api.Att {
	b := append(num(num(num(nil, a.Kind), a.View), a.Phase), a.Hash[:]...)
	b = append(num(b, a.PView), a.PHash[:]...)
	a.Tag = tag(a.By, 1, b)
	return a
}

// told is what a part attests for a view, of its last prepared block.
func told(by, view, pview int, phash api.Hash) api.Att {
	return signed(api.Att{By: by, Kind: api.AttNew, View: view, Phase: api.AttNew, PView: pview, PHash: phash})
}

// said is what is tagged of an accumulation by the library, also of one that may not be.
func said(a api.Accu) []byte {
	b := append(num(num(nil, a.View), a.PView), a.PHash[:]...)
	b = num(b, len(a.Froms))
	for _, from := range a.Froms {
		b = num(b, from)
	}
	return b
}

// accuOf is an accumulation with its tag by the library, whatever it is.
func accuOf(by, view, pview int, phash api.Hash, froms ...int) api.Accu {
	return ownTag(api.Accu{By: by, View: view, PView: pview, PHash: phash, Froms: froms})
}

// ownTag is an accumulation with its own tag by the library.
func ownTag(a api.Accu) api.Accu {
	a.Tag = tag(a.By, 2, said(a))
	return a
}

// written is an accumulation's bytes by the library, also of one that has none.
func written(a api.Accu) []byte { return append(append(num(nil, a.By), said(a)...), a.Tag[:]...) }

// copied is an accumulation in new memory.
func copied(a api.Accu) api.Accu {
	a.Froms = slices.Clone(a.Froms)
	return a
}

// alike tells whether accumulations are, with no list and an empty one the same.
func alike(a, b api.Accu) bool {
	if len(a.Froms) == 0 && len(b.Froms) == 0 {
		a.Froms, b.Froms = nil, nil
	}
	return reflect.DeepEqual(a, b)
}

// shuffled are those in another order.
func shuffled[T any](rnd *rand.Rand, l []T) []T {
	l = slices.Clone(l)
	rnd.Shuffle(len(l), func(i, j int) { l[i], l[j] = l[j], l[i] })
	return l
}

// ordered are all orders of some things.
func ordered[T any](l []T) [][]T {
	if len(l) == 0 {
		return [][]T{nil}
	}
	var all [][]T
	for i := range l {
		for _, rest := range ordered(slices.Delete(slices.Clone(l), i, i+1)) {
			all = append(all, append([]T{l[i]}, rest...))
		}
	}
	return all
}

// mustMake holds that an accumulation is made, and that it is right.
func mustMake(t *testing.T, n int, l []api.Att, want api.Accu) {
	t.Helper()
	a, e := Make(want.By, n, want.View, l)
	if e != api.OK || !alike(a, want) {
		t.Errorf("Make(%d, %d, %d, %v): %v, error %d, want %v", want.By, n, want.View, l, a, e, want)
	}
	if !Right(n, a) {
		t.Errorf("Right(%d, %v): false", n, a)
	}
}

// mustFail holds that none is made, for that reason.
func mustFail(t *testing.T, what string, by, n, view int, l []api.Att, want api.Errno) {
	t.Helper()
	a, e := Make(by, n, view, l)
	if e != want || !reflect.DeepEqual(a, api.Accu{}) {
		t.Errorf("%s: Make(%d, %d, %d, of %d attestations): %v, error %d, want %d", what, by, n, view, len(l), a, e, want)
	}
}

// each are what parts attest, all of one prepared block.
func each(view, pview int, phash api.Hash, bys ...int) []api.Att {
	var l []api.Att
	for _, by := range bys {
		l = append(l, told(by, view, pview, phash))
	}
	return l
}

// Ac1, Ac2: tags and bytes that were worked out elsewhere (of the longer ones their sums).
func TestTold(t *testing.T) {
	var none api.Hash
	nought := strings.Repeat("00", 32)
	for _, c := range []struct {
		by, n, view int
		l           []api.Att
		want, sum   string
	}{
		{1, 1, 1, []api.Att{{By: 1}},
			"010100" + nought + "01018da60b483b65a511760ed0e465f6cb8c9d18bf1de460fb45f2eb0ebe38e24ae5",
			"7a930003483597cfb42f99c7eecacba5a3cd4c76ba44a918fe7eac0a7b17aa81"},
		{3, 3, 3, []api.Att{{By: 2, PView: 2}, {By: 1, PHash: full()}},
			"030302" + nought + "020102f0a1119f1a53b0b8984802f19b0d722df9f1a377053a62bab57b6993c831eb1b",
			"968330dad64084fdaeea4d1992534ea2388d0f3696dfc8f19360ef04964d312b"},
		{5, 5, 300, []api.Att{{By: 5, PView: 299, PHash: rising()}, {By: 4, PView: 299, PHash: full()}, {By: 2, PView: 298, PHash: rising()}},
			"05ac02ab02" + strings.Repeat("ff", 32) + "03020405ac5032678ed1a83163b8da7bed3d8e7ba8f397f980d0412f717194aef9e438e0",
			"c4b64a65398d6b97c16d109c2ae65b5a7bda57695221561808ec65aa0d7319b1"},
		{21, 21, 1 << 40, []api.Att{{By: 21}, {By: 3}, {By: 19}, {By: 1}, {By: 17}, {By: 5, PView: 1<<40 - 2}, {By: 15}, {By: 13}, {By: 7, PView: 1<<40 - 1, PHash: rising()}, {By: 11, PView: 1<<40 - 1}, {By: 9}},
			"", "deb2dc6aa7c2e6a659837107532a46998ec7de8601d7268057989f48d92959ef"},
	} {
		var l []api.Att
		for _, a := range c.l {
			a.Kind, a.Phase, a.View = api.AttNew, api.AttNew, c.view
			l = append(l, att.Sign(a))
		}
		a, e := Make(c.by, c.n, c.view, l)
		b := Put(nil, a)
		if sum := sha256.Sum256(b); e != api.OK || none == a.Tag || hex.EncodeToString(sum[:]) != c.sum {
			t.Errorf("Make(%d, %d, %d, ..): error %d; its bytes: %x", c.by, c.n, c.view, e, b)
		}
		if c.want != "" && hex.EncodeToString(b) != c.want {
			t.Errorf("Put: %x, want %s", b, c.want)
		}
		if got, ok := Read(octet.Read(b)); !ok || !alike(got, a) || !Right(c.n, got) {
			t.Errorf("Read(%x): %v, %v", b, got, ok)
		}
	}
}

// Ac1: by any part, of just a quorum's, for each number of parts, in any order; who accumulates need not attest.
func TestMake(t *testing.T) {
	rnd := rand.New(rand.NewSource(1))
	for _, n := range odd() {
		for by := 1; by <= n; by++ {
			for _, view := range []int{1, 2, 128, 1 << 40} {
				bys := shuffled(rnd, upTo(n))[:n/2+1]
				want := accuOf(by, view, view-1, rising(), slices.Sorted(slices.Values(bys))...)
				mustMake(t, n, each(view, view-1, rising(), bys...), want)
			}
		}
	}
}

// Ac1: of all prepared views of three parts, with unlike blocks, in all orders: the first one, by By, of the greatest.
func TestMakeHighest(t *testing.T) {
	bys := []int{1, 3, 4}
	for views := range 4 * 4 * 4 {
		l := []api.Att{}
		most, at := -1, 0
		for i, by := range bys {
			pview := views >> (2 * i) & 3
			l = append(l, told(by, 4, pview, of(by)))
			if pview > most {
				most, at = pview, by
			}
		}
		want := accuOf(2, 4, most, of(at), bys...)
		for _, x := range ordered(l) {
			mustMake(t, 5, x, want)
		}
	}
}

// Ac1: the greatest is found wherever it stands, among many; views are held against each other as numbers.
func TestMakeHighestOfMany(t *testing.T) {
	rnd := rand.New(rand.NewSource(2))
	const view = 1 << 40
	for at := 1; at <= 11; at++ {
		for _, pview := range []int{1, 128, 300, 1 << 32, 1<<32 + 1, 1<<40 - 1} {
			l := each(view, pview-1, full(), upTo(11)...)
			l[at-1] = told(at, view, pview, rising())
			mustMake(t, 21, shuffled(rnd, l), accuOf(12, view, pview, rising(), upTo(11)...))
		}
	}
}

// Ac1: of more than a quorum's the lowest By count, in whichever order they come, also where another one tells of a greater view.
func TestMakeLowest(t *testing.T) {
	rnd := rand.New(rand.NewSource(3))
	for _, n := range odd() {
		for range 10 {
			bys := slices.Sorted(slices.Values(shuffled(rnd, upTo(n))[:n/2+1+rnd.Intn(n-n/2)]))
			var l []api.Att
			for i, by := range bys {
				l = append(l, told(by, 99, i, of(i)))
			}
			want := accuOf(n, 99, n/2, of(n/2), bys[:n/2+1]...)
			mustMake(t, n, l, want)
			mustMake(t, n, shuffled(rnd, l), want)
			slices.Reverse(l)
			mustMake(t, n, l, want)
		}
	}
	mustMake(t, 3, []api.Att{told(3, 9, 8, of(3)), told(2, 9, 0, of(2)), told(1, 9, 1, of(1))}, accuOf(3, 9, 1, of(1), 1, 2))
}

// Ac1: of one By the first one in the list counts, also where a later one tells of a greater view, or of another block.
func TestMakeFirst(t *testing.T) {
	low, high := told(1, 9, 2, of(1)), told(1, 9, 7, of(2))
	two := told(2, 9, 4, of(3))
	for _, c := range []struct {
		l    []api.Att
		want api.Accu
	}{
		{[]api.Att{low, high, two}, accuOf(2, 9, 4, of(3), 1, 2)},
		{[]api.Att{low, two, high}, accuOf(2, 9, 4, of(3), 1, 2)},
		{[]api.Att{two, low, high}, accuOf(2, 9, 4, of(3), 1, 2)},
		{[]api.Att{high, low, two}, accuOf(2, 9, 7, of(2), 1, 2)},
		{[]api.Att{high, two, low}, accuOf(2, 9, 7, of(2), 1, 2)},
		{[]api.Att{two, high, low, low, two}, accuOf(2, 9, 7, of(2), 1, 2)},
		{[]api.Att{two, told(2, 9, 8, of(4)), low, high}, accuOf(2, 9, 4, of(3), 1, 2)},
		{[]api.Att{told(1, 9, 4, of(5)), told(1, 9, 4, of(6)), two}, accuOf(2, 9, 4, of(5), 1, 2)},
	} {
		mustMake(t, 3, c.l, c.want)
	}
	for _, n := range odd() {
		l := each(9, 3, of(3), upTo(n)...)
		l = append(l, each(9, 8, of(8), upTo(n)...)...)
		mustMake(t, n, l, accuOf(1, 9, 3, of(3), upTo(n/2+1)...))
	}
	mustMake(t, 1, slices.Repeat([]api.Att{high}, 1000), accuOf(1, 9, 7, of(2), 1))
}

// Ac1: which Hash is attested besides does not matter.
func TestMakeHash(t *testing.T) {
	l := each(9, 3, of(3), 1, 2)
	l[0].Hash, l[1].Hash = full(), rising()
	mustMake(t, 3, []api.Att{signed(l[0]), signed(l[1])}, accuOf(3, 9, 3, of(3), 1, 2))
}

// lists are a few lists of attestations for view 9: enough, too few, none, and wrong ones.
func lists() [][]api.Att {
	return [][]api.Att{nil, {}, each(9, 3, of(3), upTo(21)...), each(9, 3, of(3), 1), {{}}, each(9, 3, of(3), 22), each(8, 3, of(3), 1, 2), {{By: 1, Kind: 1, View: 9, Phase: 1}}}
}

// Ac1: without a quorum of n, or such a part, or such a view, there is none, whatever else is wrong.
func TestMakeArg(t *testing.T) {
	for _, l := range lists() {
		for _, n := range notOdd() {
			for _, by := range []int{1, 0, n, 22} {
				mustFail(t, "no quorum", by, n, 9, l, api.ErrArg)
				mustFail(t, "no quorum, no view", by, n, 0, l, api.ErrArg)
			}
		}
		for _, n := range odd() {
			for _, by := range []int{math.MinInt, -256, -1, 0, n + 1, n + 2, 22, 255, 256, 257, 1<<32 + 1, math.MaxInt} {
				mustFail(t, "no such part", by, n, 9, l, api.ErrArg)
			}
			for _, view := range []int{math.MinInt, -9, -1, 0, 1<<40 + 1, 1 << 62, math.MaxInt} {
				mustFail(t, "no such view", 1, n, view, l, api.ErrArg)
				mustFail(t, "no such view, nor part", n+1, n, view, l, api.ErrArg)
			}
		}
	}
	for _, view := range []int{math.MinInt, -1, 0, 1<<40 + 1, math.MaxInt} { // also where they are of just that view
		mustFail(t, "no such view", 1, 3, view, each(view, 0, of(3), 1, 2), api.ErrArg)
	}
}

// wrong are attestations that do not count for view 9 and three parts: with the tag that they would have, most of them for one reason alone; and with the tag of a good one.
func wrong() []api.Att {
	good := told(2, 9, 3, of(3))
	var l []api.Att
	add := func(turn func(*api.Att)) {
		a := good
		turn(&a)
		l = append(l, a, signed(a))
	}
	for _, kind := range []int{2, 3, 0, -1, 4, 257, math.MinInt, math.MaxInt} {
		add(func(a *api.Att) { a.Kind, a.Phase = kind, kind })
		add(func(a *api.Att) { a.Kind = kind })
		add(func(a *api.Att) { a.Phase = kind })
	}
	for _, view := range []int{8, 10, 300, 9 + 1<<32, 1 << 40, 1<<40 + 1, 0, -9, math.MaxInt} {
		add(func(a *api.Att) { a.View = view })
	}
	for _, by := range []int{4, 5, 21, 22, 0, -1, 258, math.MinInt, math.MaxInt} {
		add(func(a *api.Att) { a.By = by })
	}
	for _, pview := range []int{9, 10, -1, 1 << 40, math.MinInt, math.MaxInt} {
		add(func(a *api.Att) { a.PView = pview })
	}
	bits := func(turn func(*api.Att, int, byte)) {
		for i := range 256 {
			a := good
			turn(&a, i/8, 1<<(i%8))
			l = append(l, a)
		}
	}
	bits(func(a *api.Att, at int, bit byte) { a.Tag[at] ^= bit })
	bits(func(a *api.Att, at int, bit byte) { a.Hash[at] ^= bit })
	bits(func(a *api.Att, at int, bit byte) { a.PHash[at] ^= bit })
	one, three, four := good, good, good
	one.By, three.By, four.PView = 1, 3, 4
	l = append(l, one, three, four, api.Att{}, api.Att{By: 2}, api.Att{By: 2, Kind: 1, View: 9, Phase: 1})
	other := good
	other.Tag = tag(2, 2, nil)
	return append(l, other)
}

// Ac1: one that does not count is told, wherever it stands, also where others would be enough, or too few.
func TestMakeTag(t *testing.T) {
	for _, w := range wrong() {
		for _, l := range [][]api.Att{nil, each(9, 3, of(3), 1), each(9, 8, of(8), 1, 2, 3)} {
			for at := range len(l) + 1 {
				mustFail(t, "a wrong one", 1, 3, 9, slices.Insert(slices.Clone(l), at, w), api.ErrTag)
			}
		}
	}
	a := told(2, 9, 3, of(3))
	a.Kind, a.Phase = api.AttPrep, api.AttPrep
	mustFail(t, "votes", 1, 3, 9, []api.Att{signed(a), told(1, 9, 3, of(3))}, api.ErrTag)
	mustFail(t, "all of another view", 1, 3, 9, each(8, 3, of(3), 1, 2, 3), api.ErrTag)
	mustFail(t, "one of another view", 1, 1, 9, each(10, 3, of(3), 1), api.ErrTag)
}

// Ac1: one whose By is above n is told likewise.
func TestMakeAbove(t *testing.T) {
	for _, n := range odd() {
		for by := n + 1; by <= 21; by++ {
			above, some := each(9, 3, of(3), by), each(9, 3, of(3), upTo(n)...)
			mustFail(t, "alone", 1, n, 9, above, api.ErrTag)
			mustFail(t, "ahead", 1, n, 9, slices.Concat(above, some), api.ErrTag)
			mustFail(t, "behind", 1, n, 9, slices.Concat(some, above), api.ErrTag)
		}
	}
}

// Ac1: fewer By than the quorum are too few, however often they come; so is none.
func TestMakeFew(t *testing.T) {
	rnd := rand.New(rand.NewSource(4))
	for _, n := range odd() {
		mustFail(t, "nil", n, n, 9, nil, api.ErrNone)
		mustFail(t, "empty", n, n, 9, []api.Att{}, api.ErrNone)
		mustFail(t, "empty, with room", n, n, 9, each(9, 3, of(3), 1)[:0], api.ErrNone)
		for many := 1; many <= n/2; many++ {
			bys := shuffled(rnd, upTo(n))[:many]
			mustFail(t, "few", 1, n, 9, each(9, 3, of(3), bys...), api.ErrNone)
			mustFail(t, "few, and often", n, n, 9, each(9, 3, of(3), slices.Repeat(bys, 4)...), api.ErrNone)
			mustFail(t, "few, of unlike views", n, n, 9, append(each(9, 3, of(3), bys...), each(9, 4, of(4), bys...)...), api.ErrNone)
		}
	}
}

// expected is what the document tells of Make: by sorting, and sieving what is not asked for.
func expected(by, n, view int, l []api.Att) (api.Accu, api.Errno) {
	if !slices.Contains(odd(), n) || by < 1 || by > n || view < 1 || view > 1<<40 {
		return api.Accu{}, api.ErrArg
	}
	for _, a := range l {
		if a != signed(a) || a.By < 1 || a.By > n || a.Kind != 1 || a.Phase != 1 || a.View != view || a.PView < 0 || a.PView >= view {
			return api.Accu{}, api.ErrTag
		}
	}
	sorted := slices.Clone(l)
	slices.SortStableFunc(sorted, func(a, b api.Att) int { return a.By - b.By })
	sorted = slices.CompactFunc(sorted, func(a, b api.Att) bool { return a.By == b.By })
	if len(sorted) < n/2+1 {
		return api.Accu{}, api.ErrNone
	}
	var froms []int
	for _, a := range sorted[:n/2+1] {
		froms = append(froms, a.By)
	}
	top := sorted[:n/2+1]
	slices.SortStableFunc(top, func(a, b api.Att) int { return b.PView - a.PView })
	return accuOf(by, view, top[0].PView, top[0].PHash, froms...), api.OK
}

// Ac1, Ac3: by chance, right and wrong; what is made is right, has no lesser view than any that it was made of, and is read again.
func TestByChance(t *testing.T) {
	rnd := rand.New(rand.NewSource(5))
	many := map[api.Errno]int{}
	for range 3000 {
		n, view := odd()[rnd.Intn(11)], 1+rnd.Intn(6)
		by := 1 + rnd.Intn(n)
		var l []api.Att
		for range rnd.Intn(2 * n) {
			l = append(l, told(1+rnd.Intn(n), view, rnd.Intn(view), of(rnd.Intn(3))))
		}
		switch rnd.Intn(20) {
		case 0:
			n += rnd.Intn(5) - 2
		case 1:
			by = rnd.Intn(25)
		case 2:
			view += rnd.Intn(3) - 1
		case 3:
			l = append(l, told(rnd.Intn(23), view, rnd.Intn(view+1), of(1)))
		}
		want, e := expected(by, n, view, l)
		many[e]++
		if e != api.OK {
			mustFail(t, "by chance", by, n, view, l, e)
			continue
		}
		mustMake(t, n, l, want)
		a, _ := Make(by, n, view, l)
		for _, x := range l {
			first := slices.IndexFunc(l, func(y api.Att) bool { return y.By == x.By })
			if slices.Contains(a.Froms, x.By) && l[first].PView > a.PView {
				t.Errorf("%v has a lesser view than %v", a, l[first])
			}
		}
		r := octet.Read(Put(nil, a))
		if got, ok := Read(r); !ok || !r.Done() || !Same(got, a) || !alike(got, a) || !Right(n, got) {
			t.Fatalf("%v is read as %v, %v", a, got, ok)
		}
	}
	for _, e := range []api.Errno{api.OK, api.ErrArg, api.ErrTag, api.ErrNone} {
		if many[e] < 20 {
			t.Errorf("error %d: %d times alone", e, many[e])
		}
	}
}

// Ac1: for which n an accumulation is right.
func TestRight(t *testing.T) {
	for _, n := range odd() {
		for by := 1; by <= n; by++ {
			for _, a := range []api.Accu{accuOf(by, 1, 0, api.Hash{}, upTo(n)[n/2:]...), accuOf(by, 1<<40, 1<<40-1, full(), upTo(n/2+1)...), accuOf(by, 9, 0, rising(), upTo(n)[n/2:]...)} {
				if !Right(n, a) {
					t.Errorf("Right(%d, %v): false", n, a)
				}
				for m := -1; m <= 24; m++ {
					if m != n && Right(m, a) {
						t.Errorf("Right(%d, %v)", m, a)
					}
				}
				for _, m := range notOdd() {
					if Right(m, a) {
						t.Errorf("Right(%d, %v)", m, a)
					}
				}
			}
		}
	}
}

// Ac1: of all sets of Froms, just the quorums of parts that there are.
func TestRightSets(t *testing.T) {
	for n := -1; n <= 8; n++ {
		for set := range 1 << 9 {
			var froms []int
			for from := range 9 {
				if set>>from&1 == 1 {
					froms = append(froms, from)
				}
			}
			want := n > 0 && n%2 == 1 && len(froms) == n/2+1 && froms[0] > 0 && froms[len(froms)-1] <= n
			if a := accuOf(1, 9, 3, of(3), froms...); Right(n, a) != want {
				t.Errorf("Right(%d, of %v): %v", n, froms, !want)
			}
		}
	}
}

// Ac1: one with too few Froms, too many, or none is not right; nor is By above n.
func TestRightHowMany(t *testing.T) {
	for _, n := range odd() {
		for many := 0; many <= 22; many++ {
			if a := accuOf(1, 9, 3, of(3), upTo(many)...); Right(n, a) != (many == n/2+1) {
				t.Errorf("Right(%d, with %d Froms): %v", n, many, many != n/2+1)
			}
		}
		for by := -1; by <= 23; by++ {
			if a := accuOf(by, 9, 3, of(3), upTo(n/2+1)...); Right(n, a) != (1 <= by && by <= n) {
				t.Errorf("Right(%d, by %d): %v", n, by, by < 1 || by > n)
			}
		}
	}
	for _, n := range append(notOdd(), odd()...) {
		for _, a := range []api.Accu{{}, {Froms: []int{}}, {By: 1, View: 1}, {By: 1, View: 1, Froms: []int{1}}, {Froms: make([]int, 1)}, {Froms: make([]int, 2)}, accuOf(0, 0, 0, api.Hash{}), accuOf(1, 9, 3, of(3))} {
			if Right(n, a) {
				t.Errorf("Right(%d, %v)", n, a)
			}
		}
	}
}

// Ac1: Froms do not fall, nor stay.
func TestRightOrder(t *testing.T) {
	for _, froms := range [][]int{{2, 1}, {1, 1}, {2, 2}, {3, 1}, {3, 3}, {0, 1}, {1, 0}, {-1, 1}, {1, 4}, {3, 4}, {1, 257}, {2, 258}, {1, math.MaxInt}, {math.MinInt, 1}} {
		if Right(3, accuOf(1, 9, 3, of(3), froms...)) {
			t.Errorf("Right(3, of %v)", froms)
		}
	}
	for _, froms := range ordered([]int{1, 3, 5}) {
		if Right(5, accuOf(1, 9, 3, of(3), froms...)) != slices.IsSorted(froms) {
			t.Errorf("Right(5, of %v): %v", froms, !slices.IsSorted(froms))
		}
	}
}

// turned are accumulations that are like a in all but one thing, with a's tag where that is not the thing.
func turned(a api.Accu) []api.Accu {
	var l []api.Accu
	add := func(turn func(*api.Accu)) {
		x := copied(a)
		turn(&x)
		l = append(l, x)
	}
	for _, n := range []int{-1, 1, 2, 256, 1 << 32, math.MinInt} {
		add(func(x *api.Accu) { x.By += n })
		add(func(x *api.Accu) { x.View += n })
		add(func(x *api.Accu) { x.PView += n })
		for i := range a.Froms {
			add(func(x *api.Accu) { x.Froms[i] += n })
		}
	}
	for i := range 256 {
		at, bit := i/8, byte(1)<<(i%8)
		add(func(x *api.Accu) { x.PHash[at] ^= bit })
		add(func(x *api.Accu) { x.Tag[at] ^= bit })
	}
	for i := range a.Froms {
		add(func(x *api.Accu) { x.Froms = slices.Delete(x.Froms, i, i+1) })
		add(func(x *api.Accu) { x.Froms = slices.Insert(x.Froms, i, x.Froms[i]) })
		for j := range i {
			add(func(x *api.Accu) { x.Froms[i], x.Froms[j] = x.Froms[j], x.Froms[i] })
		}
	}
	add(func(x *api.Accu) { x.Froms = append(x.Froms, 0) })
	add(func(x *api.Accu) { x.Froms = append(x.Froms, 21) })
	return l
}

// Ac1: each thing of an accumulation counts.
func TestRightTurned(t *testing.T) {
	for _, a := range []api.Accu{accuOf(2, 300, 200, rising(), 1, 3), accuOf(1, 2, 1, full(), 2, 3), accuOf(3, 1<<40, 1, of(0), 1, 2)} {
		if !Right(3, a) {
			t.Errorf("Right(3, %v): false", a)
		}
		for _, x := range append(turned(a), api.Accu{By: a.By, View: a.View, PView: a.PView, PHash: a.PHash, Tag: a.Tag}) {
			if Right(3, x) {
				t.Errorf("Right(3, %v)", x)
			}
		}
	}
}

// Ac1: with another domain's tag, another part's, of other bytes, or none, it is not right.
func TestOtherTags(t *testing.T) {
	a := accuOf(2, 300, 200, rising(), 1, 3)
	b := said(a)
	tags := []api.Hash{{}, full(), api.Hash(sha256.Sum256(b)), keys.Key(2), a.PHash, keys.Tag(2, 2), keys.Tag(2, 2, written(a)), tag(2, 2, b[1:]), tag(2, 2, append([]byte{2}, b...))}
	for domain := range 256 {
		if domain != 2 {
			tags = append(tags, tag(2, byte(domain), b))
		}
	}
	for by := range 30 {
		if by != 2 {
			tags = append(tags, tag(by, 2, b))
		}
	}
	for _, other := range tags {
		x := copied(a)
		x.Tag = other
		if Right(3, x) {
			t.Errorf("Right(3, %v)", x)
		}
	}
	if !Right(3, a) || a.Tag != keys.Tag(2, 2, b) {
		t.Error("its own tag is not right, or not layer 4's")
	}
}

// good are accumulations that may be, at all edges, with all kinds of tags.
func good() []api.Accu {
	var l []api.Accu
	for _, by := range []int{1, 2, 20, 21} {
		for _, v := range [][2]int{{1, 0}, {2, 0}, {2, 1}, {128, 127}, {300, 128}, {1 << 40, 0}, {1 << 40, 1<<40 - 1}} {
			for _, froms := range [][]int{{1}, {21}, {1, 2}, {1, 21}, {20, 21}, {2, 5, 9}, upTo(20), upTo(21)} {
				a := accuOf(by, v[0], v[1], rising(), froms...)
				zero, ones := copied(a), copied(a)
				zero.Tag, zero.PHash = api.Hash{}, full()
				ones.Tag, ones.PHash = full(), api.Hash{}
				l = append(l, a, zero, ones)
			}
		}
	}
	return l
}

// base is one that may be, all things of which are unlike nought.
func base() api.Accu { return accuOf(2, 300, 200, rising(), 1, 3) }

// bad are accumulations that may not be, most of them for one reason alone, with the tags that they would have.
func bad() []api.Accu {
	var l []api.Accu
	add := func(turn func(*api.Accu)) {
		a := base()
		turn(&a)
		l = append(l, ownTag(a))
	}
	for _, by := range []int{math.MinInt, -256, -1, 0, 22, 23, 255, 256, 257, 258, 1<<32 + 2, math.MaxInt} {
		add(func(a *api.Accu) { a.By = by })
	}
	for _, view := range []int{math.MinInt, -300, -1, 0, 1<<40 + 1, 1 << 62, math.MaxInt} {
		add(func(a *api.Accu) { a.View = view })
		add(func(a *api.Accu) { a.View, a.PView = view, 0 })
		add(func(a *api.Accu) { a.View, a.PView = view, view-1 })
	}
	for _, pview := range []int{math.MinInt, -1, 300, 301, 1 << 40, 1<<40 + 1, math.MaxInt} {
		add(func(a *api.Accu) { a.PView = pview })
	}
	add(func(a *api.Accu) { a.View, a.PView = 1, 1 })
	add(func(a *api.Accu) { a.View, a.PView = 1<<40, 1<<40 })
	for _, froms := range [][]int{
		nil, {}, {0}, {-1}, {22}, {23}, {128}, {256}, {257}, {1<<32 + 1}, {math.MinInt}, {math.MaxInt},
		{0, 1}, {-1, 1}, {1, 0}, {1, 22}, {21, 22}, {1, 1}, {21, 21}, {2, 1}, {21, 1}, {1, 2, 2}, {1, 3, 2}, {2, 1, 3}, {1, 1, 2}, {1, 257}, {1, 2, math.MaxInt},
		upTo(22), upTo(23), upTo(130), append(upTo(21), 21), append(upTo(21), 1), append([]int{0}, upTo(21)...), append([]int{0}, upTo(20)...), append([]int{1}, upTo(21)...), slices.Repeat([]int{1}, 22),
	} {
		add(func(a *api.Accu) { a.Froms = froms })
	}
	return append(l, api.Accu{}, api.Accu{By: 1, View: 1}, api.Accu{Froms: []int{1}})
}

// Ac1: one that may not be is not right, for no n, not even with the tag that it would have.
func TestRightBad(t *testing.T) {
	for _, a := range bad() {
		for _, n := range append(odd(), notOdd()...) {
			if Right(n, a) {
				t.Errorf("Right(%d, %v)", n, a)
			}
		}
	}
}

// Ac1: what is alike is so in all, also who, and the tag; also where neither may be.
func TestSame(t *testing.T) {
	for _, a := range append(good(), bad()...) {
		if x := copied(a); !Same(a, x) || !Same(x, a) || !Same(a, a) {
			t.Errorf("Same(%v, its copy): false", a)
		}
	}
	for _, a := range []api.Accu{base(), accuOf(1, 1, 0, of(0), 7), {}, accuOf(30, -4, 9, full(), 2, 2, 40)} {
		for _, x := range turned(a) {
			if alike(a, x) { // two equal Froms the other way round
				continue
			}
			if Same(a, x) || Same(x, a) {
				t.Errorf("Same(%v, %v)", a, x)
			}
		}
	}
	l := good()
	for i, a := range l {
		for j, b := range l {
			if Same(a, b) != (i == j) {
				t.Fatalf("Same(%v, %v): %v", a, b, i != j)
			}
		}
	}
}

// Ac1, R5: no list, and an empty one, are the same.
func TestSameOfNone(t *testing.T) {
	a, b := base(), base()
	a.Froms, b.Froms = nil, make([]int, 0, 5)
	if !Same(a, b) || !Same(b, a) || !Same(api.Accu{}, api.Accu{Froms: []int{}}) {
		t.Error("no list and an empty one are unlike")
	}
}

// Ac2: the bytes stand behind those that were there, with whatever tag.
func TestPut(t *testing.T) {
	for _, a := range good() {
		want := written(a)
		for _, b := range [][]byte{nil, {}, {7}, {1, 2, 3}, bytes.Repeat([]byte{200}, 1000), want} {
			if got := Put(b, a); !bytes.Equal(got, append(bytes.Clone(b), want...)) {
				t.Errorf("Put(%d bytes, %v): %x", len(b), a, got)
			}
		}
	}
}

// Ac2: of one that may not be nothing is put.
func TestPutBad(t *testing.T) {
	for _, a := range bad() {
		for _, b := range [][]byte{nil, {}, {7}, {1, 2, 3}, written(base())} {
			if got := Put(b, a); !bytes.Equal(got, b) {
				t.Errorf("Put(%d bytes, %v): %x", len(b), a, got)
			}
		}
	}
}

// Ac2: what is read next, and nothing behind it.
func TestReadNext(t *testing.T) {
	for _, a := range good() {
		for _, more := range [][]byte{nil, {0}, {255}, {1, 1, 1, 1}, written(a), make([]byte, 300)} {
			r := octet.Read(append(written(a), more...))
			if got, ok := Read(r); !ok || !alike(got, a) || r.Left() != len(more) || r.Wrong() {
				t.Errorf("Read(%v, and %d bytes): %v, %v, left %d", a, len(more), got, ok, r.Left())
			}
		}
	}
}

// Ac2, Ac3: what is put is read, one behind the other, from wherever the reader stands.
func TestReadInTurn(t *testing.T) {
	b := octet.Num(nil, 300)
	for _, a := range good() {
		b = Put(b, a)
	}
	r := octet.Read(b)
	if n := r.Num(); n != 300 {
		t.Fatalf("the number ahead: %d", n)
	}
	for i, a := range good() {
		if got, ok := Read(r); !ok || !Same(got, a) || !alike(got, a) {
			t.Fatalf("%d: %v, %v, want %v", i, got, ok, a)
		}
	}
	if !r.Done() {
		t.Errorf("left %d, wrong %v", r.Left(), r.Wrong())
	}
	if a, ok := Read(r); ok || !reflect.DeepEqual(a, api.Accu{}) {
		t.Errorf("behind all: %v, %v", a, ok)
	}
}

// mustBeNone holds that no accumulation is read.
func mustBeNone(t *testing.T, what string, b []byte) {
	t.Helper()
	if a, ok := Read(octet.Read(b)); ok || !reflect.DeepEqual(a, api.Accu{}) {
		t.Errorf("%s: Read(%x): %v, %v", what, b[:min(len(b), 120)], a, ok)
	}
}

// mustBeOwn holds that bytes begin with no accumulation, or just with those that it is put as; it tells whether they do.
func mustBeOwn(t *testing.T, b []byte) bool {
	t.Helper()
	r := octet.Read(b)
	a, ok := Read(r)
	if !ok {
		if !reflect.DeepEqual(a, api.Accu{}) {
			t.Fatalf("%x: %v beside false", b, a)
		}
		return false
	}
	if own := b[:len(b)-r.Left()]; len(own) == 0 || !bytes.Equal(Put(nil, a), own) || !bytes.Equal(written(a), own) {
		t.Fatalf("%x is read as %v, which is put as %x", own, a, Put(nil, a))
	}
	return true
}

// Ac2: one that is cut is none: also where only the tag is not there, that could be nought.
func TestReadCut(t *testing.T) {
	for _, a := range good() {
		if len(a.Froms) > 3 {
			continue
		}
		b := written(a)
		for cut := range b {
			mustBeNone(t, "cut", b[:cut])
		}
	}
	head := append([]byte{1, 1, 0}, make([]byte, 32)...)
	mustBeNone(t, "no Froms", head)
	mustBeNone(t, "no From", append(bytes.Clone(head), 1))
	mustBeNone(t, "no tag", append(bytes.Clone(head), 1, 1))
	mustBeNone(t, "half a tag", append(append(bytes.Clone(head), 1, 1), make([]byte, 16)...))
	if !mustBeOwn(t, append(append(bytes.Clone(head), 1, 1), make([]byte, 32)...)) {
		t.Error("one with a zero tag is not read")
	}
}

// Ac2: bytes of one that may not be are none.
func TestReadBad(t *testing.T) {
	for _, a := range bad() {
		mustBeNone(t, "may not be", written(a))
		mustBeNone(t, "may not be, and more", append(written(a), make([]byte, 100)...))
	}
}

// parts are an accumulation's bytes: its numbers' at 0, 1, 2, and from 4 on; the hash's at 3, and the tag's, the last ones.
func parts(a api.Accu) [][]byte {
	l := [][]byte{num(nil, a.By), num(nil, a.View), num(nil, a.PView), a.PHash[:], num(nil, len(a.Froms))}
	for _, from := range a.Froms {
		l = append(l, num(nil, from))
	}
	return append(l, a.Tag[:])
}

// Ac2: numbers that are too great are no smaller ones.
func TestReadGreat(t *testing.T) {
	for _, n := range []uint64{1<<40 + 1, 1<<63 - 1, 1 << 63, 1<<63 + 1, 1<<63 + 2, 1<<63 + 9, math.MaxUint64 - 1, math.MaxUint64} {
		for _, at := range []int{0, 1, 2, 4, 5, 6} {
			l := parts(base())
			l[at] = binary.AppendUvarint(nil, n)
			mustBeNone(t, "a great number", bytes.Join(l, nil))
		}
	}
}

// Ac2: how many Froms there are is told, by a number of 1 to MaxNodes.
func TestReadHowMany(t *testing.T) {
	for many := range 300 {
		for _, there := range []int{many, 21} {
			b := append([]byte{1, 9, 3}, make([]byte, 32)...)
			b = num(b, many)
			for from := range there {
				b = num(b, from+1)
			}
			b = append(b, make([]byte, 64)...)
			if want := 1 <= many && many <= 21; mustBeOwn(t, b) != want {
				t.Errorf("%d Froms are told, %d are there: %v", many, there, !want)
			}
		}
	}
}

// Ac2: no other bytes are the same one's: a number with more bytes than it needs is none, wherever it stands.
func TestLongNumbers(t *testing.T) {
	for _, a := range []api.Accu{base(), accuOf(1, 1, 0, api.Hash{}, 5, 6)} {
		for _, at := range []int{0, 1, 2, 4, 5, 6} {
			l := parts(a)
			own, end := l[at], len(l[at])-1
			for _, more := range [][]byte{{0}, {128, 0}, {128, 128, 128, 0}} {
				long := append(bytes.Clone(own), more...)
				long[end] |= 128
				l[at] = long
				mustBeNone(t, "a long number", bytes.Join(l, nil))
			}
		}
	}
}

// Ac2, R1: of no reader, or one that is wrong, nothing is read.
func TestReadOfNobody(t *testing.T) {
	failed := octet.Read(append([]byte{128, 0}, written(base())...))
	failed.Num()
	for name, r := range map[string]*octet.Reader{
		"nil": nil, "zero": {}, "no bytes": octet.Read(nil), "wrong": failed,
	} {
		if a, ok := Read(r); ok || !reflect.DeepEqual(a, api.Accu{}) {
			t.Errorf("%s: %v, %v", name, a, ok)
		}
	}
}

// Ac2, Ac3: of bytes some of which are turned, taken away, or put between, those that are read are what is put of what was read.
func TestTurnedBytes(t *testing.T) {
	rnd := rand.New(rand.NewSource(6))
	many := 0
	for range 20 {
		for _, a := range good() {
			b := written(a)
			at := rnd.Intn(len(b))
			switch rnd.Intn(3) {
			case 0:
				at = rnd.Intn(5) // where the first numbers are
			case 1:
				at = len(b) - 33 - rnd.Intn(len(a.Froms)+1) // where a From is, or what is ahead of them
			}
			switch rnd.Intn(3) {
			case 0:
				b[at] = byte(rnd.Intn(24))
			case 1:
				b = append(b[:at], b[at+1:]...)
			case 2:
				b = append(b[:at+1], b[at:]...)
			}
			if mustBeOwn(t, b) {
				many++
			}
		}
	}
	if many == 0 {
		t.Error("none was read")
	}
}

// Ac2: likewise of all small numbers ahead, and all By.
func TestSmallNumbers(t *testing.T) {
	for by := range 130 {
		for view := range 5 {
			for pview := range 6 {
				b := append(num(num(num(nil, by), view), pview), make([]byte, 32)...)
				b = append(append(b, 1, 21), make([]byte, 32)...)
				if want := 1 <= by && by <= 21 && pview < view; mustBeOwn(t, b) != want {
					t.Errorf("by %d, view %d, prepared view %d: %v", by, view, pview, !want)
				}
			}
		}
	}
}

// Ac2: likewise of all small Froms.
func TestSmallFroms(t *testing.T) {
	for one := range 130 {
		for two := range 130 {
			b := append([]byte{2, 3, 2}, make([]byte, 32)...)
			b = append(num(num(append(b, 2), one), two), make([]byte, 32)...)
			if want := 1 <= one && one < two && two <= 21; mustBeOwn(t, b) != want {
				t.Errorf("of %d and %d: %v", one, two, !want)
			}
		}
	}
}

// R3: nothing is written to what is handed in, nor to the room behind it; what is answered is new memory, also where nothing is put.
func TestPutIsNewMemory(t *testing.T) {
	room := []byte(strings.Repeat("room", 100))
	for _, a := range []api.Accu{base(), {}, accuOf(1, 9, 3, of(3), 2, 1), accuOf(22, 9, 3, of(3), 1)} {
		old := copied(a)
		for _, n := range []int{0, 1, 3, 399, 400} {
			b := bytes.Clone(room)
			got := Put(b[:n], a)
			again := Put(b[:n], a)
			got = append(got, 1, 2, 3)
			clear(got)
			if !bytes.Equal(b, room) || !alike(a, old) {
				t.Fatalf("Put(%d bytes, %v) writes to what it was handed, or shares memory with it", n, a)
			}
			clear(b)
			if !bytes.Equal(again, Put(room[:n], a)) {
				t.Errorf("Put(%d bytes, %v) hangs on what was handed in", n, a)
			}
		}
	}
}

// R3: what is made shares no memory with what it is made of, which stays as it was, its order too; nor with another one.
func TestMakeIsNewMemory(t *testing.T) {
	l := []api.Att{told(3, 9, 8, of(3)), told(1, 9, 1, of(1)), told(2, 9, 4, of(2)), told(1, 9, 7, of(4))}
	old := slices.Clone(l)
	want := accuOf(1, 9, 4, of(2), 1, 2)
	a, e := Make(1, 3, 9, l[:3])
	b, f := Make(1, 3, 9, l[:3])
	if e != api.OK || f != api.OK || !slices.Equal(l, old) {
		t.Fatalf("errors %d, %d; %v", e, f, l)
	}
	clear(l)
	clear(a.Froms[:cap(a.Froms)])
	if !alike(b, want) {
		t.Errorf("shared: %v", b)
	}
	clear(b.Froms[:cap(b.Froms)])
	mustMake(t, 3, old, want)
}

// R3: what is asked of, and read of, stays as it was; what is read is new memory.
func TestReadIsNewMemory(t *testing.T) {
	a, other := base(), accuOf(2, 300, 200, rising(), 3, 1)
	Right(3, a)
	Right(3, other)
	Same(a, other)
	if !alike(a, base()) || !slices.Equal(other.Froms, []int{3, 1}) {
		t.Errorf("turned: %v, %v", a, other)
	}
	b := append(written(a), written(a)...)
	was := bytes.Clone(b)
	r := octet.Read(b)
	x, ok := Read(r)
	clear(x.Froms[:cap(x.Froms)])
	y, there := Read(r)
	if !ok || !there || !alike(y, a) || !bytes.Equal(b, was) {
		t.Errorf("shared: %v, %v, %v", y, ok, there)
	}
}

// R4: an answer hangs on its arguments alone.
func TestNothingIsKept(t *testing.T) {
	for view := 1; view <= 12; view++ {
		other := accuOf(4, 77, 70, full(), 3, 4, 5)
		Make(5, 5, 77, each(77, 70, full(), 5, 4, 3))
		Make(1, 3, 77, each(77, 70, full(), 4))
		Right(5, other)
		Put([]byte("other"), other)
		Read(octet.Read(written(other)))
		Same(other, base())
		want := accuOf(3, view, view-1, rising(), 1, 2)
		mustMake(t, 3, each(view, view-1, rising(), 2, 1), want)
		if !Right(3, want) || Right(5, want) || !bytes.Equal(Put(nil, want), written(want)) || Same(want, other) {
			t.Errorf("answers hang on the calls ahead: view %d", view)
		}
	}
}
