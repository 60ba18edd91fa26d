package gather

import (
	"cmp"
	"crypto/hmac"
	"crypto/sha256"
	"encoding/binary"
	"math"
	"math/rand"
	"reflect"
	"slices"
	"testing"

	"tithing/api"
	"tithing/att"
	"tithing/cert"
)

// last is the last view that there is, room how many attestations a gatherer has at most, by the chapters.
const (
	last = 1 << 40
	room = 200
)

// rising is a hash of 32 unlike bytes, full one of bytes 255, of one that is nought but for its last byte.
func rising() (h api.Hash) {
	for i := range h {
		h[i] = byte(i + 1)
	}
	return h
}

func full() (h api.Hash) {
	for i := range h {
		h[i] = 255
	}
	return h
}

func of(n int) (h api.Hash) {
	h[31] = byte(n)
	return h
}

// upTo are the numbers from 1 on.
func upTo(n int) []int {
	l := make([]int, n)
	for i := range l {
		l[i] = i + 1
	}
	return l
}

// odd are the numbers of parts of which there is a quorum; noQuorums are some of which there is none.
func odd() []int { return []int{1, 3, 5, 7, 9, 11, 13, 15, 17, 19, 21} }

func noQuorums() []int {
	l := []int{math.MinInt, math.MinInt + 1, -1 << 40, -256, -21, -3, -2, -1, 0, 22, 23, 24, 25, 41, 127, 128, 129, 255, 256, 257, 259, 1<<32 + 3, 1<<40 + 3, math.MaxInt - 1, math.MaxInt}
	for n := 2; n <= 20; n += 2 {
		l = append(l, n)
	}
	return l
}

// made is an attestation of nobody, without a tag.
func made(kind, view int, hash api.Hash, pview int, phash api.Hash) api.Att {
	return api.Att{Kind: kind, View: view, Phase: kind, Hash: hash, PView: pview, PHash: phash}
}

// tagOf is a part's tag of an attestation by the library, also where there is no such part, or it may not be.
func tagOf(by int, a api.Att) api.Hash {
	num := func(b []byte, n int) []byte { return binary.AppendUvarint(b, uint64(n)) }
	b := append(num(num(num(nil, a.Kind), a.View), a.Phase), a.Hash[:]...)
	b = append(num(b, a.PView), a.PHash[:]...)
	key := sha256.Sum256(append([]byte("tithing key "), byte(by)))
	m := hmac.New(sha256.New, key[:])
	m.Write([]byte{1})
	m.Write(b)
	return api.Hash(m.Sum(nil))
}

// signed is an attestation as a part's, with its tag by the library.
func signed(by int, a api.Att) api.Att {
	a.By, a.Tag = by, tagOf(by, a)
	return a
}

// all are an attestation as each part's.
func all(a api.Att, bys ...int) []api.Att {
	var l []api.Att
	for _, by := range bys {
		l = append(l, signed(by, a))
	}
	return l
}

// certOf is the certificate of an attestation of nobody with those signatures.
func certOf(a api.Att, bys ...int) api.Cert {
	c := api.Cert{Att: a}
	for _, by := range bys {
		c.Sigs = append(c.Sigs, api.Sig{By: by, Tag: tagOf(by, a)})
	}
	return c
}

// bases are attestations of nobody that may be somebody's, of all kinds, at all edges; no two are of one kind and view.
func bases() []api.Att {
	return []api.Att{
		made(1, 1, of(0), 0, of(0)), made(2, 1, of(0), 0, of(0)), made(3, 1, of(0), 1, of(0)),
		made(1, 9, of(0), 8, rising()), made(2, 300, rising(), 0, of(0)), made(2, 128, rising(), 127, full()), made(3, 128, full(), 128, rising()),
		made(1, 1<<32+1, of(0), 1<<32, full()), made(3, last-1, of(2), 3, of(3)),
		made(1, last, of(1), last-1, of(7)), made(2, last, full(), last-1, rising()), made(3, last, full(), last, full()),
	}
}

// votes are unlike attestations of one kind and view, each of which is like the first one in all but one thing, or two.
func votes(kind, view int) []api.Att {
	return []api.Att{
		made(kind, view, rising(), 1, full()), made(kind, view, of(1), 1, full()), made(kind, view, rising(), 0, full()),
		made(kind, view, rising(), 1, of(1)), made(kind, view, full(), 1, rising()),
	}
}

// shuffled are those in another order.
func shuffled[T any](rnd *rand.Rand, l []T) []T {
	l = slices.Clone(l)
	rnd.Shuffle(len(l), func(i, j int) { l[i], l[j] = l[j], l[i] })
	return l
}

// ordered are all orders of some things.
func ordered[T any](l []T) [][]T {
	if len(l) == 0 {
		return [][]T{nil}
	}
	var every [][]T
	for i := range l {
		for _, rest := range ordered(slices.Delete(slices.Clone(l), i, i+1)) {
			every = append(every, append([]T{l[i]}, rest...))
		}
	}
	return every
}

// told is a gatherer as a list, in the chapter's words, of attestations that came in this order.
type told struct {
	n int
	l []api.Att
}

// add adds one that is said to be right, or not.
func (m *told) add(a api.Att, right bool) api.Errno {
	if !right || a.By > m.n {
		return api.ErrTag
	}
	for _, b := range m.l {
		if b.By == a.By && b.Kind == a.Kind && b.View == a.View {
			return api.ErrThere
		}
	}
	if len(m.l) == room {
		return api.ErrFull
	}
	m.l = append(m.l, a)
	return api.OK
}

// some are those that do, in the order of their view, kind and By.
func (m *told) some(do func(a api.Att) bool) []api.Att {
	var l []api.Att
	for _, a := range m.l {
		if do(a) {
			l = append(l, a)
		}
	}
	slices.SortFunc(l, func(a, b api.Att) int {
		if a.View != b.View {
			return cmp.Compare(a.View, b.View)
		}
		if a.Kind != b.Kind {
			return cmp.Compare(a.Kind, b.Kind)
		}
		return cmp.Compare(a.By, b.By)
	})
	return l
}

func (m *told) every() []api.Att { return m.some(func(api.Att) bool { return true }) }

func (m *told) news(view int) []api.Att {
	return m.some(func(a api.Att) bool { return a.Kind == 1 && a.View == view })
}

func (m *told) drop(view int) {
	m.l = m.some(func(a api.Att) bool { return a.View >= view })
}

// cert is the certificate of a kind and view, and whether there is one.
func (m *told) cert(kind, view int) (api.Cert, bool) {
	l := m.some(func(a api.Att) bool { return a.Kind == kind && a.View == view })
	for _, one := range l {
		nobody := func(a api.Att) api.Att {
			a.By, a.Tag = 0, api.Hash{}
			return a
		}
		c := api.Cert{Att: nobody(one)}
		for _, a := range l {
			if nobody(a) == nobody(one) {
				c.Sigs = append(c.Sigs, api.Sig{By: a.By, Tag: a.Tag})
			}
		}
		if quorum := m.n/2 + 1; len(c.Sigs) >= quorum {
			c.Sigs = c.Sigs[:quorum]
			return c, true
		}
	}
	return api.Cert{}, false
}

// alike tells whether certificates are, with no list and an empty one the same.
func alike(a, b api.Cert) bool { return a.Att == b.Att && slices.Equal(a.Sigs, b.Sigs) }

// mustNew is a gatherer of so many parts, and those.
func mustNew(t *testing.T, n int, l ...api.Att) *Gather {
	t.Helper()
	g, e := New(n)
	if g == nil || e != api.OK {
		t.Fatalf("New(%d): %v, error %d", n, g, e)
	}
	for _, a := range l {
		mustAdd(t, g, a, api.OK)
	}
	return g
}

// mustAdd fails, unless that is what adding answers.
func mustAdd(t *testing.T, g *Gather, a api.Att, want api.Errno) {
	t.Helper()
	if e := g.Add(a); e != want {
		t.Errorf("Add(%v): error %d, want %d", a, e, want)
	}
}

// mustList fails, unless attestations are those.
func mustList(t *testing.T, what string, got, want []api.Att) {
	t.Helper()
	if !slices.Equal(got, want) {
		t.Errorf("%s:\n got %v\nwant %v", what, got, want)
	}
}

// mustCert fails, unless that is the certificate of its kind and view.
func mustCert(t *testing.T, g *Gather, want api.Cert) {
	t.Helper()
	c, ok := g.Cert(want.Att.Kind, want.Att.View)
	if !ok || !alike(c, want) {
		t.Errorf("Cert(%d, %d): %v\n got %v\nwant %v", want.Att.Kind, want.Att.View, ok, c, want)
	}
}

// mustNone fails, if there is a certificate of a kind and view, or anything beside the false.
func mustNone(t *testing.T, g *Gather, kind, view int) {
	t.Helper()
	if c, ok := g.Cert(kind, view); ok || !reflect.DeepEqual(c, api.Cert{}) {
		t.Errorf("Cert(%d, %d): %v, %v", kind, view, c, ok)
	}
}

// mustBe fails, unless a gatherer has what a list has, and answers all that is asked of those kinds and views as it does.
func mustBe(t *testing.T, g *Gather, m *told, views ...int) {
	t.Helper()
	mustList(t, "All", g.All(), m.every())
	for _, view := range views {
		mustList(t, "News", g.News(view), m.news(view))
		for kind := range 5 {
			if want, ok := m.cert(kind, view); ok {
				mustCert(t, g, want)
			} else {
				mustNone(t, g, kind, view)
			}
		}
	}
}

// The chapter's example.
func TestExample(t *testing.T) {
	a := made(2, 3, rising(), 0, of(0))
	g := mustNew(t, 3, signed(2, a))
	mustNone(t, g, 2, 3)
	mustAdd(t, g, signed(1, a), api.OK)
	mustCert(t, g, certOf(a, 1, 2))
}

// Ga1: of every number of parts of which there is a quorum, a gatherer of nothing.
func TestNew(t *testing.T) {
	for _, n := range odd() {
		g := mustNew(t, n)
		mustBe(t, g, &told{n: n}, 0, 1, 2, 300, last)
	}
}

// Ga1: without a quorum there is none.
func TestNewNoQuorum(t *testing.T) {
	for _, n := range noQuorums() {
		if g, e := New(n); g != nil || e != api.ErrArg {
			t.Errorf("New(%d): %v, error %d", n, g, e)
		}
	}
}

// Ga1: what is right, of every part, kind and view, is there as it came.
func TestAdd(t *testing.T) {
	for _, n := range odd() {
		for _, a := range bases() {
			g, m := mustNew(t, n), &told{n: n}
			for _, by := range upTo(n) {
				x := signed(by, a)
				mustAdd(t, g, x, m.add(x, true))
				mustBe(t, g, m, a.View-1, a.View, a.View+1)
			}
			if len(g.All()) != n {
				t.Errorf("of %d parts %d are there", n, len(g.All()))
			}
		}
	}
}

// Ga1: what layer 8 signs is right, and what it says is not right is told.
func TestAddSigned(t *testing.T) {
	for _, a := range bases() {
		g := mustNew(t, 21)
		for by := -1; by <= 22; by++ {
			a.By = by
			want := api.ErrTag
			if 1 <= by && by <= 21 {
				want = api.OK
			}
			mustAdd(t, g, att.Sign(a), want)
		}
	}
}

// notRight are attestations of parts of 3 that are not right, most of them for one reason alone.
func notRight() []api.Att {
	base := made(2, 300, rising(), 299, full())
	l := []api.Att{{}, {By: 1}, {By: 1, Kind: 2, View: 300, Phase: 2}}
	for _, w := range []api.Att{
		{}, {View: 1}, {Kind: 1, View: 1}, {Phase: 1, View: 1}, made(0, 5, of(0), 0, of(0)), made(4, 5, of(0), 0, of(0)), made(-1, 5, of(0), 0, of(0)),
		made(257, 5, of(0), 0, of(0)), made(1, 0, of(0), 0, of(0)), made(3, 0, of(0), 0, of(0)), made(1, -3, of(0), -4, of(0)), made(1, 5, of(0), -1, of(0)),
		made(1, 5, of(0), 5, of(0)), made(2, 300, rising(), 300, full()), made(3, 300, rising(), 301, full()), made(2, last+1, rising(), 1, full()),
		made(3, last, of(0), last+1, of(0)), made(2, math.MaxInt, of(0), 0, of(0)), made(2, math.MinInt, of(0), 0, of(0)), made(math.MinInt, 3, of(0), 0, of(0)),
	} {
		l = append(l, w, signed(1, w), signed(2, w), signed(3, w))
	}
	for _, by := range []int{math.MinInt, -255, -2, -1, 0, 4, 5, 21, 22, 256, 257, 258, 1<<32 + 1, math.MaxInt} {
		l = append(l, signed(by, base))
	}
	for i := range 32 {
		x := signed(2, base)
		x.Tag[i] ^= 1 << (i % 8)
		l = append(l, x)
	}
	for by := 1; by <= 3; by++ { // the tag of another part, of another attestation, and none
		x, y, z, none := signed(by, base), signed(by, base), signed(by, base), signed(by, base)
		x.By = by%3 + 1
		y.Hash = of(1)
		z.PView = 298
		none.Tag = of(0)
		l = append(l, x, y, z, none)
	}
	return l
}

// Ga1: what is not right, or of nobody of its parts, is told and is not there: of a gatherer of nothing, of one of some, and of one that has one of its place.
func TestAddTag(t *testing.T) {
	base := made(2, 300, rising(), 299, full())
	for _, w := range notRight() {
		for _, l := range [][]api.Att{nil, all(base, 1, 2), all(base, 3, 1, 2), append(all(made(3, 5, of(0), 1, of(0)), 1, 2, 3), all(made(1, 5, of(0), 1, of(0)), 1, 2, 3)...)} {
			g := mustNew(t, 3, l...)
			mustAdd(t, g, w, api.ErrTag)
			mustBe(t, g, &told{n: 3, l: l}, w.View, 5, 300)
		}
	}
}

// Ga1: a right one is of nobody, if its By is above n; and n itself is not.
func TestAddAbove(t *testing.T) {
	a := made(2, 300, rising(), 299, full())
	for _, n := range odd() {
		g, m := mustNew(t, n), &told{n: n}
		for by := 21; by >= 1; by-- {
			want := api.OK
			if by > n {
				want = api.ErrTag
			}
			if got := m.add(signed(by, a), true); got != want {
				t.Fatalf("the list: error %d, want %d", got, want)
			}
			mustAdd(t, g, signed(by, a), want)
		}
		mustBe(t, g, m, 300)
	}
}

// Ga1: a second one of a By, Kind and View is told, be it the same or an unlike one; the first one stays.
func TestAddThere(t *testing.T) {
	for kind := 1; kind <= 3; kind++ {
		for i, first := range votes(kind, 7) {
			g := mustNew(t, 5, signed(3, first))
			for _, second := range votes(kind, 7) {
				mustAdd(t, g, signed(3, second), api.ErrThere)
				mustList(t, "All", g.All(), all(first, 3))
			}
			other := votes(kind, 7)[(i+1)%5]
			mustAdd(t, g, signed(4, other), api.OK)
			mustAdd(t, g, signed(4, first), api.ErrThere)
			mustList(t, "All", g.All(), []api.Att{signed(3, first), signed(4, other)})
		}
	}
}

// Ga1: what is of another By, Kind or View is not there yet; also where numbers are mixed up easily.
func TestAddNotThere(t *testing.T) {
	var l []api.Att
	for _, view := range []int{1, 2, 3, 11, 12, 13, 21, 256 + 1, 1<<32 + 1, 1<<32 + 2, last - 1, last} {
		for kind := 1; kind <= 3; kind++ {
			l = append(l, all(made(kind, view, of(0), 0, of(0)), 1, 2, 3, 11, 21)...)
		}
	}
	rnd := rand.New(rand.NewSource(1))
	for range 5 {
		g := mustNew(t, 21, shuffled(rnd, l)...)
		mustBe(t, g, &told{n: 21, l: l}, 1, 2, 3, 11, 12, last)
		for _, a := range shuffled(rnd, l) {
			mustAdd(t, g, a, api.ErrThere)
		}
		mustList(t, "All", g.All(), l)
	}
}

// crowd are as many right attestations of parts 1 to 21, no two of one place, from a view on.
func crowd(many, view int) []api.Att {
	var l []api.Att
	for i := range many {
		kind := 1 + i/21%3
		l = append(l, signed(1+i%21, made(kind, view+i/63, rising(), 0, of(i))))
	}
	return l
}

// Ga1: there is room for 200, and for no more; a wrong one and one that is there are told first.
func TestAddFull(t *testing.T) {
	rnd := rand.New(rand.NewSource(2))
	l := crowd(room+30, 5)
	for range 5 {
		l = shuffled(rnd, l)
		g, m := mustNew(t, 21, l[:room]...), &told{n: 21, l: l[:room]}
		for _, a := range l[room:] {
			mustAdd(t, g, a, api.ErrFull)
		}
		for _, a := range l[:room] {
			mustAdd(t, g, a, api.ErrThere)
		}
		for _, a := range l {
			a.Tag[3] ^= 4
			mustAdd(t, g, a, api.ErrTag)
		}
		mustAdd(t, g, signed(22, made(1, 1, of(0), 0, of(0))), api.ErrTag)
		mustBe(t, g, m, 4, 5, 6, 7, 8, 9)
	}
	g := mustNew(t, 3)
	for view := 1; view <= room+1; view++ {
		want := api.OK
		if view > room {
			want = api.ErrFull
		}
		mustAdd(t, g, signed(2, made(1, view, of(0), 0, of(0))), want)
	}
	if len(g.All()) != room {
		t.Errorf("%d are there", len(g.All()))
	}
}

// Ga1, Ga2: what goes makes room, just as much as goes.
func TestDropMakesRoom(t *testing.T) {
	l := crowd(room, 5) // 63 of a view
	g := mustNew(t, 21, l...)
	g.Drop(5)
	more := crowd(130, 10)
	mustAdd(t, g, more[0], api.ErrFull)
	g.Drop(7)
	for i, a := range more {
		want := api.OK
		if i >= 126 {
			want = api.ErrFull
		}
		mustAdd(t, g, a, want)
	}
	mustBe(t, g, &told{n: 21, l: append(slices.Clone(l[126:]), more[:126]...)}, 5, 6, 7, 8, 10, 11, 12)
	mustAdd(t, g, l[0], api.ErrFull)
	mustAdd(t, g, l[126], api.ErrThere)
	g.Drop(math.MaxInt)
	for _, a := range l {
		mustAdd(t, g, a, api.OK)
	}
	mustList(t, "All", g.All(), (&told{n: 21, l: l}).every())
}

// Ga1: all, by View, of one View by Kind, of one Kind by By, by their numbers.
func TestAll(t *testing.T) {
	var want []api.Att
	for _, view := range []int{1, 2, 9, 10, 255, 256, 1<<32 + 1, last} {
		for kind := 1; kind <= 3; kind++ {
			want = append(want, all(made(kind, view, of(100-kind), 0, of(view)), 1, 2, 9, 10, 11, 20, 21)...)
		}
	}
	rnd := rand.New(rand.NewSource(3))
	back := slices.Clone(want)
	slices.Reverse(back)
	for _, l := range [][]api.Att{want, back, shuffled(rnd, want), shuffled(rnd, want), shuffled(rnd, want)} {
		mustList(t, "All", mustNew(t, 21, l...).All(), want)
	}
}

// Ga2: of every kind, and of every set of parts that agree: the certificate of the first ones, if they are a quorum.
func TestCert(t *testing.T) {
	for _, n := range []int{1, 3, 5, 7} {
		for kind := 1; kind <= 3; kind++ {
			a := made(kind, 9, rising(), 8, full())
			for set := range 1 << n {
				g := mustNew(t, n)
				var bys []int
				for by := n; by >= 1; by-- {
					if set>>(by-1)&1 == 1 {
						mustAdd(t, g, signed(by, a), api.OK)
						bys = append([]int{by}, bys...)
					}
				}
				if len(bys) < n/2+1 {
					mustNone(t, g, kind, 9)
				} else {
					mustCert(t, g, certOf(a, bys[:n/2+1]...))
				}
			}
		}
	}
}

// Ga2: of every number of parts: none of one too few, and one of a quorum, which is of the first ones of more; right by layer 9.
func TestCertQuorum(t *testing.T) {
	rnd := rand.New(rand.NewSource(4))
	for _, n := range odd() {
		for _, a := range bases() {
			bys := shuffled(rnd, upTo(n))
			g := mustNew(t, n, all(a, bys[:n/2]...)...)
			mustNone(t, g, a.Kind, a.View)
			for at := n / 2; at < n; at++ {
				mustAdd(t, g, signed(bys[at], a), api.OK)
				first := slices.Sorted(slices.Values(bys[:at+1]))[:n/2+1]
				mustCert(t, g, certOf(a, first...))
			}
			c, _ := g.Cert(a.Kind, a.View)
			if want, e := cert.Make(n, g.All()); !cert.Right(n, c) || e != api.OK || !cert.Same(c, want) {
				t.Errorf("of %d parts: %v, by layer 9 %v", n, c, want)
			}
		}
	}
}

// Ga2: those that are unlike do not count with each other, whatever it is in which they are: each of 5 parts says nothing, the first vote, or another one.
func TestCertUnlike(t *testing.T) {
	var signs [][]api.Att
	for _, a := range votes(3, 7) {
		signs = append(signs, all(a, upTo(5)...))
	}
	certs := 0
	for other := 1; other < len(signs); other++ {
		for who := range 3 * 3 * 3 * 3 * 3 {
			g, m := mustNew(t, 5), &told{n: 5}
			for by, rest := 0, who; by < 5; by, rest = by+1, rest/3 {
				if rest%3 == 0 {
					continue
				}
				a := signs[[]int{0, other}[rest%3-1]][by]
				mustAdd(t, g, a, m.add(a, true))
			}
			mustBe(t, g, m, 7)
			if _, ok := m.cert(3, 7); ok {
				certs++
			}
		}
	}
	if certs != 4*2*51 { // of two votes each: 3, 4 or 5 of 5 say it, the others one of two other things: 10*4 + 5*2 + 1
		t.Errorf("%d have a certificate", certs)
	}
}

// Ga2: a quorum that does not begin with the first ones, between unlike ones, is found.
func TestCertBehindOthers(t *testing.T) {
	some := votes(2, 7)
	for _, n := range odd() {
		for lone := range n/2 + 1 { // so many are unlike
			g := mustNew(t, n)
			var bys []int
			for by := 1; by <= n; by++ {
				if by <= lone {
					mustAdd(t, g, signed(by, some[1+by%4]), api.OK)
				} else {
					mustAdd(t, g, signed(by, some[0]), api.OK)
					bys = append(bys, by)
				}
			}
			mustCert(t, g, certOf(some[0], bys[:n/2+1]...))
		}
		g := mustNew(t, n)
		for by := 1; by <= n; by++ { // the very most, and yet no quorum
			vote := 0
			if by%2 == 1 {
				vote = 1 + by/2%4
			}
			mustAdd(t, g, signed(by, some[vote]), api.OK)
		}
		if n >= 5 {
			mustNone(t, g, 2, 7)
		}
	}
}

// Ga2: what is of another kind or view does not count.
func TestCertApart(t *testing.T) {
	for _, view := range []int{2, 300, 1<<32 + 2, last - 1} {
		g, m := mustNew(t, 3), &told{n: 3}
		add := func(by int, a api.Att) { mustAdd(t, g, signed(by, a), m.add(signed(by, a), true)) }
		add(1, made(1, view, of(0), 0, of(0)))
		add(2, made(2, view, of(0), 0, of(0)))
		add(3, made(3, view, of(0), 0, of(0)))
		add(1, made(2, view+1, of(0), 0, of(0)))
		add(3, made(2, view-1, of(0), 0, of(0)))
		mustBe(t, g, m, view-1, view, view+1)
		for kind := 1; kind <= 3; kind++ {
			mustNone(t, g, kind, view)
		}
		add(3, made(2, view, of(0), 0, of(0)))
		mustBe(t, g, m, view-1, view, view+1, view+1<<32, view-1<<32)
		mustCert(t, g, certOf(made(2, view, of(0), 0, of(0)), 2, 3))
	}
}

// Ga2: of no kind, and of no view, there is none, and nothing new.
func TestNoKindNoView(t *testing.T) {
	for _, n := range []int{1, 3, 21} {
		var l []api.Att
		for _, a := range bases()[:6] {
			l = append(l, all(a, upTo(n)...)...)
		}
		g := mustNew(t, n, l...)
		for _, view := range []int{math.MinInt, -1, 0, 2, 1<<32 + 1, 256 + 1, last + 1, math.MaxInt} {
			for _, kind := range []int{math.MinInt, -1, 0, 1, 2, 3, 4, 257, 258, math.MaxInt} {
				mustNone(t, g, kind, view)
			}
			mustList(t, "News", g.News(view), nil)
		}
		for _, kind := range []int{math.MinInt, -1, 0, 4, 5, 257, 258, 1<<32 + 1, math.MaxInt} {
			mustNone(t, g, kind, 1)
		}
		mustBe(t, g, &told{n: n, l: l}, 1, 9, 128, 300)
	}
}

// Ga2: those that are told of a new view, by By, unlike ones too; and of no other view or kind.
func TestNews(t *testing.T) {
	rnd := rand.New(rand.NewSource(5))
	for _, n := range odd() {
		var want, l []api.Att
		for by := 1; by <= n; by++ {
			want = append(want, signed(by, made(1, 300, of(0), by*7%299, of(by))))
			l = append(l, signed(by, made(1, 299, of(0), 0, of(0))), signed(by, made(1, 301, of(0), 0, of(0))))
			l = append(l, signed(by, made(2, 300, of(0), 0, of(0))), signed(by, made(3, 300, of(0), 0, of(0))))
		}
		g := mustNew(t, n, shuffled(rnd, append(l, want...))...)
		mustList(t, "News", g.News(300), want)
		some := shuffled(rnd, want)[:n/2+1]
		g = mustNew(t, n, some...)
		mustList(t, "News", g.News(300), (&told{n: n, l: some}).every())
		mustList(t, "News", g.News(299), nil)
		mustList(t, "News", g.News(301), nil)
		mustNone(t, g, 2, 300)
	}
}

// Ga2: what is of a lesser view goes, of all kinds; what is of that one, or of a greater one, stays.
func TestDrop(t *testing.T) {
	views := []int{1, 2, 9, 10, 300, 1<<32 + 1, last - 1, last}
	var l []api.Att
	for _, view := range views {
		for kind := 1; kind <= 3; kind++ {
			l = append(l, all(made(kind, view, of(kind), 0, of(0)), 1, 2, 3)...)
		}
	}
	for _, at := range []int{math.MinInt, -last, -1, 0, 1, 2, 3, 8, 9, 10, 11, 299, 300, 301, 1 << 32, 1<<32 + 1, 1<<32 + 2, last - 1, last, last + 1, math.MaxInt} {
		g, m := mustNew(t, 3, l...), &told{n: 3, l: l}
		g.Drop(at)
		m.drop(at)
		mustBe(t, g, m, views...)
		g.Drop(at)
		g.Drop(at - 1)
		g.Drop(math.MinInt)
		if at != math.MinInt {
			mustBe(t, g, m, views...)
		}
		if want := len(l) - len(m.l); at > 1 && want == 0 || at <= 1 && want != 0 {
			t.Fatalf("Drop(%d): %d go", at, want)
		}
	}
}

// Ga1, Ga2: what went may come again, also an unlike one.
func TestAgainBehindDrop(t *testing.T) {
	some := votes(2, 7)
	g := mustNew(t, 3, all(some[0], 1, 2)...)
	g.Drop(8)
	mustNone(t, g, 2, 7)
	mustAdd(t, g, signed(2, some[1]), api.OK)
	mustNone(t, g, 2, 7)
	mustAdd(t, g, signed(1, some[1]), api.OK)
	mustCert(t, g, certOf(some[1], 1, 2))
	mustAdd(t, g, signed(2, some[0]), api.ErrThere)
	g.Drop(7)
	mustCert(t, g, certOf(some[1], 1, 2))
}

// Ga3: in which order they come does not matter: of all orders of a few, of three votes and two kinds.
func TestOrder(t *testing.T) {
	some, store := votes(2, 7), votes(3, 7)
	l := []api.Att{signed(1, some[1]), signed(2, some[0]), signed(3, some[0]), signed(4, some[2]), signed(5, some[0]), signed(2, store[0])}
	for _, x := range ordered(l) {
		g := mustNew(t, 5, x...)
		mustBe(t, g, &told{n: 5, l: l}, 6, 7)
		mustCert(t, g, certOf(some[0], 2, 3, 5))
	}
}

// Ga3: nor of many, each of which comes more than once.
func TestOrderOfMany(t *testing.T) {
	rnd := rand.New(rand.NewSource(6))
	l := crowd(room, 5)
	for range 20 {
		g := mustNew(t, 21)
		for _, a := range shuffled(rnd, slices.Concat(l, l, l)) {
			if e := g.Add(a); e != api.OK && e != api.ErrThere {
				t.Fatalf("Add(%v): error %d", a, e)
			}
		}
		mustBe(t, g, &told{n: 21, l: l}, 5, 6, 7, 8)
	}
}

// Ga3: it does where some of one By, Kind and View are unlike: the first one counts.
func TestOrderOfUnlike(t *testing.T) {
	some := votes(2, 7)
	x, y := signed(2, some[0]), signed(2, some[1])
	for _, z := range [][]api.Att{{x, y}, {y, x}} {
		g := mustNew(t, 3, signed(1, some[0]), z[0])
		mustAdd(t, g, z[1], api.ErrThere)
		if z[0] == x {
			mustCert(t, g, certOf(some[0], 1, 2))
		} else {
			mustNone(t, g, 2, 7)
		}
		mustList(t, "All", g.All(), []api.Att{signed(1, some[0]), z[0]})
	}
}

// Ga1, Ga2, R1: of one that New did not give: ErrState, and nothing; also with what is right, or wrong.
func TestNotGiven(t *testing.T) {
	failed, _ := New(4)
	for _, g := range []*Gather{nil, {}, new(Gather), failed} {
		for range 2 {
			for _, a := range append(bases(), notRight()...) {
				mustAdd(t, g, a, api.ErrState)
				mustAdd(t, g, signed(1, a), api.ErrState)
			}
			for _, view := range []int{math.MinInt, -1, 0, 1, 9, 300, last, math.MaxInt} {
				for _, kind := range []int{math.MinInt, -1, 0, 1, 2, 3, 4, math.MaxInt} {
					mustNone(t, g, kind, view)
				}
				mustList(t, "News", g.News(view), nil)
				g.Drop(view)
			}
			mustList(t, "All", g.All(), nil)
		}
	}
}

// R3: what is answered is new memory.
func TestAnswersAreNewMemory(t *testing.T) {
	a, b := made(1, 7, of(0), 3, rising()), made(2, 7, rising(), 3, full())
	l := append(all(a, 1, 2, 3), all(b, 1, 2, 3)...)
	g, m := mustNew(t, 3, l...), &told{n: 3, l: l}
	every, again := g.All(), g.All()
	news, more := g.News(7), g.News(7)
	c, _ := g.Cert(2, 7)
	d, _ := g.Cert(2, 7)
	for _, x := range [][]api.Att{every, news} {
		clear(x[:cap(x)])
	}
	clear(c.Sigs[:cap(c.Sigs)])
	mustBe(t, g, m, 7)
	mustList(t, "All", again, m.every())
	mustList(t, "News", more, m.news(7))
	if !alike(d, certOf(b, 1, 2)) {
		t.Errorf("shared: %v", d)
	}
	clear(more[:cap(more)])
	mustBe(t, g, m, 7)
}

// R4: gatherers do not share what they have; to ask changes nothing.
func TestNothingIsShared(t *testing.T) {
	a, b := votes(2, 7)[0], votes(2, 7)[1]
	g, h, k := mustNew(t, 3), mustNew(t, 3), mustNew(t, 5)
	for by := 1; by <= 2; by++ {
		mustAdd(t, g, signed(by, a), api.OK)
		mustAdd(t, h, signed(by, b), api.OK)
		mustAdd(t, k, signed(by, a), api.OK)
	}
	for range 3 {
		mustBe(t, g, &told{n: 3, l: all(a, 1, 2)}, 6, 7, 8)
		mustBe(t, h, &told{n: 3, l: all(b, 1, 2)}, 6, 7, 8)
		mustBe(t, k, &told{n: 5, l: all(a, 1, 2)}, 6, 7, 8)
	}
	h.Drop(last)
	mustBe(t, g, &told{n: 3, l: all(a, 1, 2)}, 6, 7, 8)
	mustBe(t, h, &told{n: 3}, 6, 7, 8)
}

// byChance is some attestation of a part of 1 to a few more than n, and whether it is right.
func byChance(rnd *rand.Rand, n, view int) (api.Att, bool) {
	some := votes(1+rnd.Intn(3), view)
	a := signed(1+rnd.Intn(min(21, n+2)), some[rnd.Intn(rnd.Intn(3)+1)])
	switch rnd.Intn(12) {
	case 0:
		a.Tag[rnd.Intn(32)] ^= 1 << rnd.Intn(8)
		return a, false
	case 1:
		a.By, a.Tag = 0, tagOf(0, a)
		return a, false
	case 2:
		a.PView = view + 1
		a.Tag = tagOf(a.By, a)
		return a, false
	}
	return a, true
}

// Ga1 to Ga3: calls by chance are answered as a list answers them, also where it is full.
func TestByChance(t *testing.T) {
	rnd := rand.New(rand.NewSource(7))
	var many [17]int
	certs := 0
	for round := range 60 {
		n := odd()[round%11]
		g, m := mustNew(t, n), &told{n: n}
		low, wide := 2+rnd.Intn(last-200), 1+rnd.Intn(80)
		for range 500 {
			view := low + rnd.Intn(wide)
			if rnd.Intn(150) == 0 {
				g.Drop(view)
				m.drop(view)
			}
			a, right := byChance(rnd, n, view)
			want := m.add(a, right)
			many[want]++
			mustAdd(t, g, a, want)
		}
		var views []int
		for view := low - 1; view <= low+wide; view++ {
			views = append(views, view)
			if _, ok := m.cert(2, view); ok {
				certs++
			}
		}
		mustBe(t, g, m, views...)
	}
	for _, e := range []api.Errno{api.OK, api.ErrTag, api.ErrThere, api.ErrFull} {
		if many[e] < 100 {
			t.Errorf("error %d was answered %d times", e, many[e])
		}
	}
	if certs < 50 {
		t.Errorf("%d certificates", certs)
	}
}
