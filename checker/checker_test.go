package checker

import (
	"crypto/hmac"
	"crypto/sha256"
	"encoding/binary"
	"math"
	"math/rand"
	"reflect"
	"slices"
	"testing"

	"tithing/accu"
	"tithing/api"
	"tithing/att"
	"tithing/blob"
	"tithing/block"
	"tithing/cert"
)

// last is the last view that there is, by the chapter.
const last = 1 << 40

// rising is a hash of 32 unlike bytes, full one of bytes 255, of one that is nought but for its last byte.
func rising() (h api.Hash) {
	for i := range h {
		h[i] = byte(i + 1)
	}
	return h
}

func full() (h api.Hash) {
	for i := range h {
		h[i] = 255
	}
	return h
}

func of(n int) (h api.Hash) {
	h[31] = byte(n)
	return h
}

// upTo are the numbers from 1 on.
func upTo(n int) []int {
	l := make([]int, n)
	for i := range l {
		l[i] = i + 1
	}
	return l
}

// made is a seal.
func made(view, phase, pview int, phash api.Hash) api.Seal {
	return api.Seal{View: view, Phase: phase, PView: pview, PHash: phash}
}

// right are seals that may be, of all phases, at all edges.
func right() []api.Seal {
	return []api.Seal{
		{}, made(1, 1, 0, of(0)), made(1, 1, 0, rising()), made(1, 2, 0, of(0)), made(1, 3, 0, rising()), made(1, 3, 1, rising()),
		made(7, 1, 6, rising()), made(7, 1, 0, full()), made(7, 2, 6, of(1)), made(7, 2, 3, of(0)), made(7, 3, 7, rising()), made(7, 3, 6, of(2)),
		made(300, 1, 299, full()), made(300, 2, 128, rising()), made(300, 3, 300, of(0)), made(1<<32+7, 2, 1<<32, rising()),
		made(last-1, 1, last-2, rising()), made(last-1, 3, last-1, full()), made(last, 1, last-1, rising()), made(last, 2, 0, full()),
		made(last, 3, last, rising()), made(last, 3, 0, of(0)),
	}
}

// wrong are seals that may not be; some of them would be ahead of everything, were they any.
func wrong() []api.Seal {
	l := []api.Seal{
		{Phase: 1}, {Phase: 2}, {Phase: 3}, {Phase: -1}, {View: 1}, {View: -1}, {PView: 1}, {PView: -1}, {PHash: rising()}, {PHash: of(1)},
		made(1, 1, 1, rising()), made(1, 2, 1, rising()), made(1, 3, 2, rising()), made(1, 4, 0, of(0)), made(1, -1, 0, of(0)),
		made(2, 1, 2, of(0)), made(2, 2, 2, of(0)), made(2, 1, -1, of(0)), made(2, 257, 1, of(0)), made(-5, 1, 0, of(0)),
		made(last+1, 3, 0, of(0)), made(last+1, 3, last, of(0)), made(last, 3, last+1, of(0)), made(last, 1, last, of(0)),
	}
	for _, n := range []int{math.MinInt, -last, -last - 1, 1 << 41, 1 << 62, math.MaxInt} {
		l = append(l, made(n, 1, 0, of(0)), made(n, 3, n, rising()), made(4, n, 0, of(0)), made(4, 1, n, of(0)), api.Seal{Phase: n}, api.Seal{PView: n})
	}
	return l
}

// noViews are numbers of which there is no view.
func noViews() []int {
	return []int{math.MinInt, math.MinInt + 1, -1 << 41, -last - 1, -last, -256, -3, -2, -1, 0, last + 1, last + 2, 1 << 41, 1<<62 + 3, math.MaxInt - 1, math.MaxInt}
}

// odd are the numbers of parts of which there is a quorum; noQuorums are some of which there is none.
func odd() []int { return []int{1, 3, 5, 7, 9, 11, 13, 15, 17, 19, 21} }

func noQuorums() []int {
	return []int{math.MinInt, -1 << 40, -3, -1, 0, 2, 4, 6, 8, 10, 12, 14, 16, 18, 20, 22, 23, 255, 257, 259, 1<<32 + 3, math.MaxInt}
}

// num is bytes with a number's behind, by the library.
func num(b []byte, n int) []byte { return binary.AppendUvarint(b, uint64(n)) }

// tag is a part's tag by the library.
func tag(by int, domain byte, b []byte) api.Hash {
	key := sha256.Sum256(append([]byte("tithing key "), byte(by)))
	m := hmac.New(sha256.New, key[:])
	m.Write([]byte{domain})
	m.Write(b)
	return api.Hash(m.Sum(nil))
}

// ownTag is an accumulation with its own tag by the library, whatever it is.
func ownTag(a api.Accu) api.Accu {
	b := append(num(num(nil, a.View), a.PView), a.PHash[:]...)
	b = num(b, len(a.Froms))
	for _, from := range a.Froms {
		b = num(b, from)
	}
	a.Tag = tag(a.By, 2, b)
	return a
}

// accuOf is an accumulation of the first parts of n, as many as a quorum.
func accuOf(by, n, view, pview int, phash api.Hash) api.Accu {
	return ownTag(api.Accu{By: by, View: view, PView: pview, PHash: phash, Froms: upTo(n/2 + 1)})
}

// signed is an attestation of some parts with their tags by the library, as a certificate, whatever it is.
func signed(a api.Att, bys ...int) api.Cert {
	b := append(num(num(num(nil, a.Kind), a.View), a.Phase), a.Hash[:]...)
	b = append(num(b, a.PView), a.PHash[:]...)
	c := api.Cert{Att: a}
	for _, by := range bys {
		c.Sigs = append(c.Sigs, api.Sig{By: by, Tag: tag(by, 1, b)})
	}
	return c
}

// certOf is a certificate of the first parts of n, as many as a quorum.
func certOf(kind, n, view int, hash api.Hash, pview int, phash api.Hash) api.Cert {
	return signed(api.Att{Kind: kind, View: view, Phase: kind, Hash: hash, PView: pview, PHash: phash}, upTo(n/2+1)...)
}

// on is a block on a parent.
func on(parent api.Hash, view, height, by int, txs ...api.Tx) api.Block {
	return api.Block{Parent: parent, View: view, Height: height, By: by, Txs: txs}
}

// some are as many transactions.
func some(n int) []api.Tx {
	l := make([]api.Tx, n)
	for i := range l {
		l[i] = api.Tx{From: i%40 + 1, Nonce: i + 1, Kind: api.TxPay, To: 2, Amount: 300}
	}
	return l
}

// bare is the hash of a block without transactions, by the library.
func bare(b api.Block) api.Hash {
	t := append([]byte("block"), b.Parent[:]...)
	return sha256.Sum256(num(num(num(num(t, b.View), b.Height), b.By), 0))
}

// blocks are blocks of a view that may be, and are not the first one.
func blocks(view int) []api.Block {
	return []api.Block{
		on(of(0), view, 1, 1), on(rising(), view, 1, 1), on(full(), view, last, 21), on(rising(), view, 3, 2, some(1)...),
		on(of(7), view, 1<<20, 7, some(8)...), {Parent: of(9), View: view, Height: 9, By: 9, Txs: []api.Tx{}},
	}
}

// wrongBlocks are blocks of a view that may not be, and the first one.
func wrongBlocks(view int) []api.Block {
	l := []api.Block{
		{}, block.First(), {Txs: []api.Tx{}}, on(rising(), 0, 0, 0), on(of(0), view, 0, 0), on(of(0), 0, 1, 1), on(rising(), view, 1, 1, some(9)...),
		on(rising(), view, 1, 1, api.Tx{}), on(rising(), view, 1, 1, append(some(7), api.Tx{From: 1, Nonce: 1, Kind: api.TxPut, Key: "A"})...),
	}
	for _, n := range noViews() {
		l = append(l, on(rising(), n, 1, 1), on(rising(), view, n, 1), on(rising(), view, 1, n), on(rising(), n, n, n))
	}
	for _, n := range []int{22, 23, 255, 256, 257, 1<<32 + 1} {
		l = append(l, on(rising(), view, 1, n))
	}
	return l
}

// around are views about a seal's, and at both ends, that there are.
func around(s api.Seal) []int {
	var l []int
	for _, view := range []int{1, 2, s.PView, s.View - 1, s.View, s.View + 1, s.View + 2, s.View + 256, 1 << 32, last - 1, last} {
		if 1 <= view && view <= last && !slices.Contains(l, view) {
			l = append(l, view)
		}
	}
	return l
}

// isAhead tells whether a seal is ahead of a view and phase, in the chapter's words.
func isAhead(s api.Seal, view, phase int) bool {
	return s.View < view || s.View == view && s.Phase < phase
}

// answer is what a call answers.
type answer struct {
	s api.Seal
	a api.Att
	e api.Errno
}

// ofNew, ofPrep and ofStore are what those calls answer.
func ofNew(s api.Seal, view int) answer {
	next, a, e := New(s, view)
	return answer{next, a, e}
}

func ofPrep(s api.Seal, n int, b api.Block, a api.Accu) answer {
	next, told, e := Prep(s, n, b, a)
	return answer{next, told, e}
}

func ofStore(s api.Seal, n int, c api.Cert) answer {
	next, a, e := Store(s, n, c)
	return answer{next, a, e}
}

// fault is an answer of an error, beside which all is nought.
func fault(e api.Errno) answer { return answer{e: e} }

// must fails, unless an answer is another one.
func must(t *testing.T, what string, got, want answer) {
	t.Helper()
	if got != want {
		t.Errorf("%s:\n got %v\nwant %v", what, got, want)
	}
}

// wantNew is what New answers of a seal that may be, and a view that there is.
func wantNew(s api.Seal, view int) answer {
	if !isAhead(s, view, 1) {
		return fault(api.ErrOld)
	}
	return answer{
		s: api.Seal{View: view, Phase: 1, PView: s.PView, PHash: s.PHash},
		a: api.Att{Kind: 1, View: view, Phase: 1, PView: s.PView, PHash: s.PHash},
	}
}

// wantPrep is what Prep answers of a seal that may be, a block of some hash, and a right accumulation of it.
func wantPrep(s api.Seal, view int, hash api.Hash, pview int, phash api.Hash) answer {
	if !isAhead(s, view, 2) {
		return fault(api.ErrOld)
	}
	return answer{
		s: api.Seal{View: view, Phase: 2, PView: s.PView, PHash: s.PHash},
		a: api.Att{Kind: 2, View: view, Phase: 2, Hash: hash, PView: pview, PHash: phash},
	}
}

// wantStore is what Store answers of a seal that may be, and a right certificate of a prepared block.
func wantStore(s api.Seal, view int, hash api.Hash) answer {
	if !isAhead(s, view, 3) {
		return fault(api.ErrOld)
	}
	return answer{
		s: api.Seal{View: view, Phase: 3, PView: view, PHash: hash},
		a: api.Att{Kind: 3, View: view, Phase: 3, Hash: hash, PView: view, PHash: hash},
	}
}

// The chapter's example.
func TestExample(t *testing.T) {
	s, a, e := New(api.Seal{}, 3)
	if s != made(3, 1, 0, of(0)) || a != (api.Att{Kind: 1, View: 3, Phase: 1}) || e != api.OK {
		t.Fatalf("a new view 3: %v, %v, error %d", s, a, e)
	}
	b, l := on(of(0), 3, 1, 3), accuOf(3, 3, 3, 0, of(0))
	s, a, e = Prep(s, 3, b, l)
	if s != made(3, 2, 0, of(0)) || a != (api.Att{Kind: 2, View: 3, Phase: 2, Hash: bare(b)}) || e != api.OK {
		t.Fatalf("a block of it: %v, %v, error %d", s, a, e)
	}
	must(t, "another block of it", ofPrep(s, 3, on(of(0), 3, 1, 2), l), fault(api.ErrOld))
	must(t, "the same block once more", ofPrep(s, 3, b, l), fault(api.ErrOld))
	must(t, "the new view once more", ofNew(s, 3), fault(api.ErrOld))
}

// Ck1: New of every seal and view that may be: old, or what the chapter says.
func TestNew(t *testing.T) {
	for _, s := range right() {
		for _, view := range around(s) {
			must(t, "New", ofNew(s, view), wantNew(s, view))
		}
	}
}

// Ck1: New of a seal's own view is old, but of no other one ahead.
func TestNewOld(t *testing.T) {
	for phase := 1; phase <= 3; phase++ {
		s := made(9, phase, 8, rising())
		must(t, "one less", ofNew(s, 8), fault(api.ErrOld))
		must(t, "the same", ofNew(s, 9), fault(api.ErrOld))
		must(t, "one more", ofNew(s, 10), answer{s: made(10, 1, 8, rising()), a: api.Att{Kind: 1, View: 10, Phase: 1, PView: 8, PHash: rising()}})
	}
	must(t, "a great leap", ofNew(api.Seal{}, last), answer{s: made(last, 1, 0, of(0)), a: api.Att{Kind: 1, View: last, Phase: 1}})
	must(t, "at the end", ofNew(made(last, 1, 0, of(0)), last), fault(api.ErrOld))
}

// Ck1: New of a view that there is not, or of a seal that may not be, is ErrArg; also where the step would be old.
func TestNewArg(t *testing.T) {
	for _, s := range right() {
		for _, view := range noViews() {
			must(t, "no view", ofNew(s, view), fault(api.ErrArg))
		}
	}
	for _, s := range wrong() {
		for _, view := range append(noViews(), 1, 2, 4, 5, 300, last-1, last) {
			must(t, "no seal", ofNew(s, view), fault(api.ErrArg))
		}
	}
}

// Ck1: Prep of every seal that may be, and blocks of views about its own: old, or what the chapter says.
func TestPrep(t *testing.T) {
	for _, s := range right() {
		for _, view := range around(s) {
			for i, b := range blocks(view) {
				n := odd()[i%11]
				pview := []int{0, view - 1, view / 2}[i%3]
				hash := block.Hash(b)
				if len(b.Txs) == 0 {
					hash = bare(b)
				}
				must(t, "Prep", ofPrep(s, n, b, accuOf(n, n, view, pview, b.Parent)), wantPrep(s, view, hash, pview, b.Parent))
			}
		}
	}
}

// Ck1: what is attested has the accumulation's prepared block, the seal behind has its own still.
func TestPrepOwn(t *testing.T) {
	s, b := made(7, 1, 6, full()), on(rising(), 7, 4, 2, some(3)...)
	got := ofPrep(s, 5, b, accuOf(4, 5, 7, 2, rising()))
	must(t, "Prep", got, answer{
		s: made(7, 2, 6, full()),
		a: api.Att{Kind: 2, View: 7, Phase: 2, Hash: block.Hash(b), PView: 2, PHash: rising()},
	})
	got = ofPrep(made(2, 3, 2, of(1)), 1, b, accuOf(1, 1, 7, 0, rising())) // straight from an earlier view
	must(t, "Prep", got, answer{
		s: made(7, 2, 2, of(1)),
		a: api.Att{Kind: 2, View: 7, Phase: 2, Hash: block.Hash(b), PHash: rising()},
	})
}

// Ck1: who made the block, its height, and by whom the accumulation is, does not matter, as long as it is right.
func TestPrepFree(t *testing.T) {
	for _, n := range odd() {
		for by := 1; by <= n; by++ {
			b := on(rising(), 5, by*1000, 22-by)
			a := accuOf(by, n, 5, 3, rising())
			want := wantPrep(api.Seal{}, 5, bare(b), 3, rising())
			must(t, "the first parts", ofPrep(api.Seal{}, n, b, a), want)
			for i := range a.Froms {
				a.Froms[i] += n / 2
			}
			must(t, "the last parts", ofPrep(api.Seal{}, n, b, ownTag(a)), want)
		}
	}
}

// Ck1: Prep is ErrArg of a seal that may not be; whatever else is wrong, too.
func TestPrepNoSeal(t *testing.T) {
	b := on(rising(), 5, 1, 1)
	for _, s := range wrong() {
		must(t, "no seal", ofPrep(s, 3, b, accuOf(1, 3, 5, 3, rising())), fault(api.ErrArg))
		must(t, "nor accumulation", ofPrep(s, 3, b, api.Accu{}), fault(api.ErrArg))
		must(t, "nor block", ofPrep(s, 0, api.Block{}, api.Accu{}), fault(api.ErrArg))
	}
}

// Ck1: Prep is ErrArg of a block that may not be, and of the first one; ahead of a wrong accumulation, and of what is old.
func TestPrepNoBlock(t *testing.T) {
	for _, s := range []api.Seal{{}, made(4, 1, 0, of(0)), made(5, 2, 4, rising()), made(last, 3, last, full())} {
		for _, b := range wrongBlocks(5) {
			must(t, "no block", ofPrep(s, 3, b, accuOf(1, 3, 5, 3, b.Parent)), fault(api.ErrArg))
			must(t, "its view", ofPrep(s, 3, b, ownTag(api.Accu{By: 1, View: b.View, PHash: b.Parent, Froms: []int{1, 2}})), fault(api.ErrArg))
			must(t, "nor accumulation", ofPrep(s, 3, b, api.Accu{}), fault(api.ErrArg))
			must(t, "nor quorum", ofPrep(s, 2, b, accuOf(1, 3, 5, 3, b.Parent)), fault(api.ErrArg))
		}
	}
}

// wrongAccus are accumulations for 3 parts that are not right, or not of a block of view 5 on rising.
func wrongAccus() []api.Accu {
	l := []api.Accu{
		{}, {By: 1, View: 5, PHash: rising(), Froms: []int{1, 2}},
		accuOf(1, 3, 4, 3, rising()), accuOf(1, 3, 6, 3, rising()), accuOf(1, 3, 261, 3, rising()), accuOf(1, 3, 1<<32+5, 3, rising()),
		accuOf(1, 3, 5, 3, of(0)), accuOf(1, 3, 5, 3, full()), accuOf(1, 3, 5, 0, of(0)),
		accuOf(0, 3, 5, 3, rising()), accuOf(4, 3, 5, 3, rising()), accuOf(-1, 3, 5, 3, rising()), accuOf(257, 3, 5, 3, rising()),
		accuOf(1, 1, 5, 3, rising()), accuOf(1, 5, 5, 3, rising()), accuOf(1, 3, 5, 5, rising()), accuOf(1, 3, 5, 6, rising()), accuOf(1, 3, 5, -1, rising()),
	}
	for _, froms := range [][]int{nil, {}, {1}, {1, 1}, {2, 1}, {1, 4}, {0, 1}, {1, 2, 3}, {3, 22}} {
		l = append(l, ownTag(api.Accu{By: 1, View: 5, PView: 3, PHash: rising(), Froms: froms}))
	}
	for i := range 32 {
		a, b := accuOf(1, 3, 5, 3, rising()), accuOf(1, 3, 5, 3, rising())
		a.Tag[i] ^= 1
		b.PHash[i] ^= 128
		l = append(l, a, b, ownTag(b))
	}
	other := accuOf(1, 3, 5, 3, rising())
	other.By = 2 // with another part's tag
	return append(l, other)
}

// Ck1: Prep is ErrTag of an accumulation that is not right, or not of the block; ahead of what is old.
func TestPrepTag(t *testing.T) {
	b := on(rising(), 5, 1, 1)
	for _, s := range right() {
		for _, a := range wrongAccus() {
			must(t, "a wrong accumulation", ofPrep(s, 3, b, a), fault(api.ErrTag))
		}
		for _, n := range noQuorums() {
			must(t, "no quorum", ofPrep(s, n, b, accuOf(1, 3, 5, 3, rising())), fault(api.ErrTag))
		}
		for _, n := range odd() {
			for _, m := range odd() {
				if n != m {
					must(t, "of so many others", ofPrep(s, n, b, accuOf(1, m, 5, 3, rising())), fault(api.ErrTag))
				}
			}
		}
	}
}

// Ck1: Prep of a block behind the seal, or of its own view where that is prepared, is old; though all else is right.
func TestPrepOld(t *testing.T) {
	for view := 1; view <= 9; view++ {
		for phase := 1; phase <= 3; phase++ {
			s, b := made(5, phase, 4, full()), on(rising(), view, 1, 1)
			want := api.OK
			if view < 5 || view == 5 && phase > 1 {
				want = api.ErrOld
			}
			if got := ofPrep(s, 3, b, accuOf(3, 3, view, 0, rising())); got.e != want {
				t.Errorf("view %d, phase %d: error %d, want %d", view, phase, got.e, want)
			}
		}
	}
}

// Ck1: Store of every seal that may be, and certificates of views about its own: old, or what the chapter says; whatever prepared block the certificate has.
func TestStore(t *testing.T) {
	for _, s := range right() {
		for _, view := range around(s) {
			for i, hash := range []api.Hash{rising(), full(), of(0), of(3)} {
				for j, phash := range []api.Hash{full(), of(0), rising()} {
					n := odd()[(i*3+j)%11]
					pview := []int{0, view - 1, view / 2}[(i+j)%3]
					must(t, "Store", ofStore(s, n, certOf(2, n, view, hash, pview, phash)), wantStore(s, view, hash))
				}
			}
		}
	}
}

// Ck1: any quorum may have signed.
func TestStoreSigners(t *testing.T) {
	a := api.Att{Kind: 2, View: 8, Phase: 2, Hash: rising(), PView: 7, PHash: full()}
	want := answer{
		s: made(8, 3, 8, rising()),
		a: api.Att{Kind: 3, View: 8, Phase: 3, Hash: rising(), PView: 8, PHash: rising()},
	}
	for _, bys := range [][]int{{1, 2, 3}, {1, 2, 5}, {1, 4, 5}, {2, 3, 4}, {3, 4, 5}} {
		must(t, "Store", ofStore(made(8, 2, 3, of(1)), 5, signed(a, bys...)), want)
		must(t, "Store", ofStore(api.Seal{}, 5, signed(a, bys...)), want)
	}
}

// Ck1: Store is ErrArg of a seal that may not be; whatever else is wrong, too.
func TestStoreNoSeal(t *testing.T) {
	for _, s := range wrong() {
		must(t, "no seal", ofStore(s, 3, certOf(2, 3, 5, rising(), 4, full())), fault(api.ErrArg))
		must(t, "nor certificate", ofStore(s, 3, api.Cert{}), fault(api.ErrArg))
		must(t, "nor quorum", ofStore(s, 2, certOf(2, 3, 5, rising(), 4, full())), fault(api.ErrArg))
	}
}

// wrongCerts are certificates for 3 parts that are not right.
func wrongCerts() []api.Cert {
	a := api.Att{Kind: 2, View: 5, Phase: 2, Hash: rising(), PView: 4, PHash: full()}
	l := []api.Cert{
		{}, {Att: a}, {Att: a, Sigs: []api.Sig{{By: 1}, {By: 2}}}, signed(api.Att{}, 1, 2),
		signed(a), signed(a, 1), signed(a, 1, 2, 3), signed(a, 2, 1), signed(a, 1, 1), signed(a, 1, 4), signed(a, 0, 1), signed(a, -1, 1), signed(a, 1, 257), signed(a, 3, 22),
	}
	for _, turn := range []func(*api.Att){
		func(a *api.Att) { a.By = 1 }, func(a *api.Att) { a.By = -1 }, func(a *api.Att) { a.Tag = of(1) }, func(a *api.Att) { a.Phase = 1 }, func(a *api.Att) { a.Phase = 3 },
		func(a *api.Att) { a.Kind = 1 }, func(a *api.Att) { a.Kind = 3 }, func(a *api.Att) { a.Kind, a.Phase = 0, 0 }, func(a *api.Att) { a.Kind, a.Phase = 4, 4 },
		func(a *api.Att) { a.Kind, a.Phase = 258, 258 }, func(a *api.Att) { a.View = 0 }, func(a *api.Att) { a.View = -5 }, func(a *api.Att) { a.View = last + 1 },
		func(a *api.Att) { a.View = math.MaxInt }, func(a *api.Att) { a.PView = 5 }, func(a *api.Att) { a.PView = 6 }, func(a *api.Att) { a.PView = -1 },
	} {
		x := a
		turn(&x)
		l = append(l, signed(x, 1, 2))
	}
	for i := range 32 {
		for at := range 2 {
			c := signed(a, 1, 2)
			c.Sigs[at].Tag[i] ^= 1
			l = append(l, c)
		}
		c, d := signed(a, 1, 2), signed(a, 1, 2)
		c.Att.Hash[i] ^= 128
		d.Att.PHash[i] ^= 128
		l = append(l, c, d)
	}
	c, d := signed(a, 1, 2), signed(a, 1, 2)
	c.Att.View = 6
	d.Sigs[1].By = 3 // with another part's tag
	return append(l, c, d)
}

// Ck1: Store is ErrTag of a certificate that is not right; ahead of what is old.
func TestStoreTag(t *testing.T) {
	for _, s := range right() {
		for _, c := range wrongCerts() {
			must(t, "a wrong certificate", ofStore(s, 3, c), fault(api.ErrTag))
		}
		for _, n := range noQuorums() {
			must(t, "no quorum", ofStore(s, n, certOf(2, 3, 5, rising(), 4, full())), fault(api.ErrTag))
		}
		for _, n := range odd() {
			for _, m := range odd() {
				if n != m {
					must(t, "of so many others", ofStore(s, n, certOf(2, m, 5, rising(), 4, full())), fault(api.ErrTag))
				}
			}
		}
	}
}

// Ck1: Store is ErrTag of a certificate that is right, but of another kind; ahead of what is old.
func TestStoreKind(t *testing.T) {
	for _, s := range right() {
		for _, view := range around(s) {
			for _, c := range []api.Cert{
				certOf(1, 3, view, of(0), view-1, rising()), certOf(1, 3, view, rising(), 0, of(0)),
				certOf(3, 3, view, rising(), view, rising()), certOf(3, 3, view, rising(), view-1, full()),
			} {
				if !cert.Right(3, c) {
					t.Fatalf("%v is not right", c)
				}
				must(t, "another kind", ofStore(s, 3, c), fault(api.ErrTag))
			}
		}
	}
}

// Ck1: Store of a certificate behind the seal, or of its own view where that is stored, is old; though all else is right.
func TestStoreOld(t *testing.T) {
	for view := 1; view <= 9; view++ {
		for phase := 1; phase <= 3; phase++ {
			want := api.OK
			if view < 5 || view == 5 && phase == 3 {
				want = api.ErrOld
			}
			if got := ofStore(made(5, phase, 4, full()), 3, certOf(2, 3, view, rising(), 0, of(0))); got.e != want {
				t.Errorf("view %d, phase %d: error %d, want %d", view, phase, got.e, want)
			}
		}
	}
}

// R1: of zero values: a seal there is; no block, no accumulation, no certificate.
func TestZero(t *testing.T) {
	must(t, "New", ofNew(api.Seal{}, 0), fault(api.ErrArg))
	must(t, "Prep", ofPrep(api.Seal{}, 0, api.Block{}, api.Accu{}), fault(api.ErrArg))
	must(t, "Prep", ofPrep(api.Seal{}, 3, on(of(0), 1, 1, 1), api.Accu{}), fault(api.ErrTag))
	must(t, "Store", ofStore(api.Seal{}, 0, api.Cert{}), fault(api.ErrTag))
	must(t, "Store", ofStore(api.Seal{}, 3, api.Cert{}), fault(api.ErrTag))
}

// tries are calls on a seal, by chance, about its view; what is answered, and what the chapter's words say.
func tries(rnd *rand.Rand, s api.Seal) (got, want answer) {
	view := max(1, min(last, s.View+rnd.Intn(5)-2))
	hash, parent := of(rnd.Intn(4)), of(rnd.Intn(4))
	pview := rnd.Intn(min(view, 5))
	n := odd()[rnd.Intn(3)]
	switch rnd.Intn(5) {
	case 0:
		return ofNew(s, view), wantNew(s, view)
	case 1:
		b := on(parent, view, 1+rnd.Intn(3), 1)
		return ofPrep(s, n, b, accuOf(1, n, view, pview, parent)), wantPrep(s, view, bare(b), pview, parent)
	case 2:
		return ofStore(s, n, certOf(2, n, view, hash, pview, parent)), wantStore(s, view, hash)
	case 3:
		return ofPrep(s, n, on(parent, view, 1, 1), accuOf(1, n, view, pview, full())), fault(api.ErrTag)
	}
	return ofStore(s, n, certOf(3, n, view, hash, pview, parent)), fault(api.ErrTag)
}

// Ck1, Ck2: by chance, one step behind the other: each seal may be, and is ahead of nothing that it was; what is attested may be, and rises.
func TestSteps(t *testing.T) {
	rnd := rand.New(rand.NewSource(15))
	counts := map[api.Errno]int{}
	for range 60 {
		s := api.Seal{}
		if rnd.Intn(2) == 0 {
			s = right()[rnd.Intn(len(right()))]
		}
		was := []api.Seal{s}
		var told api.Att
		for range 60 {
			got, want := tries(rnd, s)
			must(t, "by chance", got, want)
			counts[got.e]++
			if got.e != api.OK {
				continue
			}
			s = got.s
			mustStand(t, s, was)
			mustRise(t, told, got.a)
			if got.a.Kind != got.a.Phase || got.a.View != s.View || got.a.Phase != s.Phase {
				t.Errorf("attested %v, the seal behind %v", got.a, s)
			}
			was, told = append(was, s), got.a
		}
	}
	if counts[api.OK] < 100 || counts[api.ErrOld] < 100 || counts[api.ErrTag] < 100 {
		t.Errorf("too few of some: %v", counts)
	}
}

// mustStand fails, unless a seal may be, and is ahead of none that were.
func mustStand(t *testing.T, s api.Seal, was []api.Seal) {
	t.Helper()
	if e := blob.Check(s); e != api.OK {
		t.Errorf("%v may not be: error %d", s, e)
	}
	for _, x := range was {
		if blob.Less(s, x) || !blob.Less(x, s) {
			t.Errorf("%v is behind %v", s, x)
		}
	}
}

// mustRise fails, unless an attestation may be, as some part's, and is of a greater view and phase than the one before it.
func mustRise(t *testing.T, before, a api.Att) {
	t.Helper()
	if a.View < before.View || a.View == before.View && a.Phase <= before.Phase {
		t.Errorf("attested %v behind %v", a, before)
	}
	if a.By != 0 || a.Tag != of(0) {
		t.Errorf("attested %v: by somebody", a)
	}
	a.By = 1
	if e := att.Check(a); e != api.OK {
		t.Errorf("attested %v may not be: error %d", a, e)
	}
}

// signedBy are an attestation's of parts 1 to n, signed.
func signedBy(n int, a api.Att) []api.Att {
	var l []api.Att
	for _, by := range upTo(n) {
		a.By = by
		l = append(l, att.Sign(a))
	}
	return l
}

// mustGo fails, unless a step is done.
func mustGo(t *testing.T, what string, got answer) (api.Seal, api.Att) {
	t.Helper()
	if got.e != api.OK {
		t.Fatalf("%s: error %d", what, got.e)
	}
	return got.s, got.a
}

// Ck2: what is attested, signed by a quorum, is what the next step asks for; and the next view hangs on what was stored.
func TestRounds(t *testing.T) {
	s, parent := api.Seal{}, of(0)
	for view := 1; view <= 20; view++ {
		var a api.Att
		s, a = mustGo(t, "New", ofNew(s, view))
		l, e := accu.Make(2, 3, view, signedBy(2, a))
		if e != api.OK || l.PView != view-1 || l.PHash != parent {
			t.Fatalf("view %d: %v, error %d", view, l, e)
		}
		b := on(parent, view, view, 2, some(view%9)...)
		s, a = mustGo(t, "Prep", ofPrep(s, 3, b, l))
		c, e := cert.Make(3, signedBy(2, a))
		if e != api.OK {
			t.Fatalf("view %d: error %d", view, e)
		}
		s, a = mustGo(t, "Store", ofStore(s, 3, c))
		if c, e = cert.Make(3, signedBy(2, a)); e != api.OK || c.Att.Hash != block.Hash(b) {
			t.Fatalf("view %d: %v, error %d", view, c, e)
		}
		must(t, "what is stored is no prepared block's", ofStore(api.Seal{}, 3, c), fault(api.ErrTag))
		parent = block.Hash(b)
	}
	if s != made(20, 3, 20, parent) {
		t.Errorf("at last: %v", s)
	}
}

// R3: nothing is written to what is handed in.
func TestHandedIn(t *testing.T) {
	b, x := on(rising(), 5, 1, 1, some(5)...), on(rising(), 5, 1, 1, some(5)...)
	a, y := accuOf(1, 5, 5, 3, rising()), accuOf(1, 5, 5, 3, rising())
	c, z := certOf(2, 5, 5, rising(), 3, full()), certOf(2, 5, 5, rising(), 3, full())
	for _, s := range append(right(), wrong()...) {
		for _, n := range []int{0, 3, 5} {
			Prep(s, n, b, a)
			Store(s, n, c)
		}
	}
	if !reflect.DeepEqual(b, x) || !reflect.DeepEqual(a, y) || !reflect.DeepEqual(c, z) {
		t.Errorf("turned: %v, %v, %v", b, a, c)
	}
}

// R4: what is answered hangs on the arguments alone: a step from a seal may be done again, and another one in its place.
func TestNothingIsKept(t *testing.T) {
	s := made(5, 1, 4, full())
	for height := 1; height <= 5; height++ {
		b := on(rising(), 5, height, 1)
		must(t, "New", ofNew(s, 6), wantNew(s, 6))
		must(t, "Prep", ofPrep(s, 3, b, accuOf(1, 3, 5, 2, rising())), wantPrep(s, 5, bare(b), 2, rising()))
		must(t, "Store", ofStore(s, 3, certOf(2, 3, 5, of(height), 2, of(0))), wantStore(s, 5, of(height)))
		must(t, "New", ofNew(s, 5), fault(api.ErrOld))
	}
}

// R5: no list, and an empty one, are the same.
func TestNoList(t *testing.T) {
	none, empty := on(rising(), 5, 1, 1), on(rising(), 5, 1, 1)
	none.Txs, empty.Txs = nil, make([]api.Tx, 0, 4)
	a := accuOf(1, 3, 5, 2, rising())
	must(t, "an empty list", ofPrep(api.Seal{}, 3, empty, a), ofPrep(api.Seal{}, 3, none, a))
	must(t, "the first block", ofPrep(api.Seal{}, 3, api.Block{Txs: make([]api.Tx, 0, 4)}, a), fault(api.ErrArg))
	c := certOf(2, 3, 5, rising(), 2, of(0))
	c.Sigs = []api.Sig{}
	must(t, "no signature", ofStore(api.Seal{}, 3, c), fault(api.ErrTag))
}
