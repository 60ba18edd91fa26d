package tee

import (
	"bytes"
	"crypto/hmac"
	"crypto/sha256"
	"encoding/binary"
	"math"
	"math/rand"
	"reflect"
	"slices"
	"testing"

	"tithing/api"
	"tithing/att"
	"tithing/block"
	"tithing/cert"
	"tithing/vault"
)

// last is the last view that there is, end how far a counter goes, by the chapters.
const (
	last = 1 << 40
	end  = 1 << 40
)

// rising is a hash of 32 unlike bytes, full one of bytes 255, of one that is nought but for its last byte.
func rising() (h api.Hash) {
	for i := range h {
		h[i] = byte(i + 1)
	}
	return h
}

func full() (h api.Hash) {
	for i := range h {
		h[i] = 255
	}
	return h
}

func of(n int) (h api.Hash) {
	h[31] = byte(n)
	return h
}

// upTo are the numbers from 1 on.
func upTo(n int) []int {
	l := make([]int, n)
	for i := range l {
		l[i] = i + 1
	}
	return l
}

// odd are the numbers of parts of which there is a quorum; noQuorums are some of which there is none.
func odd() []int { return []int{1, 3, 5, 7, 9, 11, 13, 15, 17, 19, 21} }

func noQuorums() []int {
	return []int{math.MinInt, -1 << 40, -21, -3, -1, 0, 2, 4, 6, 8, 10, 12, 14, 16, 18, 20, 22, 23, 25, 255, 257, 259, 1<<32 + 3, math.MaxInt}
}

// noViews are numbers of which there is no view.
func noViews() []int {
	return []int{math.MinInt, -1 << 41, -last, -256, -2, -1, 0, last + 1, last + 2, 1 << 41, 1<<62 + 3, math.MaxInt}
}

// made is a seal.
func made(view, phase, pview int, phash api.Hash) api.Seal {
	return api.Seal{View: view, Phase: phase, PView: pview, PHash: phash}
}

// seals are seals that may be, of all phases, at all edges.
func seals() []api.Seal {
	return []api.Seal{
		{}, made(1, 1, 0, of(0)), made(1, 2, 0, rising()), made(1, 3, 1, rising()), made(7, 1, 6, rising()), made(7, 2, 3, of(0)),
		made(7, 3, 7, full()), made(300, 2, 128, rising()), made(last-1, 3, last-1, full()), made(last, 1, last-1, rising()),
		made(last, 2, 0, full()), made(last, 3, last, rising()),
	}
}

// num is bytes with a number's behind, by the library.
func num(b []byte, n int) []byte { return binary.AppendUvarint(b, uint64(n)) }

// tag is a part's tag by the library.
func tag(by int, domain byte, b []byte) api.Hash {
	key := sha256.Sum256(append([]byte("tithing key "), byte(by)))
	m := hmac.New(sha256.New, key[:])
	m.Write([]byte{domain})
	m.Write(b)
	return api.Hash(m.Sum(nil))
}

// written is a blob by the library.
func written(i, version int, s api.Seal) []byte {
	b := append(num(num(num(num(nil, version), s.View), s.Phase), s.PView), s.PHash[:]...)
	own := tag(i, 3, b)
	return append(b, own[:]...)
}

// tagOf is a part's tag of an attestation, by the library.
func tagOf(by int, a api.Att) api.Hash {
	b := append(num(num(num(nil, a.Kind), a.View), a.Phase), a.Hash[:]...)
	return tag(by, 1, append(num(b, a.PView), a.PHash[:]...))
}

// signed is an attestation as a part's, with its tag by the library.
func signed(by int, a api.Att) api.Att {
	a.By, a.Tag = by, tagOf(by, a)
	return a
}

// accuOf is an accumulation of some parts, with its own tag by the library, whatever it is.
func accuOf(by, view, pview int, phash api.Hash, froms ...int) api.Accu {
	b := num(append(num(num(nil, view), pview), phash[:]...), len(froms))
	for _, from := range froms {
		b = num(b, from)
	}
	return api.Accu{By: by, View: view, PView: pview, PHash: phash, Froms: froms, Tag: tag(by, 2, b)}
}

// rightAccu is one of the first parts of n, as many as a quorum.
func rightAccu(n, view, pview int, phash api.Hash) api.Accu {
	return accuOf(n, view, pview, phash, upTo(n/2+1)...)
}

// certOf is a certificate of the first parts of n, as many as a quorum.
func certOf(kind, n, view int, hash api.Hash, pview int, phash api.Hash) api.Cert {
	c := api.Cert{Att: api.Att{Kind: kind, View: view, Phase: kind, Hash: hash, PView: pview, PHash: phash}}
	for _, by := range upTo(n/2 + 1) {
		c.Sigs = append(c.Sigs, api.Sig{By: by, Tag: tagOf(by, c.Att)})
	}
	return c
}

// on is a block on a parent.
func on(parent api.Hash, view, height, by int, txs ...api.Tx) api.Block {
	return api.Block{Parent: parent, View: view, Height: height, By: by, Txs: txs}
}

// some are as many transactions.
func some(n int) []api.Tx {
	l := make([]api.Tx, n)
	for i := range l {
		l[i] = api.Tx{From: i%40 + 1, Nonce: i + 1, Kind: api.TxPay, To: 2, Amount: 300}
	}
	return l
}

// bare is the hash of a block without transactions, by the library.
func bare(b api.Block) api.Hash {
	t := append([]byte("block"), b.Parent[:]...)
	return sha256.Sum256(num(num(num(num(t, b.View), b.Height), b.By), 0))
}

// around are views about a seal's, and at both ends, that there are.
func around(s api.Seal) []int {
	var l []int
	for _, view := range []int{1, 2, s.PView, s.View - 1, s.View, s.View + 1, s.View + 256, last - 1, last} {
		if 1 <= view && view <= last && !slices.Contains(l, view) {
			l = append(l, view)
		}
	}
	return l
}

// mustVault is a part's vault, at a number.
func mustVault(t *testing.T, i, at int) *vault.Vault {
	t.Helper()
	v, e := vault.New(i, at)
	if e != api.OK {
		t.Fatalf("a vault of %d at %d: error %d", i, at, e)
	}
	return v
}

// mustHold is a part's vault at a number above nought, that has a seal.
func mustHold(t *testing.T, i, at int, s api.Seal) *vault.Vault {
	t.Helper()
	v := mustVault(t, i, at)
	mustSwap(t, v, at%2, written(i, at, s))
	return v
}

// mustSwap swaps a slot's bytes.
func mustSwap(t *testing.T, v *vault.Vault, k int, b []byte) {
	t.Helper()
	if e := v.Swap(k, b); e != api.OK {
		t.Fatalf("swapped: error %d", e)
	}
}

// mustStart is a part on a vault.
func mustStart(t *testing.T, i, n int, v *vault.Vault) *Tee {
	t.Helper()
	x, e := Start(i, n, v)
	if x == nil || e != api.OK || x.Halted() || x.Why() != api.OK {
		t.Fatalf("Start(%d, %d): %v, error %d", i, n, x, e)
	}
	return x
}

// mustOf is a part of a number, that has a seal; its vault is at 6 behind.
func mustOf(t *testing.T, i, n int, s api.Seal) (*Tee, *vault.Vault) {
	t.Helper()
	v := mustHold(t, i, 5, s)
	return mustStart(t, i, n, v), v
}

// mustBe fails, unless a part has a seal, and is halted by that, or not at all.
func mustBe(t *testing.T, what string, x *Tee, s api.Seal, why api.Errno) {
	t.Helper()
	for range 2 {
		if x.Seal() != s || x.Why() != why || x.Halted() != (why != api.OK) {
			t.Errorf("%s: the seal %v, halted %v, why %d, want %v, why %d", what, x.Seal(), x.Halted(), x.Why(), s, why)
		}
	}
}

// mustHave fails, unless a vault's slots, and its counter, are so.
func mustHave(t *testing.T, what string, v *vault.Vault, slots [2][]byte, at int) {
	t.Helper()
	if a, b := v.Slot(0), v.Slot(1); !bytes.Equal(a, slots[0]) || !bytes.Equal(b, slots[1]) || v.At() != at {
		t.Errorf("%s: slots %x and %x at %d, want %x at %d", what, a, b, v.At(), slots, at)
	}
}

// slotsOf are a vault's slots.
func slotsOf(v *vault.Vault) [2][]byte { return [2][]byte{v.Slot(0), v.Slot(1)} }

// answer is what a request answers.
type answer struct {
	a api.Att
	e api.Errno
}

// request is one of New, Prep and Store.
type request func(x *Tee) answer

// asNew, asPrep and asStore are those requests.
func asNew(view int) request {
	return func(x *Tee) answer {
		a, e := x.New(view)
		return answer{a, e}
	}
}

func asPrep(b api.Block, l api.Accu) request {
	return func(x *Tee) answer {
		a, e := x.Prep(b, l)
		return answer{a, e}
	}
}

func asStore(c api.Cert) request {
	return func(x *Tee) answer {
		a, e := x.Store(c)
		return answer{a, e}
	}
}

// fault is an answer of an error, beside which all is nought.
func fault(e api.Errno) answer { return answer{e: e} }

// must fails, unless an answer is another one.
func must(t *testing.T, what string, got, want answer) {
	t.Helper()
	if got != want {
		t.Errorf("%s:\n got %v\nwant %v", what, got, want)
	}
}

// stepped is a seal behind a step, and what is attested by it; or why not.
type stepped struct {
	s api.Seal
	a api.Att
	e api.Errno
}

// isAhead tells whether a seal is ahead of a view and phase, in the chapter's words.
func isAhead(s api.Seal, view, phase int) bool {
	return s.View < view || s.View == view && s.Phase < phase
}

// wantNew, wantPrep and wantStore are what part i attests behind a step from a seal, by the chapter's words.
func wantNew(i int, s api.Seal, view int) stepped {
	if !isAhead(s, view, 1) {
		return stepped{e: api.ErrOld}
	}
	next := made(view, 1, s.PView, s.PHash)
	return stepped{s: next, a: signed(i, api.Att{Kind: 1, View: view, Phase: 1, PView: s.PView, PHash: s.PHash})}
}

func wantPrep(i int, s api.Seal, view int, hash api.Hash, l api.Accu) stepped {
	if !isAhead(s, view, 2) {
		return stepped{e: api.ErrOld}
	}
	next := made(view, 2, s.PView, s.PHash)
	return stepped{s: next, a: signed(i, api.Att{Kind: 2, View: view, Phase: 2, Hash: hash, PView: l.PView, PHash: l.PHash})}
}

func wantStore(i int, s api.Seal, view int, hash api.Hash) stepped {
	if !isAhead(s, view, 3) {
		return stepped{e: api.ErrOld}
	}
	next := made(view, 3, view, hash)
	return stepped{s: next, a: signed(i, api.Att{Kind: 3, View: view, Phase: 3, Hash: hash, PView: view, PHash: hash})}
}

// mustStep fails, unless a part on a vault does a request as that: its seal is kept, then its own; behind an error nothing is turned.
func mustStep(t *testing.T, what string, x *Tee, v *vault.Vault, i int, ask request, want stepped) {
	t.Helper()
	s, slots, at := x.Seal(), slotsOf(v), v.At()
	must(t, what, ask(x), answer{want.a, want.e})
	if want.e == api.OK {
		s, at = want.s, at+1
		slots[at%2] = written(i, at, s)
	}
	mustBe(t, what, x, s, api.OK)
	mustHave(t, what, v, slots, at)
}

// requests are such as are done from a seal of a view below 9, of n parts.
func requests(n int) []request {
	b := on(rising(), 9, 3, 2, some(2)...)
	return []request{asNew(9), asPrep(b, rightAccu(n, 9, 8, rising())), asStore(certOf(2, n, 9, full(), 3, of(0)))}
}

// wrongRequests are such as are not done of 3 parts, whatever the seal.
func wrongRequests() []request {
	return []request{
		asNew(0), asNew(last + 1), asPrep(api.Block{}, rightAccu(3, 9, 8, rising())), asPrep(on(rising(), 9, 3, 2), api.Accu{}), asStore(api.Cert{}),
		asPrep(on(rising(), 9, 3, 2), rightAccu(5, 9, 8, rising())), asStore(certOf(3, 3, 9, full(), 9, full())),
	}
}

// mustDoNothing fails, unless a halted part does nothing, also behind a crash, and its vault stays as it is.
func mustDoNothing(t *testing.T, what string, x *Tee, v *vault.Vault, s api.Seal, why api.Errno) {
	t.Helper()
	for range 2 {
		slots, at := slotsOf(v), v.At()
		for _, ask := range append(requests(3), wrongRequests()...) {
			must(t, what, ask(x), fault(api.ErrHalt))
			mustBe(t, what, x, s, why)
		}
		for _, view := range append(noViews(), 1, 9, last) {
			for _, l := range [][]api.Att{nil, news(view, 1, 2), news(view, 2, 1, 3)} {
				if a, e := x.Accu(view, l); !reflect.DeepEqual(a, api.Accu{}) || e != api.ErrHalt {
					t.Errorf("%s: Accu(%d): %v, error %d", what, view, a, e)
				}
			}
		}
		mustBe(t, what, x, s, why)
		mustHave(t, what, v, slots, at)
		v.Crash(0)
	}
}

// news are attestations of a new view, of some parts, that have all prepared the same.
func news(view int, bys ...int) []api.Att {
	var l []api.Att
	for _, by := range bys {
		l = append(l, signed(by, api.Att{Kind: 1, View: view, Phase: 1}))
	}
	return l
}

// The chapter's example.
func TestExample(t *testing.T) {
	for _, n := range odd() {
		x := mustStart(t, 1, n, mustVault(t, 1, 0))
		must(t, "New", asNew(1)(x), answer{signed(1, api.Att{Kind: 1, View: 1, Phase: 1}), api.OK})
		must(t, "New", asNew(1)(x), fault(api.ErrOld))
	}
}

// Te1: what a part has when it starts is what its vault loads; that is kept anew.
func TestStart(t *testing.T) {
	for _, n := range odd() {
		for _, i := range upTo(n) {
			for _, s := range seals() {
				for _, at := range []int{1, 2, 7, end - 2, end - 1} {
					v := mustHold(t, i, at, s)
					x := mustStart(t, i, n, v)
					mustBe(t, "started", x, s, api.OK)
					var slots [2][]byte
					slots[at%2], slots[(at+1)%2] = written(i, at, s), written(i, at+1, s)
					mustHave(t, "started", v, slots, at+1)
				}
			}
			v := mustVault(t, i, 0)
			mustSwap(t, v, 0, written(i, 1, made(3, 1, 2, full())))
			mustBe(t, "started at nought", mustStart(t, i, n, v), api.Seal{}, api.OK)
			mustHave(t, "started at nought", v, [2][]byte{written(i, 1, made(3, 1, 2, full())), written(i, 1, api.Seal{})}, 1)
		}
	}
}

// Te1: of what is loaded it does not matter in which slot it is.
func TestStartSlots(t *testing.T) {
	for at := 1; at <= 4; at++ {
		for k := range 2 {
			v := mustVault(t, 2, at)
			mustSwap(t, v, k, written(2, at, made(3, 1, 2, full())))
			mustSwap(t, v, 1-k, written(2, at+1, made(9, 1, 2, full())))
			mustBe(t, "started", mustStart(t, 2, 3, v), made(3, 1, 2, full()), api.OK)
		}
	}
}

// mustNotStart fails, unless it is told that there can't be such a part, and nothing else.
func mustNotStart(t *testing.T, i, n int, v *vault.Vault) {
	t.Helper()
	if x, e := Start(i, n, v); x != nil || e != api.ErrArg {
		t.Errorf("Start(%d, %d): %v, error %d", i, n, x, e)
	}
}

// Te1, R2: ErrArg, of no quorum, or no such part, ahead of what is wrong with the vault; which stays as it is.
func TestStartArg(t *testing.T) {
	dead, none, spent := mustVault(t, 1, 0), mustVault(t, 1, 3), mustVault(t, 1, end)
	dead.Arm(0)
	dead.Keep(api.Seal{})
	for _, v := range []*vault.Vault{nil, dead, none, spent, mustVault(t, 1, 0), mustHold(t, 1, 4, made(3, 1, 2, full()))} {
		slots, at, isDead := slotsOf(v), v.At(), v.Dead()
		v.Arm(0)
		for _, n := range noQuorums() {
			for _, i := range []int{-1, 0, 1, 2, 3, 21, n - 1, n, n + 1} {
				mustNotStart(t, i, n, v)
			}
		}
		for _, n := range odd() {
			for _, i := range []int{math.MinInt, -1 << 40, -256, -n, -1, 0, n + 1, n + 2, 22, 256, 257, 1<<32 + 1, math.MaxInt} {
				mustNotStart(t, i, n, v)
			}
		}
		mustHave(t, "not started", v, slots, at)
		if v.Dead() != isDead {
			t.Error("a step was done")
		}
	}
}

// Te1, R1: ErrArg, of a vault that New did not give.
func TestStartNoVault(t *testing.T) {
	none, _ := vault.New(0, 0)
	for _, v := range []*vault.Vault{nil, {}, new(vault.Vault), none} {
		for _, n := range odd() {
			for _, i := range upTo(n) {
				mustNotStart(t, i, n, v)
			}
		}
	}
}

// mustStartHalted fails, unless a part is there that is halted from its start on, by an error that is told; it has a seal, and does nothing.
func mustStartHalted(t *testing.T, what string, i int, v *vault.Vault, s api.Seal, why api.Errno) {
	t.Helper()
	x, e := Start(i, 3, v)
	if x == nil || e != why {
		t.Fatalf("%s: %v, error %d, want error %d", what, x, e, why)
	}
	mustBe(t, what, x, s, why)
	mustDoNothing(t, what, x, v, s, why)
}

// Te1, Te2, Te3: where none of the slots is of the counter's version, it is halted; its seal is zero.
func TestStartNotLoaded(t *testing.T) {
	s := made(3, 1, 2, full())
	for at := 1; at <= 4; at++ {
		for name, b := range map[string][]byte{
			"nothing": nil, "any": {1, 2, 3}, "older": written(2, at-1, s), "newer": written(2, at+1, s), "another one's": written(1, at, s),
			"cut": written(2, at, s)[1:], "longer": append(written(2, at, s), 0), "turned": append(written(2, at, s)[:5], written(2, at, s)[4:]...),
		} {
			v := mustVault(t, 2, at)
			mustSwap(t, v, 0, b)
			mustSwap(t, v, 1, b)
			mustStartHalted(t, name, 2, v, api.Seal{}, api.ErrHalt)
			mustHave(t, name, v, [2][]byte{b, b}, at)
		}
	}
	mustStartHalted(t, "spent, too", 2, mustVault(t, 2, end), api.Seal{}, api.ErrHalt)
}

// Te1, Te2: of a dead vault it is halted; its seal is zero, whatever was kept.
func TestStartDead(t *testing.T) {
	for at := 1; at <= 4; at++ {
		v := mustHold(t, 3, at, made(3, 1, 2, full()))
		v.Arm(0)
		v.Keep(api.Seal{})
		slots := slotsOf(v)
		mustStartHalted(t, "dead", 3, v, api.Seal{}, api.ErrDead)
		mustHave(t, "dead", v, slots, at)
	}
}

// Te1, Te2: if what is loaded is not kept anew, it is halted; its seal is that.
func TestStartNotKept(t *testing.T) {
	for _, s := range seals() {
		for at := 1; at <= 4; at++ {
			for armed := range 2 {
				v := mustHold(t, 1, at, s)
				slots := slotsOf(v)
				v.Arm(armed)
				mustStartHalted(t, "dying", 1, v, s, api.ErrDead)
				if armed > 0 {
					slots[(at+1)%2] = written(1, at+1, s)
				}
				mustHave(t, "dying", v, slots, at)
				mustBe(t, "behind a crash", mustStart(t, 1, 3, v), s, api.OK)
			}
		}
		v := mustHold(t, 1, end, s)
		mustStartHalted(t, "spent", 1, v, s, api.ErrSpent)
		mustHave(t, "spent", v, [2][]byte{written(1, end, s), nil}, end)
	}
}

// Te1: a start needs two steps, and a request two.
func TestHowManySteps(t *testing.T) {
	for _, ask := range requests(3) {
		v := mustHold(t, 1, 5, made(3, 1, 2, full()))
		v.Arm(4)
		x := mustStart(t, 1, 3, v)
		for _, wrong := range wrongRequests() {
			wrong(x)
		}
		x.Accu(5, news(5, 1, 2))
		if got := ask(x); got.e != api.OK || v.Dead() || v.At() != 7 {
			t.Errorf("%v, dead %v, at %d", got, v.Dead(), v.At())
		}
		must(t, "a third time", asNew(10)(x), fault(api.ErrHalt))
		if !v.Dead() || v.At() != 7 {
			t.Errorf("dead %v, at %d", v.Dead(), v.At())
		}
	}
}

// Te1: a new view: attested, once it is kept; old, if it is not ahead.
func TestNew(t *testing.T) {
	for _, s := range seals() {
		for _, view := range around(s) {
			for _, n := range odd() {
				x, v := mustOf(t, n, n, s)
				mustStep(t, "New", x, v, n, asNew(view), wantNew(n, s, view))
				mustStep(t, "New once more", x, v, n, asNew(view), stepped{e: api.ErrOld})
			}
		}
	}
}

// Te1: ErrArg, of no view.
func TestNewArg(t *testing.T) {
	for _, s := range seals() {
		x, v := mustOf(t, 2, 3, s)
		for _, view := range noViews() {
			mustStep(t, "New", x, v, 2, asNew(view), stepped{e: api.ErrArg})
		}
	}
}

// Te1: a prepared block, of an accumulation that is right for as many parts: attested; old, if it is not ahead.
func TestPrep(t *testing.T) {
	for _, s := range seals() {
		for _, view := range around(s) {
			for _, n := range odd() {
				x, v := mustOf(t, (n+1)/2, n, s)
				b, l := on(rising(), view, 3, 2), rightAccu(n, view, view/2, rising())
				mustStep(t, "Prep", x, v, (n+1)/2, asPrep(b, l), wantPrep((n+1)/2, s, view, bare(b), l))
				b.Height++
				mustStep(t, "Prep of another one", x, v, (n+1)/2, asPrep(b, l), stepped{e: api.ErrOld})
			}
		}
	}
}

// Te1: ErrArg, of a block that may not be, or the first one; ErrTag, of an accumulation that is not right for so many parts, or not of it.
func TestPrepWrong(t *testing.T) {
	x, v := mustOf(t, 2, 3, made(3, 1, 2, full()))
	right := rightAccu(3, 9, 8, rising())
	for _, b := range []api.Block{
		{}, block.First(), on(rising(), 0, 3, 2), on(rising(), last+1, 3, 2), on(rising(), 9, 0, 2), on(rising(), 9, 3, 22), on(rising(), 9, 3, 2, some(9)...),
		on(rising(), 9, 3, 2, api.Tx{}),
	} {
		mustStep(t, "Prep of no block", x, v, 2, asPrep(b, right), stepped{e: api.ErrArg})
		mustStep(t, "Prep of nothing", x, v, 2, asPrep(b, api.Accu{}), stepped{e: api.ErrArg})
	}
	turned := right
	turned.Tag[0]++
	for _, l := range []api.Accu{
		{}, turned, rightAccu(3, 9, 8, full()), rightAccu(3, 10, 8, rising()), rightAccu(1, 9, 8, rising()), rightAccu(5, 9, 8, rising()),
		accuOf(4, 9, 8, rising(), 1, 2), accuOf(3, 9, 8, rising(), 1, 4), accuOf(3, 9, 8, rising(), 2, 1), accuOf(3, 9, 9, rising(), 1, 2),
		accuOf(0, 9, 8, rising(), 1, 2), accuOf(3, 9, 8, rising(), 1), accuOf(3, 9, 8, rising()), accuOf(3, 9, 8, rising(), 1, 2, 3),
	} {
		mustStep(t, "Prep of none of it", x, v, 2, asPrep(on(rising(), 9, 3, 2), l), stepped{e: api.ErrTag})
	}
	for _, view := range []int{1, 2} {
		mustStep(t, "Prep, old, too", x, v, 2, asPrep(on(rising(), view, 3, 2), right), stepped{e: api.ErrTag})
	}
}

// Te1: a certificate of a prepared block, that is right for as many parts: attested; old, if it is not ahead.
func TestStore(t *testing.T) {
	for _, s := range seals() {
		for _, view := range around(s) {
			for _, n := range odd() {
				x, v := mustOf(t, 1, n, s)
				mustStep(t, "Store", x, v, 1, asStore(certOf(2, n, view, full(), view/2, of(1))), wantStore(1, s, view, full()))
				mustStep(t, "Store of another one", x, v, 1, asStore(certOf(2, n, view, of(1), 0, of(0))), stepped{e: api.ErrOld})
			}
		}
	}
}

// Te1: ErrTag, of a certificate that is not right for so many parts, or not of a prepared block.
func TestStoreWrong(t *testing.T) {
	x, v := mustOf(t, 2, 3, made(3, 1, 2, full()))
	right := certOf(2, 3, 9, rising(), 8, full())
	by, tagged, turned, twice, none := right, right, right, right, right
	by.Att.By, tagged.Att.Tag[31] = 1, 1
	turned.Att.Hash[0]++
	twice.Sigs = []api.Sig{right.Sigs[0], right.Sigs[0]}
	none.Sigs = nil
	for _, c := range []api.Cert{
		{}, by, tagged, turned, twice, none, certOf(1, 3, 9, of(0), 8, full()), certOf(3, 3, 9, full(), 9, full()), certOf(2, 5, 9, rising(), 8, full()),
		certOf(2, 1, 9, rising(), 8, full()), certOf(2, 3, 0, rising(), 0, full()), certOf(2, 3, last+1, rising(), 8, full()), certOf(2, 3, 9, rising(), 9, full()),
		certOf(1, 3, 1, of(0), 0, of(0)),
	} {
		mustStep(t, "Store", x, v, 2, asStore(c), stepped{e: api.ErrTag})
	}
}

// Te1, Te2: what is not kept is not attested, and the seal stays; the part is halted then, and stays so.
func TestNotKept(t *testing.T) {
	s := made(3, 1, 2, full())
	for _, ask := range requests(3) {
		for armed := range 2 {
			for n := 0; n <= 80; n += 10 {
				x, v := mustOf(t, 3, 3, s)
				v.Arm(armed)
				must(t, "dying", ask(x), fault(api.ErrHalt))
				mustBe(t, "dying", x, s, api.ErrDead)
				v.Crash(n)
				mustDoNothing(t, "dead", x, v, s, api.ErrDead)
				y := mustStart(t, 3, 3, v)
				mustBe(t, "started anew", y, s, api.OK)
				if got := ask(y); got.e != api.OK || got.a.View != 9 || v.At() != 8 {
					t.Errorf("started anew: %v, at %d", got, v.At())
				}
				mustBe(t, "the old one", x, s, api.ErrDead)
			}
		}
	}
}

// Te1, Te2, R2: of a spent counter, too; what is wrong with the request is told ahead of that.
func TestSpent(t *testing.T) {
	s := made(3, 1, 2, full())
	for _, ask := range requests(3) {
		v := mustHold(t, 3, end-1, s)
		x := mustStart(t, 3, 3, v)
		slots := slotsOf(v)
		for _, wrong := range append(wrongRequests(), asNew(3), asNew(1)) {
			if got := wrong(x); got.e == api.OK || got.e == api.ErrHalt || x.Halted() {
				t.Errorf("wrong: %v, halted %v", got, x.Halted())
			}
		}
		must(t, "spent", ask(x), fault(api.ErrHalt))
		mustBe(t, "spent", x, s, api.ErrSpent)
		mustDoNothing(t, "spent", x, v, s, api.ErrSpent)
		mustHave(t, "spent", v, slots, end)
	}
}

// Te2: why it is halted is its vault's first error, and no later one.
func TestWhyStays(t *testing.T) {
	v := mustHold(t, 1, end-1, made(3, 1, 2, full()))
	v.Arm(1)
	x, e := Start(1, 3, v)
	mustBe(t, "dying", x, made(3, 1, 2, full()), api.ErrDead)
	v.Crash(0)
	y := mustStart(t, 1, 3, v)
	must(t, "spent", asNew(9)(y), fault(api.ErrHalt))
	must(t, "dead", asNew(9)(x), fault(api.ErrHalt))
	mustSwap(t, v, 0, nil)
	z, g := Start(1, 3, v)
	x.halt(api.ErrSpent)
	mustBe(t, "dead", x, made(3, 1, 2, full()), api.ErrDead)
	mustBe(t, "spent", y, made(3, 1, 2, full()), api.ErrSpent)
	mustBe(t, "not loaded", z, api.Seal{}, api.ErrHalt)
	if e != api.ErrDead || g != api.ErrHalt {
		t.Errorf("errors %d and %d", e, g)
	}
}

// Te1: what was to be kept, when a vault died, can't come back once another thing is attested.
func TestToBeKept(t *testing.T) {
	s := made(3, 1, 2, full())
	for armed := range 2 {
		x, v := mustOf(t, 1, 3, s)
		v.Arm(armed)
		must(t, "dying", asNew(5)(x), fault(api.ErrHalt))
		v.Crash(1000)
		stale := v.Slot((v.At() + 1) % 2)
		if !bytes.HasPrefix(stale, written(1, v.At()+1, made(5, 1, 2, full()))) {
			t.Fatalf("to be kept: %x", stale)
		}
		stale = written(1, v.At()+1, made(5, 1, 2, full()))
		y := mustStart(t, 1, 3, v)
		must(t, "started anew", asNew(9)(y), answer{signed(1, api.Att{Kind: 1, View: 9, Phase: 1, PView: 2, PHash: full()}), api.OK})
		mustSwap(t, v, 0, stale)
		mustSwap(t, v, 1, stale)
		mustStartHalted(t, "stale", 1, v, api.Seal{}, api.ErrHalt)
	}
}

// Te3: a slot's older blob is nothing to start with; what a part has does not hang on its slots, once it is there.
func TestStale(t *testing.T) {
	v := mustVault(t, 2, 0)
	x := mustStart(t, 2, 3, v)
	var had [][]byte
	for view := 1; view <= 9; view++ {
		had = append(had, v.Slot(0), v.Slot(1))
		must(t, "New", asNew(view)(x), answer{signed(2, api.Att{Kind: 1, View: view, Phase: 1}), api.OK})
		now := slotsOf(v)
		for _, b := range had {
			for _, c := range had {
				mustSwap(t, v, 0, b)
				mustSwap(t, v, 1, c)
				if bytes.Equal(b, now[v.At()%2]) || bytes.Equal(c, now[v.At()%2]) {
					t.Fatal("not older")
				}
				if y, e := Start(2, 3, v); e != api.ErrHalt || y.Why() != api.ErrHalt {
					t.Fatalf("started with older ones: error %d", e)
				}
				must(t, "New once more", asNew(view)(x), fault(api.ErrOld))
			}
		}
		mustBe(t, "as it was", x, made(view, 1, 0, of(0)), api.OK)
	}
}

// Te1: an accumulation is layer 10's, by the part, for as many; no step is done for it.
func TestAccu(t *testing.T) {
	for _, n := range odd() {
		for _, i := range upTo(n) {
			v := mustHold(t, i, 5, made(7, 3, 7, full()))
			x := mustStart(t, i, n, v)
			slots := slotsOf(v)
			v.Arm(0)
			for _, view := range []int{2, 7, 300, last} {
				l := news(view, upTo(n)...)
				slices.Reverse(l)
				l[n/2] = signed(n-n/2, api.Att{Kind: 1, View: view, Phase: 1, PView: view - 1, PHash: rising()}) // the last one of the quorum
				want := accuOf(i, view, view-1, rising(), upTo(n/2+1)...)
				if a, e := x.Accu(view, l); e != api.OK || !reflect.DeepEqual(a, want) {
					t.Fatalf("Accu(%d) by %d of %d: %v, error %d, want %v", view, i, n, a, e, want)
				}
			}
			mustBe(t, "as it was", x, made(7, 3, 7, full()), api.OK)
			mustHave(t, "as it was", v, slots, 6)
			if v.Dead() {
				t.Error("a step was done")
			}
		}
	}
}

// mustNotAccu fails, unless that error is told, and nothing beside it; the part stays.
func mustNotAccu(t *testing.T, x *Tee, view int, l []api.Att, want api.Errno) {
	t.Helper()
	if a, e := x.Accu(view, l); !reflect.DeepEqual(a, api.Accu{}) || e != want {
		t.Errorf("Accu(%d, %v): %v, error %d, want error %d", view, l, a, e, want)
	}
	mustBe(t, "as it was", x, made(3, 1, 2, full()), api.OK)
}

// Te1, R2: layer 10's errors.
func TestAccuWrong(t *testing.T) {
	x, _ := mustOf(t, 2, 5, made(3, 1, 2, full()))
	wrong := signed(3, api.Att{Kind: 1, View: 9, Phase: 1})
	wrong.Tag[5]++
	for _, view := range noViews() {
		for _, l := range [][]api.Att{nil, news(9, 1, 2, 3), news(9, 1, 2), append(news(9, 1, 2, 3), wrong)} {
			mustNotAccu(t, x, view, l, api.ErrArg)
		}
	}
	for _, a := range []api.Att{
		{}, wrong, signed(6, api.Att{Kind: 1, View: 9, Phase: 1}), signed(4, api.Att{Kind: 1, View: 8, Phase: 1}), signed(4, api.Att{Kind: 2, View: 9, Phase: 2}),
	} {
		mustNotAccu(t, x, 9, append(news(9, 1, 2, 3), a), api.ErrTag)
		mustNotAccu(t, x, 9, append([]api.Att{a}, news(9, 1)...), api.ErrTag)
	}
	for _, l := range [][]api.Att{nil, {}, news(9, 1), news(9, 5, 4), news(9, 1, 1, 2, 2, 1)} {
		mustNotAccu(t, x, 9, l, api.ErrNone)
	}
}

// R1: one that Start did not give is halted, and does nothing.
func TestNotGiven(t *testing.T) {
	none, _ := Start(1, 2, mustVault(t, 1, 0))
	for _, x := range []*Tee{nil, {}, new(Tee), none} {
		mustBe(t, "not given", x, api.Seal{}, api.ErrHalt)
		mustDoNothing(t, "not given", x, mustVault(t, 1, 0), api.Seal{}, api.ErrHalt)
	}
}

// The chapter tells nothing of a vault of another part: what that loads is the seal, and the part attests as itself.
func TestVaultOfAnother(t *testing.T) {
	v := mustHold(t, 2, 5, made(3, 1, 2, full()))
	x := mustStart(t, 1, 3, v)
	mustBe(t, "started", x, made(3, 1, 2, full()), api.OK)
	must(t, "New", asNew(4)(x), answer{wantNew(1, made(3, 1, 2, full()), 4).a, api.OK})
	mustHave(t, "New", v, [2][]byte{written(2, 6, made(3, 1, 2, full())), written(2, 7, made(4, 1, 2, full()))}, 7)
}

// R3: nothing is written to what is handed in.
func TestHandedIn(t *testing.T) {
	b, p := on(rising(), 5, 1, 1, some(5)...), on(rising(), 5, 1, 1, some(5)...)
	a, q := rightAccu(5, 5, 3, rising()), rightAccu(5, 5, 3, rising())
	c, r := certOf(2, 5, 5, rising(), 3, full()), certOf(2, 5, 5, rising(), 3, full())
	l, m := news(9, 5, 3, 1, 2), news(9, 5, 3, 1, 2)
	for _, s := range seals() {
		for _, n := range []int{3, 5} {
			x, _ := mustOf(t, 1, n, s)
			x.Prep(b, a)
			x.Store(c)
			x.Accu(9, l)
		}
	}
	if !reflect.DeepEqual(b, p) || !reflect.DeepEqual(a, q) || !reflect.DeepEqual(c, r) || !reflect.DeepEqual(l, m) {
		t.Errorf("turned: %v, %v, %v, %v", b, a, c, l)
	}
}

// R3: an accumulation is new memory each time, and nothing of it is kept.
func TestNewMemory(t *testing.T) {
	x, _ := mustOf(t, 1, 3, made(3, 1, 2, full()))
	l := news(9, 1, 3)
	want := accuOf(1, 9, 0, of(0), 1, 3)
	one, _ := x.Accu(9, l)
	two, _ := x.Accu(9, l)
	clear(one.Froms)
	if !reflect.DeepEqual(two, want) || !reflect.DeepEqual(l, news(9, 1, 3)) {
		t.Errorf("turned: %v, %v", two, l)
	}
	clear(l)
	if !reflect.DeepEqual(two, want) {
		t.Errorf("turned: %v", two)
	}
}

// R4: parts on unlike vaults hang neither on each other nor on those that were ahead.
func TestNothingIsShared(t *testing.T) {
	for range 2 {
		x, v := mustOf(t, 1, 3, made(3, 1, 2, full()))
		y, w := mustOf(t, 1, 3, made(3, 1, 2, full()))
		mustStep(t, "one", x, v, 1, asNew(7), wantNew(1, y.Seal(), 7))
		mustStep(t, "another one", y, w, 1, asNew(4), wantNew(1, made(3, 1, 2, full()), 4))
		v.Arm(0)
		must(t, "one", asNew(8)(x), fault(api.ErrHalt))
		mustBe(t, "one", x, made(7, 1, 2, full()), api.ErrDead)
		mustBe(t, "another one", y, made(4, 1, 2, full()), api.OK)
		mustStep(t, "another one", y, w, 1, asNew(5), wantNew(1, made(4, 1, 2, full()), 5))
	}
}

// Te1, Te2: three parts go through views; what each attests is what the next step asks for, also when all are started anew between.
func TestRounds(t *testing.T) {
	var vaults []*vault.Vault
	for _, i := range upTo(3) {
		vaults = append(vaults, mustVault(t, i, 0))
	}
	parent := of(0)
	for view := 1; view <= 12; view++ {
		var parts []*Tee
		for k, v := range vaults {
			parts = append(parts, mustStart(t, k+1, 3, v))
		}
		leads := parts[view%3]
		news := mustAll(t, parts, asNew(view))
		l, e := leads.Accu(view, news)
		if e != api.OK || l.PView != view-1 || l.PHash != parent || l.By != view%3+1 {
			t.Fatalf("view %d: %v, error %d", view, l, e)
		}
		b := on(parent, view, view, l.By, some(view%9)...)
		c, e := cert.Make(3, mustAll(t, parts, asPrep(b, l)))
		if e != api.OK {
			t.Fatalf("view %d: error %d", view, e)
		}
		done, e := cert.Make(3, mustAll(t, parts, asStore(c)))
		if e != api.OK || done.Att.Kind != 3 || done.Att.Hash != block.Hash(b) {
			t.Fatalf("view %d: %v, error %d", view, done, e)
		}
		parent = block.Hash(b)
		for k, x := range parts {
			mustBe(t, "at the view's end", x, made(view, 3, view, parent), api.OK)
			if vaults[k].At() != 4*view {
				t.Fatalf("at %d", vaults[k].At())
			}
		}
	}
}

// mustAll are what all parts attest by a request.
func mustAll(t *testing.T, parts []*Tee, ask request) []api.Att {
	t.Helper()
	var l []api.Att
	for _, x := range parts {
		got := ask(x)
		if got.e != api.OK || !att.Right(got.a) {
			t.Fatalf("%v", got)
		}
		l = append(l, got.a)
	}
	return l
}

// told is the chapter's words, one by one, on a vault of its own.
type told struct {
	i, n int
	v    *vault.Vault
	seal api.Seal
	why  api.Errno
}

// starts is Start, of a part that there can be.
func (m *told) starts() api.Errno {
	m.seal, m.why = m.v.Load()
	if m.why == api.OK {
		m.why = m.v.Keep(m.seal)
	}
	return m.why
}

// steps is what a request answers, if a step is that.
func (m *told) steps(s stepped) answer {
	if m.why != api.OK {
		return fault(api.ErrHalt)
	}
	if s.e != api.OK {
		return fault(s.e)
	}
	if m.why = m.v.Keep(s.s); m.why != api.OK {
		return fault(api.ErrHalt)
	}
	m.seal = s.s
	return answer{s.a, api.OK}
}

// asks is a request by chance, about the seal's view, and what is answered to it by the chapter's words.
func (m *told) asks(rnd *rand.Rand) (request, answer) {
	view := max(1, min(last, m.seal.View+rnd.Intn(4)-1))
	hash, parent := of(rnd.Intn(4)), of(rnd.Intn(4))
	l := rightAccu(m.n, view, rnd.Intn(min(view, 5)), parent)
	b := on(parent, view, 1+rnd.Intn(3), 1)
	switch rnd.Intn(6) {
	case 0, 1:
		return asNew(view), m.steps(wantNew(m.i, m.seal, view))
	case 2:
		return asPrep(b, l), m.steps(wantPrep(m.i, m.seal, view, bare(b), l))
	case 3:
		return asStore(certOf(2, m.n, view, hash, 0, parent)), m.steps(wantStore(m.i, m.seal, view, hash))
	case 4:
		return asPrep(b, rightAccu(m.n, view+1, 0, parent)), m.steps(stepped{e: api.ErrTag})
	}
	return asNew(0), m.steps(stepped{e: api.ErrArg})
}

// mustRise fails, unless an attestation is right, by a part, and of a greater view and phase than the one before it.
func mustRise(t *testing.T, i int, before, a api.Att) {
	t.Helper()
	if a.By != i || !att.Right(a) || a.View < before.View || a.View == before.View && a.Phase <= before.Phase {
		t.Fatalf("attested %v behind %v", a, before)
	}
}

// play is a part, what is told of it, what it attested last, and what its vault's slots ever had.
type play struct {
	m      *told
	v      *vault.Vault
	x      *Tee
	before api.Att
	had    [][]byte
	counts map[api.Errno]int
	whys   map[api.Errno]int
}

// begun is a play of a part by chance, in some rounds near its counter's end.
func begun(t *testing.T, rnd *rand.Rand, round int, counts, whys map[api.Errno]int) *play {
	t.Helper()
	n := odd()[rnd.Intn(3)]
	i, at := 1+rnd.Intn(n), []int{0, 0, 0, end - 30}[round%4]
	p := &play{m: &told{i: i, n: n, v: mustVault(t, i, at)}, v: mustVault(t, i, at), had: [][]byte{nil, {1, 2, 3}}, counts: counts, whys: whys}
	if at > 0 {
		p.swap(0, written(i, at, made(7, 1, 6, full())))
	}
	p.starts(t)
	return p
}

// swap swaps a slot's bytes in both vaults.
func (p *play) swap(k int, b []byte) {
	p.v.Swap(k, b)
	p.m.v.Swap(k, b)
}

// crash crashes both vaults.
func (p *play) crash(n int) {
	p.v.Crash(n)
	p.m.v.Crash(n)
}

// host does what a host may do, by chance.
func (p *play) host(rnd *rand.Rand) {
	switch n := rnd.Intn(200); rnd.Intn(3) {
	case 0:
		p.v.Arm(n % 4)
		p.m.v.Arm(n % 4)
	case 1:
		p.crash(n - 50)
	case 2:
		p.swap(n%2, p.had[rnd.Intn(len(p.had))])
	}
}

// starts starts the part anew.
func (p *play) starts(t *testing.T) {
	t.Helper()
	x, e := Start(p.m.i, p.m.n, p.v)
	if want := p.m.starts(); e != want || x == nil {
		t.Fatalf("Start: %v, error %d, want error %d", x, e, want)
	}
	p.x = x
}

// mends brings a vault that died, or was swapped, to a seal that is ahead of all that was attested; else it would stay so.
func (p *play) mends() {
	p.crash(0)
	p.swap((p.v.At()+1)%2, nil)
	p.swap(p.v.At()%2, written(p.m.i, p.v.At(), made(p.before.View+1, 1, 0, of(0))))
}

// asks asks for something, by chance.
func (p *play) asks(t *testing.T, rnd *rand.Rand) {
	t.Helper()
	ask, want := p.m.asks(rnd)
	got := ask(p.x)
	must(t, "by chance", got, want)
	if got.e == api.OK {
		mustRise(t, p.m.i, p.before, got.a)
		p.before = got.a
	}
	p.counts[got.e]++
}

// Te1, Te2, Te3, R4: whatever is asked, and whatever hosts do, it is as the chapter's words say; what is attested rises.
func TestByChance(t *testing.T) {
	rnd := rand.New(rand.NewSource(17))
	counts, whys := map[api.Errno]int{}, map[api.Errno]int{}
	for round := range 200 {
		p := begun(t, rnd, round, counts, whys)
		for range 200 {
			switch k := rnd.Intn(20); {
			case k < 2:
				p.host(rnd)
			case k < 4:
				p.starts(t)
			case k < 8 && p.x.Halted():
				p.mends()
				p.starts(t)
			default:
				p.asks(t, rnd)
			}
			mustBe(t, "by chance", p.x, p.m.seal, p.m.why)
			mustHave(t, "by chance", p.v, slotsOf(p.m.v), p.m.v.At())
			whys[p.x.Why()]++
			p.had = append(p.had, p.v.Slot(0), p.v.Slot(1))
		}
	}
	for _, e := range []api.Errno{api.OK, api.ErrArg, api.ErrTag, api.ErrOld, api.ErrHalt} {
		if counts[e] < 300 {
			t.Errorf("too few of some: %v", counts)
		}
	}
	for _, e := range []api.Errno{api.OK, api.ErrDead, api.ErrHalt, api.ErrSpent} {
		if whys[e] < 100 {
			t.Errorf("too few of some: %v", whys)
		}
	}
}

// Te3: what parts of one number attest on one vault rises, though the host swaps its slots for whatever they had, and lets it die at any step; what they had is all of it by the part itself.
func TestWhatFollows(t *testing.T) {
	rnd := rand.New(rand.NewSource(3))
	attested, halted := 0, 0
	for range 150 {
		i := 1 + rnd.Intn(3)
		v, m, before, had := mustVault(t, i, 0), &told{i: i, n: 3, v: mustVault(t, i, 0)}, api.Att{}, [][]byte{nil}
		for range 40 {
			now := slotsOf(v)
			for k := range 2 {
				if rnd.Intn(3) == 0 {
					mustSwap(t, v, k, had[rnd.Intn(len(had))])
				}
			}
			x, _ := Start(i, 3, v)
			if x.Halted() {
				halted++
				mustSwap(t, v, 0, now[0])
				mustSwap(t, v, 1, now[1])
				x = mustStart(t, i, 3, v)
			}
			v.Arm(rnd.Intn(12) - 1)
			for range rnd.Intn(10) {
				m.seal = x.Seal()
				ask, _ := m.asks(rnd)
				if got := ask(x); got.e == api.OK {
					mustRise(t, i, before, got.a)
					before = got.a
					attested++
				}
				had = append(had, v.Slot(0), v.Slot(1))
			}
			v.Crash(rnd.Intn(100))
			had = append(had, v.Slot(0), v.Slot(1))
		}
	}
	if attested < 1000 || halted < 500 {
		t.Errorf("too few: %d attested, %d halted", attested, halted)
	}
}
