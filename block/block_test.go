package block

import (
	"bytes"
	"crypto/sha256"
	"encoding/binary"
	"encoding/hex"
	"math"
	"math/rand"
	"reflect"
	"slices"
	"strings"
	"testing"

	"tithing/api"
	"tithing/sha"
	"tithing/tx"
)

// pay, put and drop are transactions of those kinds.
func pay(from, nonce, to, amount int) api.Tx {
	return api.Tx{From: from, Nonce: nonce, Kind: api.TxPay, To: to, Amount: amount}
}

func put(from, nonce int, key, value string) api.Tx {
	return api.Tx{From: from, Nonce: nonce, Kind: api.TxPut, Key: key, Value: value}
}

func drop(from, nonce int, key string) api.Tx {
	return api.Tx{From: from, Nonce: nonce, Kind: api.TxDrop, Key: key}
}

// rising is a hash of 32 unlike bytes, full one of bytes 255.
func rising() (h api.Hash) {
	for i := range h {
		h[i] = byte(i + 1)
	}
	return h
}

func full() (h api.Hash) {
	for i := range h {
		h[i] = 255
	}
	return h
}

// made is a block.
func made(parent api.Hash, view, height, by int, txs ...api.Tx) api.Block {
	return api.Block{Parent: parent, View: view, Height: height, By: by, Txs: txs}
}

// with is a block that is turned.
func with(b api.Block, turn func(*api.Block)) api.Block {
	turn(&b)
	return b
}

// longest is the block of the most bytes.
func longest() api.Block {
	value := make([]byte, 200)
	for i := range value {
		value[i] = byte(i)
	}
	x := put(40, 1<<40, "abcdefghijklmnop", string(value))
	return made(full(), 1<<40, 1<<40, 21, x, x, x, x, x, x, x, x)
}

// some are as many transactions of all kinds.
func some(n int) []api.Tx {
	l := make([]api.Tx, n)
	for i := range l {
		l[i] = []api.Tx{pay(i%40+1, 1, 2, i), put(3, i+1, "key", "value"), drop(40, 1<<40, "z9")}[i%3]
	}
	return l
}

// later are blocks that may be, at all edges, and not the first one; no two are alike.
func later() []api.Block {
	var none api.Hash
	l := []api.Block{
		made(none, 1, 1, 1), made(rising(), 1, 1, 1), made(full(), 1, 1, 1),
		made(none, 2, 1, 1), made(none, 1, 2, 1), made(none, 1, 1, 2), made(none, 127, 128, 3), made(none, 128, 127, 3),
		made(none, 1<<40, 1, 1), made(none, 1, 1<<40, 1), made(none, 1<<40-1, 1, 1), made(none, 1, 1<<40-1, 1),
		made(rising(), 1<<40, 1<<40, 21), longest(),
		made(none, 1, 1, 1, pay(1, 1, 1, 0)), made(none, 1, 1, 1, pay(1, 1, 1, 1)), made(none, 1, 1, 1, put(1, 1, "a", "")),
		made(none, 1, 1, 1, drop(1, 1, "a")), made(none, 1, 1, 1, drop(1, 1, "a"), drop(1, 1, "a")),
		made(none, 1, 1, 1, pay(1, 1, 1, 0), drop(1, 1, "a")), made(none, 1, 1, 1, drop(1, 1, "a"), pay(1, 1, 1, 0)),
		made(rising(), 5, 4, 3, pay(2, 9, 1, 0), pay(1, 3, 1, 0), pay(2, 8, 1, 0)), // in no order
	}
	for by := 3; by <= 21; by++ {
		l = append(l, made(none, 1, 1, by))
	}
	for n := 1; n <= 8; n++ {
		l = append(l, made(rising(), n, n, n, some(n)...))
	}
	for i := range 32 {
		var one api.Hash
		one[i] = 1
		l = append(l, made(one, 1, 1, 1))
	}
	return l
}

// right are blocks that may be.
func right() []api.Block { return append(later(), First()) }

// beyond are numbers that are below 1, or above 2^40.
func beyond() []int {
	return []int{math.MinInt, math.MinInt + 1, -1 << 40, -128, -1, 0, 1<<40 + 1, 1<<40 + 2, 1 << 41, 1 << 62, math.MaxInt - 1, math.MaxInt}
}

// wrongTxs are transactions that may not be.
func wrongTxs() []api.Tx {
	return []api.Tx{
		{}, pay(0, 1, 1, 0), pay(41, 1, 1, 0), pay(-1, 1, 1, 0), pay(1, 0, 1, 0), pay(1, 1<<40+1, 1, 0), pay(1, 1, 0, 0), pay(1, 1, 41, 0),
		pay(1, 1, 1, -1), pay(1, 1, 1, 1<<40+1), put(1, 1, "", ""), put(1, 1, "A", ""), put(1, 1, strings.Repeat("a", 17), ""),
		put(1, 1, "a", strings.Repeat("v", 201)), drop(1, 1, ""), drop(1, 1, "a b"), {From: 1, Nonce: 1}, {From: 1, Nonce: 1, Kind: 4, Key: "a"},
		{From: 1, Nonce: 1, Kind: api.TxPay, To: 2, Key: "a"}, {From: 1, Nonce: 1, Kind: api.TxDrop, Key: "a", Value: "b"},
	}
}

// wrongBlocks are blocks that may not be, most of them for one reason alone.
func wrongBlocks() []api.Block {
	var l []api.Block
	for _, base := range []api.Block{made(api.Hash{}, 1, 1, 1), made(rising(), 7, 6, 5, some(3)...)} {
		for _, n := range beyond() {
			l = append(l, with(base, func(b *api.Block) { b.View = n }), with(base, func(b *api.Block) { b.Height = n }))
		}
		for _, n := range append(beyond(), 22, 23, 40, 41, 127, 128, 256, 257, 1<<16+1, 1<<32+1, 1<<40) {
			l = append(l, with(base, func(b *api.Block) { b.By = n }))
		}
		for _, n := range []int{9, 10, 16, 128, 129, 256, 257, 1000} {
			l = append(l, with(base, func(b *api.Block) { b.Txs = some(n) }))
		}
		for _, x := range wrongTxs() {
			l = append(l, with(base, func(b *api.Block) { b.Txs = []api.Tx{x} }))
			for at := range 8 {
				l = append(l, with(base, func(b *api.Block) { b.Txs = some(8); b.Txs[at] = x }))
			}
		}
	}
	return append(l, almostFirst()...)
}

// almostFirst are blocks that would be the first one but for one or two things.
func almostFirst() []api.Block {
	var none api.Hash
	return []api.Block{
		made(rising(), 0, 0, 0), made(api.Hash{31: 1}, 0, 0, 0), made(api.Hash{1}, 0, 0, 0),
		made(none, 1, 0, 0), made(none, 0, 1, 0), made(none, 0, 0, 1), made(none, -1, 0, 0), made(none, 0, -1, 0), made(none, 0, 0, -1),
		made(none, 1, 1, 0), made(none, 1, 0, 1), made(none, 0, 1, 1), made(none, 1<<40+1, 0, 0), made(none, 0, 0, 22),
		made(none, 0, 0, 0, pay(1, 1, 1, 0)), made(none, 0, 0, 0, api.Tx{}), made(none, 0, 0, 0, some(8)...), made(none, 0, 0, 0, some(9)...),
	}
}

// written is a block's bytes by the library, also of one that may not be.
func written(b api.Block) []byte {
	num := func(b []byte, n int) []byte { return binary.AppendUvarint(b, uint64(n)) }
	text := func(b []byte, s string) []byte { return append(num(b, len(s)), s...) }
	t := num(num(num(num(bytes.Clone(b.Parent[:]), b.View), b.Height), b.By), len(b.Txs))
	for _, x := range b.Txs {
		t = num(num(num(t, x.From), x.Nonce), x.Kind)
		switch x.Kind {
		case 1:
			t = num(num(t, x.To), x.Amount)
		case 2:
			t = text(text(t, x.Key), x.Value)
		case 3:
			t = text(t, x.Key)
		}
	}
	return t
}

// summed is a block's hash by the library.
func summed(b api.Block) api.Hash {
	return sha256.Sum256(append([]byte("block"), written(b)...))
}

// zero tells whether nothing is in a block: it has not even a list.
func zero(b api.Block) bool { return reflect.DeepEqual(b, api.Block{}) }

// mustBeNone holds that bytes are no block's.
func mustBeNone(t *testing.T, what string, b []byte) {
	t.Helper()
	if x, e := Get(b); e != api.ErrText || !zero(x) {
		t.Errorf("%s: Get(%x): %v, error %d", what, b[:min(len(b), 80)], x, e)
	}
}

// mustBeOwn holds that bytes are no block's, or just those that their block is put as; it tells whether they are.
func mustBeOwn(t *testing.T, b []byte) bool {
	t.Helper()
	x, e := Get(b)
	if e != api.OK {
		mustBeNone(t, "an error", b)
		return false
	}
	if again, e := Put(x); Check(x) != api.OK || e != api.OK || !bytes.Equal(again, b) {
		t.Fatalf("%x is got as %v, which is put as %x, error %d", b, x, again, e)
	}
	return true
}

// Bk1: what may be.
func TestCheckRight(t *testing.T) {
	for _, b := range right() {
		if e := Check(b); e != api.OK {
			t.Errorf("Check(%v): error %d", b, e)
		}
	}
}

// Bk1: what may not be: it is told, has no bytes, and the zero hash.
func TestWrong(t *testing.T) {
	for _, b := range wrongBlocks() {
		if e := Check(b); e != api.ErrArg {
			t.Errorf("Check(%v): error %d", b, e)
		}
		if got, e := Put(b); e != api.ErrArg || len(got) != 0 {
			t.Errorf("Put(%v): %d bytes, error %d", b, len(got), e)
		}
		if got := Hash(b); got != (api.Hash{}) {
			t.Errorf("Hash(%v): %x", b, got)
		}
	}
}

// Bk1: bytes and hashes that were worked out elsewhere.
func TestTold(t *testing.T) {
	up, none, ones := sha.Hex(rising()), strings.Repeat("00", 32), strings.Repeat("ff", 32)
	key := hex.EncodeToString([]byte("0123456789xyzxyz"))
	twice := drop(7, 128, "0123456789xyzxyz")
	for _, c := range []struct {
		b         api.Block
		own, hash string
	}{
		{First(), none + "00000000", none},
		{made(api.Hash{}, 1, 1, 1), none + "01010100", "5d798de06fd43e6df6b1b6bc2d50351ee2e2191a654fe3fdd5fdfcaee1b935af"},
		{made(api.Hash{}, 3, 1, 2, pay(1, 1, 2, 5)), none + "030102010101010205", "89acb5e9b12fd548b954448fcde18fab61773e5d7d95f77ea285d3e9b15dc4d0"},
		{
			made(rising(), 300, 128, 21, pay(1, 300, 1, 1000), put(3, 1, "a", ""), drop(3, 1, "a")),
			up + "ac0280011503" + "01ac020101e807" + "030102016100" + "0301030161",
			"e4e71cb781654ff888c468021467048cb689d8ea82a9d285ce95f3ee04a98032",
		},
		{made(full(), 1<<40, 1<<40, 21), ones + "8080808080208080808080201500", "084aaf46860bde87c2256eb7063c19509a606a370974628c70bd9b82bb8cfedb"},
		{made(rising(), 2, 1, 3, twice, twice), up + "02010302" + strings.Repeat("0780010310"+key, 2), "065a705577761b492486d7e80155716ef21b5f893f78ea20797581cc32ae30c3"},
	} {
		if got, e := Put(c.b); e != api.OK || hex.EncodeToString(got) != c.own {
			t.Errorf("Put(%v): %x, error %d, want %s", c.b, got, e, c.own)
		}
		own, err := hex.DecodeString(c.own)
		if got, e := Get(own); err != nil || e != api.OK || !reflect.DeepEqual(got, c.b) {
			t.Errorf("Get(%s): %v, error %d", c.own, got, e)
		}
		if got := sha.Hex(Hash(c.b)); got != c.hash {
			t.Errorf("Hash(%v): %s, want %s", c.b, got, c.hash)
		}
	}
	if got, _ := Put(longest()); len(got) != 1862 {
		t.Errorf("the longest has %d bytes", len(got))
	}
	if got := sha.Hex(Hash(longest())); got != "b04031fb103d14fa6657c0dab563e8adf1f39c9bdac8f0f84ff87110c05a7357" {
		t.Errorf("Hash of the longest: %s", got)
	}
}

// Bk1: the first block: it may be, has 36 bytes, and the zero hash, also with a list in which nothing is.
func TestFirst(t *testing.T) {
	if !zero(First()) {
		t.Errorf("First(): %v", First())
	}
	for _, b := range []api.Block{First(), {Txs: []api.Tx{}}, {Txs: some(3)[:0]}} {
		got, e := Put(b)
		if Check(b) != api.OK || e != api.OK || !bytes.Equal(got, make([]byte, 36)) || Hash(b) != (api.Hash{}) {
			t.Errorf("%v: Check %d, Put %x, %d, Hash %x", b, Check(b), got, e, Hash(b))
		}
	}
	if b, e := Get(make([]byte, 36)); e != api.OK || !zero(b) {
		t.Errorf("Get: %v, error %d", b, e)
	}
}

// Bk1, Bk2: a block's bytes, and the block of them.
func TestPutGet(t *testing.T) {
	for _, b := range right() {
		got, e := Put(b)
		if e != api.OK || !bytes.Equal(got, written(b)) {
			t.Errorf("Put(%v): %x, error %d", b, got, e)
		}
		if x, e := Get(got); e != api.OK || !reflect.DeepEqual(x, b) {
			t.Errorf("Get of %v's bytes: %v, error %d", b, x, e)
		}
	}
}

// Bk1: a hash is the sum of block and the bytes; no two blocks have one.
func TestHash(t *testing.T) {
	seen := map[api.Hash]bool{}
	for _, b := range later() {
		got := Hash(b)
		if got != summed(b) {
			t.Errorf("Hash(%v): %x, want %x", b, got, summed(b))
		}
		if own, _ := Put(b); got != sha.Of([]byte("block"), own) {
			t.Errorf("Hash(%v) is not the sum of what is put", b)
		}
		if seen[got] || got == (api.Hash{}) {
			t.Errorf("Hash(%v) is another one's, too", b)
		}
		seen[got] = true
	}
}

// Bk1: bytes that are cut, or have some behind, are none: all of them must be the block's.
func TestGetCut(t *testing.T) {
	for _, b := range right() {
		own := written(b)
		for cut := range own {
			mustBeNone(t, "cut", own[:cut])
		}
		for _, more := range [][]byte{{0}, {1}, {255}, {0, 0, 0, 0}, written(made(api.Hash{}, 1, 1, 1)), own, make([]byte, 1000)} {
			mustBeNone(t, "more behind", append(bytes.Clone(own), more...))
		}
	}
	mustBeNone(t, "nothing", nil)
	mustBeNone(t, "nothing", []byte{})
}

// Bk1: bytes of a block that may not be are none.
func TestGetWrong(t *testing.T) {
	for _, b := range wrongBlocks() {
		if slices.ContainsFunc(b.Txs, hides) {
			continue
		}
		mustBeNone(t, "may not be", written(b))
	}
}

// hides tells whether a transaction has what its bytes do not show.
func hides(x api.Tx) bool {
	return x.Kind == api.TxPay && x.Key != "" || x.Kind == api.TxDrop && x.Value != ""
}

// Bk1: how many transactions are told, so many there must be.
func TestGetOtherCount(t *testing.T) {
	for n := range 9 {
		own := written(made(rising(), 1, 1, 1, some(n)...))
		for told := range 256 {
			b := bytes.Clone(own)
			b[35] = byte(told)
			if told != n {
				mustBeNone(t, "another count", b)
			}
		}
	}
}

// Bk1: numbers of more than 63 bits are no smaller ones.
func TestGetGreat(t *testing.T) {
	for _, n := range []uint64{1<<40 + 1, 1<<63 - 1, 1 << 63, 1<<63 + 1, 1<<63 + 3, math.MaxUint64 - 1, math.MaxUint64} {
		for at := range 4 {
			parts := [][]byte{make([]byte, 32), {3}, {1}, {2}, {0}}
			parts[at+1] = binary.AppendUvarint(nil, n)
			mustBeNone(t, "a great number", bytes.Join(parts, nil))
			mustBeNone(t, "a great number, and more", append(bytes.Join(parts, nil), 1, 1, 1, 1, 0))
		}
	}
}

// Bk1: alike are blocks of which everything is the same, and no others; whether they may be does not matter.
func TestSame(t *testing.T) {
	l := append(right(), almostFirst()...)
	for _, x := range wrongTxs() {
		l = append(l, made(api.Hash{}, -1, -2, -3, x), made(api.Hash{}, -1, -2, -3, x, x))
	}
	l = append(l, made(full(), 1, 1, 1, some(9)...), made(full(), 1, 1, 1, some(10)...))
	for i, a := range l {
		for j, b := range l {
			if Same(a, Copy(b)) != (i == j) {
				t.Errorf("Same(%v, %v): %v", a, b, i != j)
			}
		}
	}
	if !Same(api.Block{View: 1, Txs: []api.Tx{}}, api.Block{View: 1}) || !Same(api.Block{}, api.Block{Txs: some(2)[:0]}) {
		t.Error("no list, and an empty one, are not the same")
	}
}

// Bk1: each thing of each transaction counts, at each place.
func TestSameTxs(t *testing.T) {
	for n := 1; n <= 8; n++ {
		a := made(rising(), 1, 1, 1, some(n)...)
		for at := range n {
			for i, turn := range []func(*api.Tx){
				func(x *api.Tx) { x.From++ }, func(x *api.Tx) { x.Nonce-- }, func(x *api.Tx) { x.Kind += 4 }, func(x *api.Tx) { x.To++ },
				func(x *api.Tx) { x.Amount++ }, func(x *api.Tx) { x.Key += "a" }, func(x *api.Tx) { x.Value += "\x00" },
			} {
				b := made(rising(), 1, 1, 1, some(n)...)
				turn(&b.Txs[at])
				if Same(a, b) || Same(b, a) {
					t.Errorf("%d transactions, turned at %d by %d: alike", n, at, i)
				}
			}
		}
	}
}

// Bk1, R3: a copy is alike, and shares no memory; also of a block that may not be.
func TestCopy(t *testing.T) {
	for _, b := range append(right(), wrongBlocks()...) {
		before := api.Block{Parent: b.Parent, View: b.View, Height: b.Height, By: b.By, Txs: append([]api.Tx(nil), b.Txs...)}
		c := Copy(b)
		if !reflect.DeepEqual(c, before) {
			t.Fatalf("Copy(%v): %v", b, c)
		}
		c.Txs = append(c.Txs, pay(9, 9, 9, 9))
		clear(c.Txs)
		if !reflect.DeepEqual(b, before) && len(b.Txs) > 0 {
			t.Errorf("Copy(%v) shares memory with it", b)
		}
		again := Copy(b)
		clear(b.Txs)
		if !Same(again, before) {
			t.Errorf("a copy turns with its block: %v", again)
		}
	}
}

// R3: not even the room behind a list is shared, or written to.
func TestRoomIsLeft(t *testing.T) {
	for _, n := range []int{0, 1, 3} {
		room := some(8)
		b := made(rising(), 1, 1, 1, room[:n]...)
		own, _ := Put(b)
		Check(b)
		Hash(b)
		Same(b, b)
		got, _ := Get(own)
		_ = append(got.Txs, pay(9, 9, 9, 9), pay(9, 9, 9, 9))
		_ = append(Copy(b).Txs, pay(9, 9, 9, 9), pay(9, 9, 9, 9))
		if !slices.Equal(room, some(8)) {
			t.Errorf("%d transactions: the room behind them is written to", n)
		}
	}
}

// R3: what is got does not hang on the bytes that it was got from, which are left as they are; what is put is new each time.
func TestNewMemory(t *testing.T) {
	for _, b := range right() {
		own := written(b)
		room := append(bytes.Clone(own), 99, 99, 99)
		got, e := Get(room[:len(own)])
		again, _ := Get(room[:len(own)])
		if e != api.OK || !bytes.Equal(room, append(bytes.Clone(own), 99, 99, 99)) {
			t.Fatalf("Get writes to what it was handed: %x, error %d", room, e)
		}
		clear(room)
		clear(again.Txs)
		if !Same(got, b) {
			t.Errorf("what was got turns: %v", got)
		}
		one, _ := Put(b)
		two, _ := Put(b)
		clear(one)
		if !bytes.Equal(two, own) {
			t.Errorf("Put(%v) answers one memory twice", b)
		}
	}
}

// R4: an answer hangs on its arguments alone.
func TestNothingIsKept(t *testing.T) {
	for _, b := range later() {
		Put(longest())
		Hash(longest())
		Get(written(longest()))
		Check(api.Block{View: -1})
		got, e := Put(b)
		if Check(b) != api.OK || e != api.OK || !bytes.Equal(got, written(b)) || Hash(b) != summed(b) {
			t.Errorf("answers hang on the calls ahead: %v", b)
		}
	}
}

// Bk2: no other bytes are the same block's: a number with more bytes than it needs is none, wherever it stands.
func TestLongNumbers(t *testing.T) {
	for _, b := range []api.Block{First(), made(api.Hash{}, 1, 1, 1), made(rising(), 3, 2, 1, pay(3, 1, 4, 5), put(3, 2, "a", "b"), drop(3, 1, "a"))} {
		own := written(b)
		for at := 32; at < len(own); at++ {
			c := own[at]
			if c >= 'a' {
				continue // not a number
			}
			for _, more := range [][]byte{{c | 128, 0}, {c | 128, 128, 0}, {c | 128, 128, 128, 128, 128, 128, 128, 128, 128, 0}} {
				mustBeNone(t, "a long number", bytes.Join([][]byte{own[:at], more, own[at+1:]}, nil))
			}
		}
	}
}

// Bk2: of all short texts of a few bytes behind a parent, those that are got are what is put of what was got; no two are one block's.
func TestShortTexts(t *testing.T) {
	alphabet := []byte{0, 1, 2, 3, 9, 22, 'a', 128}
	for _, parent := range []api.Hash{{}, rising()} {
		seen := map[string]bool{}
		for n := range 7 {
			b := append(bytes.Clone(parent[:]), make([]byte, n)...)
			for {
				if mustBeOwn(t, b) {
					seen[hex.EncodeToString(b[32:])] = true
				}
				if !following(b[32:], alphabet) {
					break
				}
			}
		}
		if seen["00000000"] != (parent == api.Hash{}) {
			t.Errorf("behind %x: the first block: %v", parent, seen["00000000"])
		}
		for own, want := range map[string]bool{"01010100": true, "61020900": true, "0101010100": false, "01011600": false, "00010100": false, "01000100": false, "01010000": false, "8001010100": true} {
			if seen[own] != want {
				t.Errorf("behind %x: %s: %v", parent, own, !want)
			}
		}
	}
}

// following turns bytes into the next ones of that alphabet, the first place first; it tells whether there are any.
func following(b, alphabet []byte) bool {
	for i := range b {
		at := bytes.IndexByte(alphabet, b[i])
		if at+1 < len(alphabet) {
			b[i] = alphabet[at+1]
			return true
		}
		b[i] = alphabet[0]
	}
	return false
}

// Bk2: likewise of blocks' bytes some of which are turned, taken away, or put between.
func TestTurnedBytes(t *testing.T) {
	rnd := rand.New(rand.NewSource(1))
	many := 0
	for range 300 {
		for _, x := range right() {
			b := written(x)
			at := rnd.Intn(len(b))
			switch rnd.Intn(3) {
			case 0:
				b[at] = byte(rnd.Intn(256))
			case 1:
				b = append(b[:at], b[at+1:]...)
			case 2:
				b = append(b[:at+1], b[at:]...)
			}
			if mustBeOwn(t, b) {
				many++
			}
		}
	}
	if many == 0 {
		t.Error("none was got")
	}
}

// Bk2: what is put is got, of blocks by chance; the bytes are each transaction's, one behind the other.
func TestPutIsGot(t *testing.T) {
	rnd := rand.New(rand.NewSource(2))
	for range 3000 {
		b := api.Block{View: 1 + rnd.Intn(1<<rnd.Intn(41)), Height: 1 + rnd.Intn(1<<rnd.Intn(41)), By: 1 + rnd.Intn(21)}
		rnd.Read(b.Parent[:])
		var tail []byte
		for range rnd.Intn(9) {
			value := make([]byte, rnd.Intn(201))
			rnd.Read(value)
			from, nonce := 1+rnd.Intn(40), 1+rnd.Intn(1<<rnd.Intn(41))
			x := []api.Tx{pay(from, nonce, 1+rnd.Intn(40), rnd.Intn(1<<40+1)), put(from, nonce, "k", string(value)), drop(from, nonce, "0z")}[rnd.Intn(3)]
			b.Txs = append(b.Txs, x)
			tail = tx.Put(tail, x)
		}
		own, e := Put(b)
		if e != api.OK || !bytes.Equal(own, written(b)) || !bytes.HasSuffix(own, tail) {
			t.Fatalf("Put(%v): %x, error %d", b, own, e)
		}
		if got, e := Get(own); e != api.OK || !Same(got, b) || Hash(got) != Hash(b) {
			t.Fatalf("%v is got as %v, error %d", b, got, e)
		}
	}
}
