package msg

import (
	"bytes"
	"crypto/hmac"
	"crypto/sha256"
	"encoding/binary"
	"encoding/hex"
	"math"
	"math/rand"
	"reflect"
	"slices"
	"strings"
	"testing"

	"tithing/accu"
	"tithing/api"
	"tithing/att"
	"tithing/block"
	"tithing/cert"
	"tithing/tx"
)

// rising is a hash of 32 unlike bytes, full one of bytes 255, only one that is nought but for one byte.
func rising() (h api.Hash) {
	for i := range h {
		h[i] = byte(i + 1)
	}
	return h
}

func full() (h api.Hash) {
	for i := range h {
		h[i] = 255
	}
	return h
}

func only(i int) (h api.Hash) {
	h[i] = 1
	return h
}

// num is bytes with a number's behind, by the library; text is bytes with a text's behind.
func num(b []byte, n int) []byte { return binary.AppendUvarint(b, uint64(n)) }

func text(b []byte, t string) []byte { return append(num(b, len(t)), t...) }

// tag is a part's tag by the library.
func tag(by int, domain byte, b []byte) api.Hash {
	key := sha256.Sum256(append([]byte("tithing key "), byte(by)))
	m := hmac.New(sha256.New, key[:])
	m.Write([]byte{domain})
	m.Write(b)
	return api.Hash(m.Sum(nil))
}

// saidAtt is what is tagged of an attestation by the library, saidAccu of an accumulation, also of those that may not be.
func saidAtt(a api.Att) []byte {
	b := append(num(num(num(nil, a.Kind), a.View), a.Phase), a.Hash[:]...)
	return append(num(b, a.PView), a.PHash[:]...)
}

func saidAccu(a api.Accu) []byte {
	b := append(num(num(nil, a.View), a.PView), a.PHash[:]...)
	b = num(b, len(a.Froms))
	for _, from := range a.Froms {
		b = num(b, from)
	}
	return b
}

// attOf is an attestation with its tag by the library.
func attOf(by, kind, view int, hash api.Hash, pview int, phash api.Hash) api.Att {
	a := api.Att{By: by, Kind: kind, View: view, Phase: kind, Hash: hash, PView: pview, PHash: phash}
	a.Tag = tag(by, 1, saidAtt(a))
	return a
}

// certOf is the certificate of an attestation of those.
func certOf(a api.Att, bys ...int) api.Cert {
	a.By, a.Tag = 0, api.Hash{}
	c := api.Cert{Att: a}
	for _, by := range bys {
		c.Sigs = append(c.Sigs, api.Sig{By: by, Tag: tag(by, 1, saidAtt(a))})
	}
	return c
}

// accuOf is an accumulation with its tag by the library.
func accuOf(by, view, pview int, phash api.Hash, froms ...int) api.Accu {
	a := api.Accu{By: by, View: view, PView: pview, PHash: phash, Froms: froms}
	a.Tag = tag(by, 2, saidAccu(a))
	return a
}

// blockOf is a block; pay, put and drop are transactions of those kinds.
func blockOf(parent api.Hash, view, height, by int, txs ...api.Tx) api.Block {
	return api.Block{Parent: parent, View: view, Height: height, By: by, Txs: txs}
}

func pay(from, nonce, to, amount int) api.Tx {
	return api.Tx{From: from, Nonce: nonce, Kind: api.TxPay, To: to, Amount: amount}
}

func put(from, nonce int, key, value string) api.Tx {
	return api.Tx{From: from, Nonce: nonce, Kind: api.TxPut, Key: key, Value: value}
}

func drop(from, nonce int, key string) api.Tx {
	return api.Tx{From: from, Nonce: nonce, Kind: api.TxDrop, Key: key}
}

// upTo are the numbers from 1 on.
func upTo(n int) []int {
	l := make([]int, n)
	for i := range l {
		l[i] = i + 1
	}
	return l
}

// some are as many transactions of all kinds.
func some(n int) []api.Tx {
	l := make([]api.Tx, n)
	for i := range l {
		l[i] = []api.Tx{pay(i%40+1, 1, 2, i), put(3, i+1, "key", "value"), drop(40, 1<<40, "z9")}[i%3]
	}
	return l
}

// longest is the block of the most bytes.
func longest() api.Block {
	x := put(40, 1<<40, "abcdefghijklmnop", strings.Repeat("\x00\xff", 100))
	return blockOf(full(), 1<<40, 1<<40, 21, slices.Repeat([]api.Tx{x}, 8)...)
}

// written are a message's bytes by the library, also of one that may not be; what its kind does not name is not there.
func written(m api.Msg) []byte {
	b := num(num(num(nil, m.Kind), m.From), m.To)
	for _, part := range has(m.Kind) {
		b = append(b, writtenPart(m, part)...)
	}
	return b
}

// has is what messages of a kind have.
func has(kind int) []string {
	if kind < 1 || kind > 10 {
		return nil
	}
	return [][]string{{"att"}, {"block", "accu"}, {"att"}, {"cert"}, {"att"}, {"cert"}, {"hash"}, {"block"}, {"tx"}, {"accu"}}[kind-1]
}

// writtenPart are the bytes of a message's part.
func writtenPart(m api.Msg, part string) []byte {
	switch part {
	case "att":
		return append(append(num(nil, m.Att.By), saidAtt(m.Att)...), m.Att.Tag[:]...)
	case "cert":
		b := num(saidAtt(m.Cert.Att), len(m.Cert.Sigs))
		for _, s := range m.Cert.Sigs {
			b = append(num(b, s.By), s.Tag[:]...)
		}
		return b
	case "block":
		return text(nil, string(writtenBlock(m.Block)))
	case "accu":
		return append(append(num(nil, m.Accu.By), saidAccu(m.Accu)...), m.Accu.Tag[:]...)
	case "hash":
		return bytes.Clone(m.Hash[:])
	}
	return writtenTx(m.Tx)
}

func writtenBlock(b api.Block) []byte {
	t := num(num(num(num(bytes.Clone(b.Parent[:]), b.View), b.Height), b.By), len(b.Txs))
	for _, x := range b.Txs {
		t = append(t, writtenTx(x)...)
	}
	return t
}

func writtenTx(x api.Tx) []byte {
	b := num(num(num(nil, x.From), x.Nonce), x.Kind)
	switch x.Kind {
	case api.TxPay:
		b = num(num(b, x.To), x.Amount)
	case api.TxPut:
		b = text(text(b, x.Key), x.Value)
	case api.TxDrop:
		b = text(b, x.Key)
	}
	return b
}

// bases are messages that may be, one of each kind, in their order.
func bases() []api.Msg {
	up, ones := rising(), full()
	return []api.Msg{
		{Kind: api.MsgNew, From: 1, To: 2, Att: attOf(1, 1, 300, api.Hash{}, 299, up)},
		{Kind: api.MsgProp, From: 2, To: 21, Block: blockOf(up, 300, 128, 2, pay(1, 300, 2, 1000), put(3, 1, "a", "xy")), Accu: accuOf(2, 300, 299, up, 1, 3)},
		{Kind: api.MsgPrep, From: 3, To: 2, Att: attOf(3, 2, 300, up, 299, ones)},
		{Kind: api.MsgCert, From: 2, To: 3, Cert: certOf(attOf(1, 2, 300, up, 299, ones), 2, 3)},
		{Kind: api.MsgStore, From: 21, To: 20, Att: attOf(21, 3, 1<<40, ones, 1<<40, ones)},
		{Kind: api.MsgDone, From: 20, To: 21, Cert: certOf(attOf(1, 3, 5, up, 5, up), 1)},
		{Kind: api.MsgAsk, From: 1, To: 2, Hash: up},
		{Kind: api.MsgGive, From: 3, To: 1, Block: blockOf(api.Hash{}, 1, 1, 1)},
		{Kind: api.MsgTx, From: 1, To: 21, Tx: put(3, 1, "a", "xy")},
		{Kind: api.MsgView, From: 2, To: 1, Accu: accuOf(2, 1, 0, api.Hash{}, 1, 2)},
	}
}

// rightAtts are attestations of a kind that may be, at the edges; rightCerts, rightBlocks, rightAccus, rightTxs likewise. No two are alike.
func rightAtts(kind int) []api.Att {
	var none api.Hash
	l := []api.Att{
		attOf(1, kind, 1, none, 0, none), attOf(2, kind, 1, none, 0, none), attOf(21, kind, 1, none, 0, none),
		attOf(7, kind, 128, rising(), 127, full()), attOf(7, kind, 1<<40, full(), 1<<40-1, rising()), attOf(7, kind, 1<<40, full(), 0, rising()),
		{By: 4, Kind: kind, View: 2, Phase: kind}, {By: 4, Kind: kind, View: 2, Phase: kind, PView: 1, Tag: full()}, // whichever tags they have
	}
	if kind == api.AttStore {
		l = append(l, attOf(1, kind, 1, none, 1, none), attOf(7, kind, 1<<40, full(), 1<<40, rising()))
	}
	return l
}

func rightCerts(kind int) []api.Cert {
	var l []api.Cert
	for _, a := range rightAtts(kind)[3:6] {
		l = append(l, certOf(a, 1), certOf(a, 21), certOf(a, 1, 2), certOf(a, 3, 4, 21), certOf(a, upTo(11)...), certOf(a, upTo(21)...))
	}
	a := api.Att{Kind: kind, View: 1, Phase: kind}
	return append(l, api.Cert{Att: a, Sigs: []api.Sig{{By: 2}}}, api.Cert{Att: a, Sigs: []api.Sig{{By: 2, Tag: full()}, {By: 3}}})
}

func rightBlocks() []api.Block {
	var none api.Hash
	l := []api.Block{
		blockOf(none, 1, 1, 1), blockOf(rising(), 1, 1, 1), blockOf(none, 2, 1, 1), blockOf(none, 1, 2, 1), blockOf(none, 1, 1, 21),
		blockOf(full(), 1<<40, 1<<40, 21), blockOf(none, 128, 127, 3), longest(),
	}
	for n := 1; n <= 8; n++ {
		l = append(l, blockOf(rising(), n, n, n, some(n)...))
	}
	return l
}

func rightAccus() []api.Accu {
	return []api.Accu{
		accuOf(1, 1, 0, api.Hash{}, 1), accuOf(21, 1, 0, api.Hash{}, 21), accuOf(2, 1<<40, 1<<40-1, full(), 1, 2), accuOf(2, 300, 0, rising(), 3, 4, 21),
		accuOf(3, 128, 127, only(31), upTo(11)...), accuOf(3, 2, 1, only(0), upTo(21)...),
		{By: 5, View: 1, Froms: []int{4}}, {By: 5, View: 1, Froms: []int{4}, Tag: full()},
	}
}

func rightTxs() []api.Tx {
	return []api.Tx{
		pay(1, 1, 1, 0), pay(40, 1<<40, 40, 1<<40), pay(2, 128, 3, 127), put(1, 1, "a", ""), put(40, 1<<40, "abcdefghijklmnop", strings.Repeat("\xff", 200)),
		put(3, 1, "09az", "\x00"), drop(1, 1, "a"), drop(40, 1<<40, "0123456789012345"),
	}
}

// right are messages that may be, at the edges of all that they have; no two are alike.
func right() []api.Msg {
	l := bases()
	add := func(kind int, set func(*api.Msg)) {
		m := api.Msg{Kind: kind, From: 4, To: 5}
		set(&m)
		l = append(l, m)
	}
	for kind := 1; kind <= 3; kind++ {
		for _, a := range rightAtts(kind) {
			add(2*kind-1, func(m *api.Msg) { m.Att = a }) // 1, 3, 5: a new view, and what is sent to who leads
		}
	}
	for kind := 2; kind <= 3; kind++ {
		for _, c := range rightCerts(kind) {
			add(2*kind, func(m *api.Msg) { m.Cert = c })
		}
	}
	for _, b := range rightBlocks() {
		add(api.MsgGive, func(m *api.Msg) { m.Block = b })
		add(api.MsgProp, func(m *api.Msg) { m.Block, m.Accu = b, rightAccus()[0] })
	}
	for _, a := range rightAccus() {
		add(api.MsgView, func(m *api.Msg) { m.Accu = a })
		add(api.MsgProp, func(m *api.Msg) { m.Block, m.Accu = blockOf(full(), 3, 2, 1, some(2)...), a })
	}
	for _, x := range rightTxs() {
		add(api.MsgTx, func(m *api.Msg) { m.Tx = x })
	}
	add(api.MsgAsk, func(*api.Msg) {}) // of the zero hash
	add(api.MsgAsk, func(m *api.Msg) { m.Hash = full() })
	for i := range 32 {
		add(api.MsgAsk, func(m *api.Msg) { m.Hash = only(i) })
	}
	return l
}

// badAtts are attestations that may not be what a message of a kind of them has; badCerts, badBlocks, badAccus, badTxs likewise.
func badAtts(kind int) []api.Att {
	good := attOf(3, kind, 9, rising(), 8, full())
	turned := func(turn func(*api.Att)) api.Att {
		a := good
		turn(&a)
		a.Tag = tag(a.By, 1, saidAtt(a))
		return a
	}
	l := []api.Att{
		{}, {By: 1}, {Kind: kind, View: 1, Phase: kind}, {By: 1, Kind: kind, Phase: kind}, {By: 1, Kind: kind, View: 1},
		turned(func(a *api.Att) { a.PView = 10 }), turned(func(a *api.Att) { a.View, a.PView = 0, 0 }), turned(func(a *api.Att) { a.View = 1<<40 + 1 }),
	}
	for _, by := range []int{math.MinInt, -1, 0, 22, 259, math.MaxInt} {
		l = append(l, turned(func(a *api.Att) { a.By = by }))
	}
	for _, n := range []int{math.MinInt, -1, 0, 1, 2, 3, 4, 5, 256 + kind, math.MaxInt} {
		if n != kind {
			l = append(l, turned(func(a *api.Att) { a.Kind, a.Phase = n, n }), turned(func(a *api.Att) { a.Kind = n }), turned(func(a *api.Att) { a.Phase = n }))
		}
		if n < 0 {
			l = append(l, turned(func(a *api.Att) { a.PView = n }), turned(func(a *api.Att) { a.View = n }))
		}
	}
	if kind != api.AttStore {
		l = append(l, turned(func(a *api.Att) { a.PView = 9 }))
	}
	return l
}

func badCerts(kind int) []api.Cert {
	good := attOf(1, kind, 9, rising(), 8, full())
	l := []api.Cert{
		{}, {Att: certOf(good).Att}, {Att: certOf(good).Att, Sigs: []api.Sig{}}, {Sigs: certOf(good, 1, 2).Sigs}, {Att: good, Sigs: certOf(good, 1, 2).Sigs},
		certOf(good, 0), certOf(good, 22), certOf(good, -1), certOf(good, 2, 1), certOf(good, 1, 1), certOf(good, 1, 22), certOf(good, 0, 1),
		certOf(good, upTo(22)...), certOf(good, append(upTo(21), 21)...), certOf(good, 257),
	}
	for _, a := range badAtts(kind) {
		if c := certOf(a, 1, 2); c.Att.Kind != kind || a.By == 3 {
			l = append(l, c)
		}
	}
	by, tagged := certOf(good, 1, 2), certOf(good, 1, 2)
	by.Att.By, tagged.Att.Tag = 1, only(31)
	return append(l, by, tagged)
}

func badBlocks() []api.Block {
	var none api.Hash
	l := []api.Block{
		{}, {Txs: []api.Tx{}}, block.First(), // the first one is not sent
		blockOf(rising(), 0, 0, 0), blockOf(none, 0, 1, 1), blockOf(none, 1, 0, 1), blockOf(none, 1, 1, 0), blockOf(none, 1, 1, 22), blockOf(none, -1, 1, 1), blockOf(none, 1, -1, 1),
		blockOf(none, 1, 1, -1), blockOf(none, 1<<40+1, 1, 1), blockOf(none, 1, 1<<40+1, 1), blockOf(none, 1, 1, 1, some(9)...), blockOf(none, 0, 0, 0, some(1)...),
	}
	for _, x := range badTxs() {
		l = append(l, blockOf(none, 1, 1, 1, x), blockOf(rising(), 1, 1, 1, append(some(7), x)...))
	}
	return l
}

func badAccus() []api.Accu {
	return []api.Accu{
		{}, {Froms: []int{}}, {By: 1}, {By: 1, View: 1}, {By: 1, View: 1, Froms: []int{}}, {View: 1, Froms: []int{1}},
		accuOf(0, 9, 8, rising(), 1, 2), accuOf(22, 9, 8, rising(), 1, 2), accuOf(-1, 9, 8, rising(), 1, 2), accuOf(1, 0, 0, rising(), 1, 2), accuOf(1, -1, 0, rising(), 1, 2),
		accuOf(1, 1<<40+1, 8, rising(), 1, 2), accuOf(1, 9, 9, rising(), 1, 2), accuOf(1, 9, -1, rising(), 1, 2), accuOf(1, 9, 8, rising()), accuOf(1, 9, 8, rising(), 2, 1),
		accuOf(1, 9, 8, rising(), 1, 1), accuOf(1, 9, 8, rising(), 0), accuOf(1, 9, 8, rising(), 22), accuOf(1, 9, 8, rising(), 0, 1), accuOf(1, 9, 8, rising(), 21, 22),
		accuOf(1, 9, 8, rising(), -1, 1), accuOf(1, 9, 8, rising(), upTo(22)...),
	}
}

func badTxs() []api.Tx {
	return []api.Tx{
		{}, {From: 1, Nonce: 1}, {From: 1, Nonce: 1, Kind: 4, Key: "a"}, pay(0, 1, 1, 0), pay(41, 1, 1, 0), pay(-1, 1, 1, 0), pay(1, 0, 1, 0), pay(1, 1<<40+1, 1, 0), pay(1, 1, 0, 0),
		pay(1, 1, 41, 0), pay(1, 1, 1, -1), pay(1, 1, 1, 1<<40+1), put(1, 1, "", ""), put(1, 1, "A", ""), put(1, 1, strings.Repeat("a", 17), ""), put(1, 1, "a", strings.Repeat("v", 201)),
		drop(1, 1, ""), drop(1, 1, "a b"), drop(0, 1, "a"), drop(1, 0, "a"),
	}
}

// wrongParts are messages of which one part may not be.
func wrongParts() []api.Msg {
	var l []api.Msg
	add := func(m api.Msg, set func(*api.Msg)) {
		set(&m)
		l = append(l, m)
	}
	for _, m := range bases() {
		for _, part := range has(m.Kind) {
			switch part {
			case "att":
				for _, a := range badAtts(m.Att.Kind) {
					add(m, func(m *api.Msg) { m.Att = a })
				}
			case "cert":
				for _, c := range badCerts(m.Cert.Att.Kind) {
					add(m, func(m *api.Msg) { m.Cert = c })
				}
			case "block":
				for _, b := range badBlocks() {
					add(m, func(m *api.Msg) { m.Block = b })
				}
			case "accu":
				for _, a := range badAccus() {
					add(m, func(m *api.Msg) { m.Accu = a })
				}
			case "tx":
				for _, x := range badTxs() {
					add(m, func(m *api.Msg) { m.Tx = x })
				}
			}
		}
	}
	return l
}

// turn is how a message is turned in one thing, and in which part that is.
type turn struct {
	part string
	do   func(*api.Msg)
}

// turns are all that a message can be turned in; of lists one more, at either end.
func turns() []turn {
	var l []turn
	add := func(part string, do func(*api.Msg)) { l = append(l, turn{part, do}) }
	for _, n := range []int{1, -1, 256, 1 << 40} {
		for _, field := range []func(*api.Msg) *int{
			func(m *api.Msg) *int { return &m.Att.By }, func(m *api.Msg) *int { return &m.Att.Kind }, func(m *api.Msg) *int { return &m.Att.View },
			func(m *api.Msg) *int { return &m.Att.Phase }, func(m *api.Msg) *int { return &m.Att.PView },
		} {
			add("att", func(m *api.Msg) { *field(m) += n })
		}
		for _, field := range []func(*api.Msg) *int{
			func(m *api.Msg) *int { return &m.Cert.Att.By }, func(m *api.Msg) *int { return &m.Cert.Att.Kind }, func(m *api.Msg) *int { return &m.Cert.Att.View },
			func(m *api.Msg) *int { return &m.Cert.Att.Phase }, func(m *api.Msg) *int { return &m.Cert.Att.PView },
		} {
			add("cert", func(m *api.Msg) { *field(m) += n })
		}
		for _, field := range []func(*api.Msg) *int{func(m *api.Msg) *int { return &m.Accu.By }, func(m *api.Msg) *int { return &m.Accu.View }, func(m *api.Msg) *int { return &m.Accu.PView }} {
			add("accu", func(m *api.Msg) { *field(m) += n })
		}
		for _, field := range []func(*api.Msg) *int{func(m *api.Msg) *int { return &m.Block.View }, func(m *api.Msg) *int { return &m.Block.Height }, func(m *api.Msg) *int { return &m.Block.By }} {
			add("block", func(m *api.Msg) { *field(m) += n })
		}
		for _, field := range []func(*api.Msg) *int{
			func(m *api.Msg) *int { return &m.Tx.From }, func(m *api.Msg) *int { return &m.Tx.Nonce }, func(m *api.Msg) *int { return &m.Tx.Kind },
			func(m *api.Msg) *int { return &m.Tx.To }, func(m *api.Msg) *int { return &m.Tx.Amount },
		} {
			add("tx", func(m *api.Msg) { *field(m) += n })
		}
	}
	for _, i := range []int{0, 15, 31} {
		add("att", func(m *api.Msg) { m.Att.Hash[i] ^= 1 })
		add("att", func(m *api.Msg) { m.Att.PHash[i] ^= 128 })
		add("att", func(m *api.Msg) { m.Att.Tag[i] ^= 1 })
		add("cert", func(m *api.Msg) { m.Cert.Att.Hash[i] ^= 1 })
		add("cert", func(m *api.Msg) { m.Cert.Att.PHash[i] ^= 128 })
		add("cert", func(m *api.Msg) { m.Cert.Att.Tag[i] ^= 1 })
		add("accu", func(m *api.Msg) { m.Accu.PHash[i] ^= 1 })
		add("accu", func(m *api.Msg) { m.Accu.Tag[i] ^= 128 })
		add("block", func(m *api.Msg) { m.Block.Parent[i] ^= 1 })
		add("hash", func(m *api.Msg) { m.Hash[i] ^= 1 })
	}
	for _, s := range []api.Sig{{}, {By: 1}, {Tag: full()}, {By: 21, Tag: rising()}} {
		add("cert", func(m *api.Msg) { m.Cert.Sigs = append(slices.Clone(m.Cert.Sigs), s) })
		add("cert", func(m *api.Msg) { m.Cert.Sigs = append([]api.Sig{s}, m.Cert.Sigs...) })
	}
	for _, from := range []int{0, 21} {
		add("accu", func(m *api.Msg) { m.Accu.Froms = append(slices.Clone(m.Accu.Froms), from) })
		add("accu", func(m *api.Msg) { m.Accu.Froms = append([]int{from}, m.Accu.Froms...) })
	}
	for _, x := range []api.Tx{{}, pay(9, 9, 9, 9)} {
		add("block", func(m *api.Msg) { m.Block.Txs = append(slices.Clone(m.Block.Txs), x) })
		add("block", func(m *api.Msg) { m.Block.Txs = append([]api.Tx{x}, m.Block.Txs...) })
	}
	add("tx", func(m *api.Msg) { m.Tx.Key += "a" })
	add("tx", func(m *api.Msg) { m.Tx.Value += "\x00" })
	return l
}

// extras are whole parts, all of which may be.
func extras() []turn {
	return []turn{
		{"att", func(m *api.Msg) { m.Att = attOf(1, 1, 3, api.Hash{}, 2, rising()) }},
		{"att", func(m *api.Msg) { m.Att = attOf(1, 2, 3, rising(), 2, rising()) }},
		{"att", func(m *api.Msg) { m.Att = attOf(1, 3, 3, rising(), 3, rising()) }},
		{"cert", func(m *api.Msg) { m.Cert = certOf(attOf(1, 2, 3, rising(), 2, rising()), 1, 2) }},
		{"cert", func(m *api.Msg) { m.Cert = certOf(attOf(1, 3, 3, rising(), 3, rising()), 1, 2) }},
		{"accu", func(m *api.Msg) { m.Accu = accuOf(1, 3, 2, rising(), 1, 2) }},
		{"block", func(m *api.Msg) { m.Block = blockOf(rising(), 3, 2, 1, some(3)...) }},
		{"hash", func(m *api.Msg) { m.Hash = full() }},
		{"tx", func(m *api.Msg) { m.Tx = pay(1, 1, 2, 3) }},
	}
}

// with is a message that is turned.
func with(m api.Msg, do func(*api.Msg)) api.Msg {
	do(&m)
	return m
}

// copied is a message in new memory.
func copied(m api.Msg) api.Msg {
	m.Cert.Sigs = slices.Clone(m.Cert.Sigs)
	m.Accu.Froms = slices.Clone(m.Accu.Froms)
	m.Block.Txs = slices.Clone(m.Block.Txs)
	return m
}

// mustBeWrong holds that a message may not be, and has no bytes.
func mustBeWrong(t *testing.T, what string, m api.Msg) {
	t.Helper()
	if e := Check(m); e != api.ErrArg {
		t.Errorf("%s: Check(%v): error %d", what, m, e)
	}
	if b, e := Put(m); e != api.ErrArg || len(b) != 0 {
		t.Errorf("%s: Put(%v): %d bytes, error %d", what, m, len(b), e)
	}
}

// mustBeNone holds that bytes are no message's.
func mustBeNone(t *testing.T, what string, b []byte) {
	t.Helper()
	if m, e := Get(b); e != api.ErrText || !reflect.DeepEqual(m, api.Msg{}) {
		t.Errorf("%s: Get(%x): %v, error %d", what, b[:min(len(b), 120)], m, e)
	}
}

// mustBeOwn holds that bytes are no message's, or just those that their message is put as; it tells whether they are.
func mustBeOwn(t *testing.T, b []byte) bool {
	t.Helper()
	m, e := Get(b)
	if e != api.OK {
		mustBeNone(t, "an error", b)
		return false
	}
	if again, e := Put(m); Check(m) != api.OK || e != api.OK || !bytes.Equal(again, b) || !bytes.Equal(written(m), b) {
		t.Fatalf("%x is got as %v, which is put as %x, error %d", b, m, again, e)
	}
	return true
}

// Ms1, Ms2: bytes that were worked out elsewhere, tags among them.
func TestTold(t *testing.T) {
	h := rising()
	up, none, ones := hex.EncodeToString(h[:]), strings.Repeat("00", 32), strings.Repeat("ff", 32)
	for i, want := range []string{
		"010102" + "0101ac0201" + none + "ab02" + up + "f56c41dd25aee201aedf73efa90652b27e2d9ef903700ce5295fa4c05d833185",
		"020215" + "35" + up + "ac0280010202" + "01ac020102e807" + "0301020161027879" + "02ac02ab02" + up + "020103" + "69734954ee2683d8836bb0f85d886f7cd6e631c439a829dc269af24e5e49810e",
		"030302" + "0302ac0202" + up + "ab02" + ones + "c8ab1a7de7f90b13428ca4a0da61d88b63aec2812e722913ebb7901b45521525",
		"040203" + "02ac0202" + up + "ab02" + ones + "02" + "02f9dc50d706824cbb33fc7474ab1577e134ac8b9f158a638b54a05b1fd1f7281c" + "03c8ab1a7de7f90b13428ca4a0da61d88b63aec2812e722913ebb7901b45521525",
		"051514" + "150380808080802003" + ones + "808080808020" + ones + "531f820da53e6f9705ecc61c00e0f4a8b0f92e06264dd751297695ba7416c018",
		"061415" + "030503" + up + "05" + up + "01" + "01d04faf82a7f35afde131dc36a8abe3c1c76ea6bc995d1ee78daf16993203f0ff",
		"070102" + up,
		"080301" + "24" + none + "01010100",
		"090115" + "030102016102" + "7879",
		"0a0201" + "020100" + none + "020102" + "1e96f0a5f4a1ad919295984f687b3e13cfe7395168827da4d777db3f7d196699",
	} {
		m := bases()[i]
		if got, e := Put(m); e != api.OK || hex.EncodeToString(got) != want {
			t.Errorf("Put(%v): %x, error %d, want %s", m, got, e, want)
		}
		b, err := hex.DecodeString(want)
		if got, e := Get(b); err != nil || e != api.OK || !reflect.DeepEqual(got, m) {
			t.Errorf("Get(%s): %v, error %d, %v", want, got, e, err)
		}
	}
}

// Ms1: what may be.
func TestCheckRight(t *testing.T) {
	for _, m := range right() {
		if e := Check(m); e != api.OK {
			t.Errorf("Check(%v): error %d", m, e)
		}
	}
}

// Ms1, Ms2: a message's bytes, and the message of them.
func TestPutGet(t *testing.T) {
	for _, m := range right() {
		b, e := Put(m)
		if e != api.OK || !bytes.Equal(b, written(m)) {
			t.Errorf("Put(%v): %x, error %d", m, b, e)
		}
		if x, e := Get(b); e != api.OK || !reflect.DeepEqual(x, m) || !Same(x, m) {
			t.Errorf("Get of %v's bytes: %v, error %d", m, x, e)
		}
	}
}

// Ms1: what a message has is put as the layers below put it.
func TestPartsOfOthers(t *testing.T) {
	for _, m := range right() {
		var b []byte
		own, _ := block.Put(m.Block)
		switch m.Kind {
		case api.MsgNew, api.MsgPrep, api.MsgStore:
			b = att.Put(nil, m.Att)
		case api.MsgCert, api.MsgDone:
			b = cert.Put(nil, m.Cert)
		case api.MsgProp:
			b = accu.Put(text(nil, string(own)), m.Accu)
		case api.MsgGive:
			b = text(nil, string(own))
		case api.MsgView:
			b = accu.Put(nil, m.Accu)
		case api.MsgTx:
			b = tx.Put(nil, m.Tx)
		case api.MsgAsk:
			b = m.Hash[:]
		}
		head := []byte{byte(m.Kind), byte(m.From), byte(m.To)}
		if got, e := Put(m); e != api.OK || !bytes.Equal(got, append(head, b...)) {
			t.Errorf("Put(%v): %x, error %d", m, got, e)
		}
	}
}

// Ms1: how many bytes some have.
func TestLengths(t *testing.T) {
	for _, c := range []struct {
		m    api.Msg
		want int
	}{
		{api.Msg{Kind: api.MsgAsk, From: 1, To: 2}, 35},
		{api.Msg{Kind: api.MsgAsk, From: 21, To: 20, Hash: full()}, 35},
		{api.Msg{Kind: api.MsgGive, From: 1, To: 2, Block: blockOf(api.Hash{}, 1, 1, 1)}, 40},
		{api.Msg{Kind: api.MsgGive, From: 1, To: 2, Block: longest()}, 1867},
		{api.Msg{Kind: api.MsgTx, From: 1, To: 2, Tx: drop(1, 1, "a")}, 8},
		{api.Msg{Kind: api.MsgView, From: 1, To: 2, Accu: accuOf(1, 1, 0, api.Hash{}, 1)}, 72},
	} {
		if b, e := Put(c.m); e != api.OK || len(b) != c.want {
			t.Errorf("Put(%v): %d bytes, error %d, want %d", c.m, len(b), e, c.want)
		}
	}
}

// Ms1: from whom to whom a message may be, and that it may not be to oneself.
func TestFromTo(t *testing.T) {
	ends := []int{math.MinInt, -1 << 40, -256, -21, -2, -1, 22, 23, 127, 128, 255, 256, 257, 1<<32 + 1, 1<<40 + 2, math.MaxInt}
	for n := range 22 {
		ends = append(ends, n)
	}
	for _, m := range bases() {
		for _, from := range ends {
			for _, to := range ends {
				m.From, m.To = from, to
				b, e := Put(m)
				x, f := Get(written(m))
				if 1 <= from && from <= 21 && 1 <= to && to <= 21 && from != to {
					if Check(m) != api.OK || e != api.OK || !bytes.Equal(b, written(m)) || f != api.OK || !reflect.DeepEqual(x, m) {
						t.Errorf("%d to %d, kind %d: Check %d, Put %x, %d, Get %v, %d", from, to, m.Kind, Check(m), b, e, x, f)
					}
					continue
				}
				mustBeWrong(t, "from or to", m)
				mustBeNone(t, "from or to", written(m))
			}
		}
	}
}

// Ms1: whom an attestation, an accumulation, a block, a transaction is by does not hang on whom the message is from.
func TestByOthers(t *testing.T) {
	for _, m := range bases() {
		for from := 1; from <= 20; from++ {
			m.From, m.To = from, 21
			if b, e := Put(m); Check(m) != api.OK || e != api.OK || !mustBeOwn(t, b) {
				t.Errorf("Put(%v): error %d", m, e)
			}
		}
	}
}

// Ms1: other kinds are none, whatever a message has.
func TestKinds(t *testing.T) {
	kinds := []int{math.MinInt, math.MinInt + 1, -1 << 40, -256, -10, -2, -1, 0, 11, 12, 13, 127, 128, 255, 256, math.MaxInt - 1, math.MaxInt}
	for kind := 1; kind <= 10; kind++ {
		kinds = append(kinds, kind, 256+kind, 1<<32+kind)
	}
	for _, m := range bases() {
		body := written(m)[3:]
		own := m.Kind
		for _, kind := range kinds {
			if kind == own {
				continue
			}
			m.Kind = kind
			mustBeWrong(t, "another kind", m)
			mustBeNone(t, "another kind", append(num(nil, kind), append([]byte{1, 2}, body...)...))
		}
	}
}

// Ms1: each part that a message must have may be, else the message may not be, and the bytes with it are no message's.
func TestWrongParts(t *testing.T) {
	for _, m := range wrongParts() {
		mustBeWrong(t, "a part that may not be", m)
		if m.Cert.Att.By != 0 || m.Cert.Att.Tag != (api.Hash{}) {
			continue // its bytes do not show it
		}
		mustBeNone(t, "a part that may not be", written(m))
	}
}

// Ms1: what a kind does not name has to be zero, in all that it has; whether it may be does not matter.
func TestNothingElse(t *testing.T) {
	for _, m := range right() {
		for _, x := range append(turns(), extras()...) {
			if slices.Contains(has(m.Kind), x.part) {
				continue
			}
			mustBeWrong(t, "more than "+strings.Join(has(m.Kind), ", ")+": "+x.part, with(m, x.do))
		}
	}
}

// Ms1, R1: a message of which something is not there.
func TestLacking(t *testing.T) {
	mustBeWrong(t, "nothing", api.Msg{})
	mustBeWrong(t, "no kind", api.Msg{From: 1, To: 2})
	for kind := -2; kind <= 13; kind++ {
		m := api.Msg{Kind: kind, From: 1, To: 2}
		mustBeNone(t, "no part", num(nil, kind))
		mustBeNone(t, "no part", append(num(nil, kind), 1))
		mustBeNone(t, "no part", append(num(nil, kind), 1, 2))
		if kind == api.MsgAsk {
			continue // the zero hash may be asked for
		}
		mustBeWrong(t, "no part", m)
		mustBeNone(t, "no part, zeros", written(m))
	}
	for _, m := range bases() {
		for _, zero := range []func(*api.Msg){func(m *api.Msg) { m.Kind = 0 }, func(m *api.Msg) { m.From = 0 }, func(m *api.Msg) { m.To = 0 }} {
			mustBeWrong(t, "nobody", with(m, zero))
		}
	}
	prop := bases()[1]
	mustBeWrong(t, "no block", with(prop, func(m *api.Msg) { m.Block = api.Block{} }))
	mustBeWrong(t, "no accumulation", with(prop, func(m *api.Msg) { m.Accu = api.Accu{} }))
}

// Ms1, R5: an empty list that a kind does not name is none.
func TestEmptyLists(t *testing.T) {
	for _, m := range right() {
		want := written(m)
		x := copied(m)
		if len(x.Cert.Sigs) == 0 {
			x.Cert.Sigs = make([]api.Sig, 0, 5)
		}
		if len(x.Accu.Froms) == 0 {
			x.Accu.Froms = upTo(3)[:0]
		}
		if len(x.Block.Txs) == 0 {
			x.Block.Txs = []api.Tx{}
		}
		b, e := Put(x)
		if Check(x) != api.OK || e != api.OK || !bytes.Equal(b, want) || !Same(x, m) || !Same(m, x) {
			t.Errorf("%v with empty lists: Check %d, Put %x, error %d", m, Check(x), b, e)
		}
	}
}

// Ms1: a tag is not looked at: what is not right may be sent, too.
func TestTagsDoNotMatter(t *testing.T) {
	for _, m := range bases() {
		for _, h := range []api.Hash{{}, full(), rising()} {
			x := copied(m)
			for _, part := range has(m.Kind) {
				switch part {
				case "att":
					x.Att.Tag = h
				case "cert":
					x.Cert.Sigs[0].Tag = h
				case "accu":
					x.Accu.Tag = h
				}
			}
			if b, e := Put(x); Check(x) != api.OK || e != api.OK || !bytes.Equal(b, written(x)) || !mustBeOwn(t, b) {
				t.Errorf("Put(%v): %x, error %d", x, b, e)
			}
		}
	}
}

// Ms1: bytes that are cut, or have some behind, are none: all of them must be the message's.
func TestGetCut(t *testing.T) {
	for _, m := range right() {
		b := written(m)
		for cut := range b {
			if cut < 200 || cut > len(b)-100 {
				mustBeNone(t, "cut", b[:cut])
			}
		}
		for _, more := range [][]byte{{0}, {1}, {255}, make([]byte, 32), written(bases()[6]), b} {
			mustBeNone(t, "more behind", append(bytes.Clone(b), more...))
			mustBeNone(t, "more ahead", append(bytes.Clone(more[:1]), b...))
		}
	}
	mustBeNone(t, "nothing", nil)
	mustBeNone(t, "nothing", []byte{})
	mustBeNone(t, "noughts", make([]byte, 200))
	mustBeNone(t, "much", make([]byte, 1<<20))
}

// Ms1: a block is there as a text: all of the text is the block's, and nothing of it is outside.
func TestBlockText(t *testing.T) {
	for _, m := range []api.Msg{bases()[1], bases()[7], {Kind: api.MsgGive, From: 1, To: 2, Block: longest()}} {
		own := writtenBlock(m.Block)
		var tail []byte
		if m.Kind == api.MsgProp {
			tail = writtenPart(m, "accu")
		}
		head := []byte{byte(m.Kind), byte(m.From), byte(m.To)}
		telling := func(told int, b []byte) []byte {
			return bytes.Join([][]byte{head, num(nil, told), b, tail}, nil)
		}
		if !mustBeOwn(t, telling(len(own), own)) {
			t.Fatalf("%v is not got", m)
		}
		for _, told := range []int{0, 1, len(own) - 32, len(own) - 1, len(own) + 1, len(own) + 32, len(own) + len(tail), 1 << 16, 1<<16 + 1, 1 << 40, math.MaxInt} {
			if told != len(own) {
				mustBeNone(t, "another length", telling(told, own))
			}
		}
		for _, more := range [][]byte{{0}, {1, 2, 3}, own} {
			mustBeNone(t, "more in the text", telling(len(own)+len(more), append(bytes.Clone(own), more...)))
			mustBeNone(t, "more behind the text", telling(len(own), append(bytes.Clone(own), more...)))
		}
		mustBeNone(t, "not as a text", bytes.Join([][]byte{head, own, tail}, nil))
		mustBeNone(t, "an empty text", telling(0, nil))
		mustBeNone(t, "the first block", telling(36, make([]byte, 36)))
	}
}

// Ms1: a proposal's block is ahead of its accumulation.
func TestOrderOfProposal(t *testing.T) {
	m := bases()[1]
	mustBeNone(t, "the accumulation ahead", bytes.Join([][]byte{{2, 2, 21}, writtenPart(m, "accu"), writtenPart(m, "block")}, nil))
	mustBeNone(t, "the accumulation alone", bytes.Join([][]byte{{2, 2, 21}, writtenPart(m, "accu")}, nil))
	mustBeNone(t, "the block alone", bytes.Join([][]byte{{2, 2, 21}, writtenPart(m, "block")}, nil))
	mustBeNone(t, "the accumulation twice", bytes.Join([][]byte{written(m), writtenPart(m, "accu")}, nil))
}

// Ms1: numbers that are too great are no smaller ones.
func TestGetGreat(t *testing.T) {
	for _, m := range bases() {
		for _, n := range []uint64{1<<63 - 1, 1 << 63, 1<<63 + 1, 1<<63 + uint64(m.Kind), math.MaxUint64 - 1, math.MaxUint64} {
			for at := range 3 {
				own := written(m)
				mustBeNone(t, "a great number", bytes.Join([][]byte{own[:at], binary.AppendUvarint(nil, n), own[at+1:]}, nil))
			}
		}
	}
}

// Ms2: no other bytes are the same message's: a number with more bytes than it needs is none.
func TestLongNumbers(t *testing.T) {
	for _, m := range bases() {
		own := written(m)
		for at := range 4 {
			c := own[at]
			if c >= 128 || at == 3 && m.Kind == api.MsgAsk {
				continue // no number, or not its end
			}
			for _, more := range [][]byte{{c | 128, 0}, {c | 128, 128, 0}, {c | 128, 128, 128, 128, 128, 128, 128, 128, 128, 0}} {
				mustBeNone(t, "a long number", bytes.Join([][]byte{own[:at], more, own[at+1:]}, nil))
			}
		}
	}
}

// Ms2: no two messages have the same bytes.
func TestBytesAreUnlike(t *testing.T) {
	seen := map[string]api.Msg{}
	add := func(m api.Msg) {
		b, e := Put(m)
		if e != api.OK {
			return
		}
		if x, there := seen[string(b)]; there && !reflect.DeepEqual(x, m) {
			t.Errorf("%v and %v have the same bytes", m, x)
		}
		seen[string(b)] = m
	}
	for _, m := range right() {
		add(m)
		for _, x := range turns() {
			add(with(m, x.do))
		}
	}
	if len(seen) < 1000 {
		t.Errorf("only %d were put", len(seen))
	}
}

// Ms2: of messages' bytes some of which are turned, taken away, or doubled, those that are got are what is put of what was got.
func TestTurnedBytes(t *testing.T) {
	rnd := rand.New(rand.NewSource(1))
	many := 0
	for range 60 {
		for _, m := range right() {
			b := written(m)
			at := rnd.Intn(len(b))
			if rnd.Intn(2) == 0 {
				at = rnd.Intn(min(len(b), 12))
			}
			switch rnd.Intn(4) {
			case 0:
				b[at] = byte(rnd.Intn(256))
			case 1:
				b[at] = byte(rnd.Intn(24))
			case 2:
				b = append(b[:at], b[at+1:]...)
			case 3:
				b = append(b[:at+1], b[at:]...)
			}
			if mustBeOwn(t, b) {
				many++
			}
		}
	}
	if many < 100 {
		t.Errorf("only %d were got", many)
	}
}

// Ms2: likewise of bytes by chance behind each kind's head.
func TestChanceBytes(t *testing.T) {
	rnd := rand.New(rand.NewSource(2))
	for kind := range 12 {
		for range 2000 {
			b := make([]byte, 3+rnd.Intn(120))
			rnd.Read(b)
			b[0], b[1], b[2] = byte(kind), byte(1+rnd.Intn(21)), byte(1+rnd.Intn(21))
			for i := 3; i < len(b) && rnd.Intn(3) > 0; i++ {
				b[i] = byte(rnd.Intn(4))
			}
			mustBeOwn(t, b)
		}
	}
}

// Ms2: what is put is got, of messages by chance.
func TestPutIsGot(t *testing.T) {
	rnd := rand.New(rand.NewSource(3))
	hash := func() (h api.Hash) { rnd.Read(h[:]); return h }
	for range 2000 {
		m := api.Msg{Kind: 1 + rnd.Intn(10), From: 1 + rnd.Intn(10), To: 11 + rnd.Intn(11)}
		view := 1 + rnd.Intn(1<<rnd.Intn(41))
		who := slices.Sorted(slices.Values(rnd.Perm(21)[:1+rnd.Intn(21)]))
		for i := range who {
			who[i]++
		}
		a := attOf(1+rnd.Intn(21), []int{1, 1, 2, 2, 3, 3}[min(m.Kind, 6)-1], view, hash(), rnd.Intn(view), hash())
		for _, part := range has(m.Kind) {
			switch part {
			case "att":
				m.Att = a
			case "cert":
				m.Cert = certOf(a, who...)
			case "block":
				m.Block = blockOf(hash(), view, 1+rnd.Intn(1<<rnd.Intn(41)), 1+rnd.Intn(21), some(rnd.Intn(9))...)
				if len(m.Block.Txs) == 0 {
					m.Block.Txs = nil
				}
			case "accu":
				m.Accu = accuOf(1+rnd.Intn(21), view, rnd.Intn(view), hash(), who...)
			case "hash":
				m.Hash = hash()
			case "tx":
				m.Tx = some(8)[rnd.Intn(8)]
			}
		}
		b, e := Put(m)
		if Check(m) != api.OK || e != api.OK || !bytes.Equal(b, written(m)) {
			t.Fatalf("Put(%v): %x, error %d", m, b, e)
		}
		if x, e := Get(b); e != api.OK || !reflect.DeepEqual(x, m) {
			t.Fatalf("%v is got as %v, error %d", m, x, e)
		}
	}
}

// Ms1: alike are messages of which everything is the same, and no others; whether they may be does not matter.
func TestSame(t *testing.T) {
	l := right()
	for i, a := range l {
		for j, b := range l {
			if Same(a, copied(b)) != (i == j) {
				t.Fatalf("Same(%v, %v): %v", a, b, i != j)
			}
		}
	}
	all := api.Msg{Kind: 12, From: -1, To: 99}
	for _, x := range extras() {
		x.do(&all)
	}
	for _, a := range append(append(bases(), wrongParts()...), all, api.Msg{}) {
		if !Same(a, copied(a)) || !Same(copied(a), a) {
			t.Errorf("Same(%v, its copy): false", a)
		}
		for i, x := range turns() {
			if b := with(a, x.do); Same(a, b) || Same(b, a) {
				t.Errorf("%v, turned by %d: alike", a, i)
			}
		}
		for _, n := range []int{-1, 1, 256, 1 << 32} {
			for _, turn := range []func(*api.Msg){func(m *api.Msg) { m.Kind += n }, func(m *api.Msg) { m.From += n }, func(m *api.Msg) { m.To += n }} {
				if b := with(a, turn); Same(a, b) || Same(b, a) {
					t.Errorf("Same(%v, %v)", a, b)
				}
			}
		}
	}
}

// Ms1: of lists each place counts, and their order.
func TestSameLists(t *testing.T) {
	a := api.Msg{
		Cert:  certOf(attOf(1, 2, 3, rising(), 2, rising()), 1, 2, 3),
		Accu:  accuOf(1, 3, 2, rising(), 1, 2, 3),
		Block: blockOf(rising(), 3, 2, 1, some(3)...),
	}
	for at := range 3 {
		for i, turn := range []func(*api.Msg){
			func(m *api.Msg) { m.Cert.Sigs[at].By += 4 }, func(m *api.Msg) { m.Cert.Sigs[at].Tag[31] ^= 1 }, func(m *api.Msg) { m.Accu.Froms[at] += 4 }, func(m *api.Msg) { m.Block.Txs[at].Nonce++ },
			func(m *api.Msg) { m.Cert.Sigs = slices.Delete(m.Cert.Sigs, at, at+1) }, func(m *api.Msg) { m.Accu.Froms = slices.Delete(m.Accu.Froms, at, at+1) },
			func(m *api.Msg) { m.Block.Txs = slices.Delete(m.Block.Txs, at, at+1) },
			func(m *api.Msg) { slices.Reverse(m.Cert.Sigs) }, func(m *api.Msg) { slices.Reverse(m.Accu.Froms) }, func(m *api.Msg) { slices.Reverse(m.Block.Txs) },
		} {
			b := copied(a)
			turn(&b)
			if Same(a, b) || Same(b, a) {
				t.Errorf("turned at %d by %d: alike", at, i)
			}
		}
	}
}

// R3: nothing is written to what is handed in, nor to the room behind its lists.
func TestNothingIsWritten(t *testing.T) {
	for _, m := range append(right(), wrongParts()...) {
		x := copied(m)
		x.Cert.Sigs = slices.Grow(x.Cert.Sigs, 4)
		x.Accu.Froms = slices.Grow(x.Accu.Froms, 4)
		x.Block.Txs = slices.Grow(x.Block.Txs, 4)
		Check(x)
		Put(x)
		Same(x, m)
		Same(m, x)
		if !Same(x, m) || len(x.Cert.Sigs) != len(m.Cert.Sigs) {
			t.Errorf("turned: %v, was %v", x, m)
		}
		zero := [4]int{}
		if room := x.Accu.Froms[len(x.Accu.Froms):][:4]; !slices.Equal(room, zero[:]) {
			t.Errorf("the room behind Froms: %v", room)
		}
		if room := x.Block.Txs[len(x.Block.Txs):][:4]; !slices.Equal(room, make([]api.Tx, 4)) {
			t.Errorf("the room behind transactions: %v", room)
		}
		if room := x.Cert.Sigs[len(x.Cert.Sigs):][:4]; !slices.Equal(room, make([]api.Sig, 4)) {
			t.Errorf("the room behind signatures: %v", room)
		}
	}
}

// R3: what is got does not hang on the bytes that it was got from, which are left as they are; what is put and got is new each time.
func TestNewMemory(t *testing.T) {
	for _, m := range right() {
		own := written(m)
		room := append(bytes.Clone(own), 99, 99, 99)
		got, e := Get(room[:len(own)])
		again, f := Get(room[:len(own)])
		if e != api.OK || f != api.OK || !bytes.Equal(room, append(bytes.Clone(own), 99, 99, 99)) {
			t.Fatalf("Get writes to what it was handed: %x, errors %d, %d", room, e, f)
		}
		clear(room)
		clear(again.Block.Txs[:cap(again.Block.Txs)])
		clear(again.Accu.Froms[:cap(again.Accu.Froms)])
		clear(again.Cert.Sigs[:cap(again.Cert.Sigs)])
		if !reflect.DeepEqual(got, m) {
			t.Errorf("what was got turns: %v, was %v", got, m)
		}
		one, _ := Put(got)
		two, _ := Put(got)
		clear(one[:cap(one)])
		if !bytes.Equal(two, own) || !Same(got, m) {
			t.Errorf("Put(%v) answers one memory twice, or its message's", m)
		}
	}
}

// R4: an answer hangs on its arguments alone.
func TestNothingIsKept(t *testing.T) {
	l := bases()
	for i, m := range l {
		for _, other := range append(l[i+1:], api.Msg{}, wrongParts()[i]) {
			Check(other)
			Put(other)
			Get(written(other))
			Same(m, other)
			b, e := Put(m)
			x, f := Get(written(m))
			if Check(m) != api.OK || e != api.OK || !bytes.Equal(b, written(m)) || f != api.OK || !reflect.DeepEqual(x, m) || !Same(m, m) {
				t.Errorf("answers hang on the calls ahead: %v", m)
			}
		}
	}
}
