package tx

import (
	"bytes"
	"crypto/sha256"
	"encoding/binary"
	"encoding/hex"
	"math"
	"math/rand"
	"sort"
	"strings"
	"testing"

	"tithing/api"
	"tithing/octet"
	"tithing/sha"
)

// letters are all that a key can have.
const letters = "abcdefghijklmnopqrstuvwxyz0123456789"

// pay, put and drop are transactions of those kinds.
func pay(from, nonce, to, amount int) api.Tx {
	return api.Tx{From: from, Nonce: nonce, Kind: api.TxPay, To: to, Amount: amount}
}

func put(from, nonce int, key, value string) api.Tx {
	return api.Tx{From: from, Nonce: nonce, Kind: api.TxPut, Key: key, Value: value}
}

func drop(from, nonce int, key string) api.Tx {
	return api.Tx{From: from, Nonce: nonce, Kind: api.TxDrop, Key: key}
}

// every is so many bytes, one of each value first.
func every(n int) string {
	b := make([]byte, n)
	for i := range b {
		b[i] = byte(i)
	}
	return string(b)
}

// right are transactions that may be, at all edges; no two are alike.
func right() []api.Tx {
	l := []api.Tx{
		pay(1, 1, 1, 0), pay(1, 1, 2, 0), pay(1, 1, 2, 1), pay(2, 1, 1, 0), pay(1, 2, 1, 0),
		pay(40, 1, 1, 0), pay(1, 1<<40, 1, 0), pay(1, 1, 40, 0), pay(1, 1, 1, 1<<40), pay(1, 1, 1, 1<<40-1),
		pay(40, 1<<40, 40, 1<<40), pay(3, 127, 4, 128), pay(3, 128, 4, 127), pay(20, 1<<40-1, 20, 1000),
		put(3, 1, "a", ""), put(3, 1, "z", ""), put(3, 1, "0", ""), put(3, 1, "9", ""), put(3, 1, "aa", ""),
		put(3, 1, "a", "a"), put(3, 1, "a", "\x00"), put(3, 1, "a", "\n"), put(3, 1, "a", "\xff\xfe"), put(3, 1, "a", "grüße ✓"),
		put(3, 1, "a", every(40)), put(3, 1, "a", every(41)), put(3, 1, "a", every(127)), put(3, 1, "a", every(128)),
		put(3, 1, "a", every(199)), put(3, 1, "a", every(200)), put(40, 1<<40, letters[:16], strings.Repeat("\xff", 200)),
		drop(3, 1, "a"), drop(3, 2, "a"), drop(4, 1, "a"), drop(3, 1, "b"), drop(1, 1, "9"), drop(40, 1<<40, "0123456789xyzxyz"),
	}
	for n := 3; n <= 16; n++ {
		l = append(l, put(5, n, letters[n:2*n], "v"), drop(5, n, letters[n:2*n]))
	}
	return l
}

// outside are numbers that are no account's.
func outside() []int {
	return []int{math.MinInt, math.MinInt + 1, -1 << 40, -256, -40, -1, 0, 41, 42, 127, 128, 256, 257, 1<<16 + 1, 1<<32 + 1, 1<<40 + 1, math.MaxInt}
}

// beyond are numbers that are above 2^40, or below 0.
func beyond() []int {
	return []int{math.MinInt, math.MinInt + 1, -1 << 40, -2, -1, 1<<40 + 1, 1<<40 + 2, 1 << 41, 1 << 62, math.MaxInt - 1, math.MaxInt}
}

// noKeys are texts that can't be keys: they are too short, too long, or have what a key can't have.
func noKeys() []string {
	l := []string{
		"", letters[:17], letters, strings.Repeat("a", 65536), strings.Repeat("a", 65537),
		"ab cd", " a", "a ", "aB", "a\x00", "\x00a", "key-1", "a_b", "é", "aé", "ä", "\xff", "a\xc3", "１", "a１",
		letters[:15] + "A", letters[:16] + "A", "A" + letters[:15],
	}
	for c := range 256 {
		if !strings.ContainsRune(letters, rune(c)) || c >= 128 {
			one := string([]byte{byte(c)})
			l = append(l, one, "a"+one, one+"a", "a"+one+"a")
		}
	}
	return l
}

// wrong are transactions that may not be, most of them for one reason alone.
func wrong() []api.Tx {
	l := []api.Tx{{}, {From: 3, Nonce: 1}, {From: 3, Nonce: 1, To: 4, Amount: 5}, {From: 3, Nonce: 1, Key: "a", Value: "b"}}
	for _, n := range outside() {
		l = append(l, pay(n, 1, 1, 0), pay(1, 1, n, 0), put(n, 1, "a", ""), drop(n, 1, "a"))
		l = append(l, with(put(3, 1, "a", "b"), func(t *api.Tx) { t.To = n | 1 }), with(drop(3, 1, "a"), func(t *api.Tx) { t.To = n | 1 }))
	}
	for _, n := range append(beyond(), 0) {
		l = append(l, pay(1, n, 1, 0), put(1, n, "a", ""), drop(1, n, "a"))
	}
	for _, n := range beyond() {
		l = append(l, pay(1, 1, 1, n))
	}
	for _, n := range append(beyond(), 1, 2, 40, 1<<40) {
		l = append(l, with(put(3, 1, "a", "b"), func(t *api.Tx) { t.Amount = n }), with(drop(3, 1, "a"), func(t *api.Tx) { t.Amount = n }))
	}
	for _, key := range noKeys() {
		l = append(l, put(3, 1, key, ""), put(3, 1, key, "b"), drop(3, 1, key))
	}
	for _, n := range []int{201, 202, 255, 256, 456, 65536, 65537, 1 << 17} {
		l = append(l, put(3, 1, "a", every(n)))
	}
	for _, n := range []int{1, 40, 200, 201} {
		l = append(l, with(drop(3, 1, "a"), func(t *api.Tx) { t.Value = every(n) }), with(pay(3, 1, 4, 5), func(t *api.Tx) { t.Value = every(n) }))
	}
	for _, key := range []string{"a", "A", " ", "\x00", letters[:16], letters} {
		l = append(l, with(pay(3, 1, 4, 5), func(t *api.Tx) { t.Key = key }))
	}
	return append(l, otherKinds()...)
}

// otherKinds are transactions of kinds that there are not.
func otherKinds() []api.Tx {
	var l []api.Tx
	for _, kind := range []int{math.MinInt, -256, -3, -2, -1, 0, 4, 5, 128, 129, 256, 257, 258, 259, 1<<32 + 1, 1<<40 + 2, math.MaxInt} {
		for _, t := range []api.Tx{pay(3, 1, 4, 5), put(3, 1, "a", "b"), drop(3, 1, "a"), {From: 3, Nonce: 1}} {
			l = append(l, with(t, func(t *api.Tx) { t.Kind = kind }))
		}
	}
	return l
}

// with is a transaction that is turned.
func with(t api.Tx, turn func(*api.Tx)) api.Tx {
	turn(&t)
	return t
}

// written is a transaction's bytes by the library, also of one that may not be.
func written(t api.Tx) []byte {
	num := func(b []byte, n int) []byte { return binary.AppendUvarint(b, uint64(n)) }
	text := func(b []byte, s string) []byte { return append(num(b, len(s)), s...) }
	b := num(num(num(nil, t.From), t.Nonce), t.Kind)
	switch t.Kind {
	case 1:
		return num(num(b, t.To), t.Amount)
	case 2:
		return text(text(b, t.Key), t.Value)
	case 3:
		return text(b, t.Key)
	}
	return b
}

// unhex is the bytes that digits are.
func unhex(t *testing.T, s string) []byte {
	t.Helper()
	b, err := hex.DecodeString(s)
	if err != nil {
		t.Fatal(err)
	}
	return b
}

// short is a transaction as a failing test tells it.
func short(t api.Tx) string {
	b := written(t)
	return hex.EncodeToString(b[:min(len(b), 40)])
}

// mustBeNone holds that no transaction that may be is read.
func mustBeNone(t *testing.T, what string, b []byte) {
	t.Helper()
	if x, ok := Read(octet.Read(b)); ok || x != (api.Tx{}) {
		t.Errorf("%s: Read(%x): %v, %v", what, b[:min(len(b), 60)], x, ok)
	}
}

// Tx1: what may be.
func TestCheckRight(t *testing.T) {
	for _, x := range right() {
		if e := Check(x); e != api.OK {
			t.Errorf("Check(%s): error %d", short(x), e)
		}
	}
	for n := 1; n <= 40; n++ {
		for _, x := range []api.Tx{pay(n, 1, 41-n, n), put(n, n, "a", every(5*n)), drop(n, n, "b")} {
			if e := Check(x); e != api.OK {
				t.Errorf("Check(%s): error %d", short(x), e)
			}
		}
	}
	for _, c := range letters {
		for _, key := range []string{string(c), "a" + string(c), string(c) + "0", strings.Repeat(string(c), 16)} {
			if Check(put(1, 1, key, "")) != api.OK || Check(drop(1, 1, key)) != api.OK {
				t.Errorf("%q is no key", key)
			}
		}
	}
}

// Tx1: what may not be.
func TestCheckWrong(t *testing.T) {
	for _, x := range wrong() {
		if e := Check(x); e != api.ErrArg {
			t.Errorf("Check(%s), To %d, Amount %d, %d and %d bytes: error %d", short(x), x.To, x.Amount, len(x.Key), len(x.Value), e)
		}
	}
}

// told are transactions, their bytes, and their ids, worked out elsewhere.
func told() []struct {
	tx     api.Tx
	own    string
	wantId string
} {
	return []struct {
		tx     api.Tx
		own    string
		wantId string
	}{
		{pay(1, 1, 2, 0), "0101010200", "0dc0c43ab9b5ff1afe7b2bdf82d44e755e786c86d24d7e46835fa9fa7539f889"},
		{pay(40, 1<<40, 40, 1<<40), "288080808080200128808080808020", "b49c9da3634689ced37edfaf33cce99181b406a6fa8c8e136f2eb6643e7a1176"},
		{pay(1, 300, 1, 1000), "01ac020101e807", "7cb70eb51f10d93fdac6031cb11265744884626815eda578e41b964d319e91dd"},
		{put(3, 1, "a", ""), "030102016100", "abcedc8fcf666de46a3e6a4dfd2e3228c731a78128fa57a13f8280dcb46b7086"},
		{put(5, 2, "name0", "Ann Lee"), "050202056e616d653007416e6e204c6565", "efda3d7799f4c20a9bd2b2a9de2332c377284fdafea97bdc6081cba36be3a1d0"},
		{drop(3, 1, "a"), "0301030161", "1048494c3a8ae480df36d7b78a82da07b564addb0f66063b2cbfeca9822db7b8"},
		{drop(7, 128, "0123456789xyzxyz"), "07800103103031323334353637383978797a78797a", "9e4d885bb1460fbbb9cf1414ccc631bca85b4d232ce7c2bbf9776a591ff7a865"},
	}
}

// Tx1: bytes and ids that were worked out elsewhere.
func TestTold(t *testing.T) {
	for _, e := range told() {
		want := unhex(t, e.own)
		if got := Put(nil, e.tx); !bytes.Equal(got, want) {
			t.Errorf("Put: %x, want %x", got, want)
		}
		if got, ok := Read(octet.Read(want)); !ok || got != e.tx {
			t.Errorf("Read(%x): %v, %v", want, got, ok)
		}
		if got := sha.Hex(Id(e.tx)); got != e.wantId {
			t.Errorf("Id of %x: %s, want %s", want, got, e.wantId)
		}
	}
	long := put(40, 1<<40, letters[:16], every(200))
	if got := sha.Hex(Id(long)); got != "4c53da69f0e5a27a7700a2a789aa56c204b541229996b064ee7fe72d3a9b04ad" {
		t.Errorf("Id of the longest: %s", got)
	}
	if got := len(Put(nil, long)); got != 227 {
		t.Errorf("the longest has %d bytes", got)
	}
}

// Tx1: a transaction's bytes stand behind those that were there.
func TestPut(t *testing.T) {
	for _, x := range right() {
		want := written(x)
		for _, b := range [][]byte{nil, {}, {7}, {1, 2, 3}, []byte(every(1000)), want} {
			if got := Put(b, x); !bytes.Equal(got, append(bytes.Clone(b), want...)) {
				t.Errorf("Put(%d bytes, %s): %d bytes", len(b), short(x), len(got))
			}
		}
	}
}

// Tx1: of one that may not be nothing is put.
func TestPutWrong(t *testing.T) {
	for _, x := range wrong() {
		for _, b := range [][]byte{nil, {}, {7}, {1, 2, 3}} {
			if got := Put(b, x); !bytes.Equal(got, b) {
				t.Errorf("Put(%v, %s): %d bytes", b, short(x), len(got))
			}
		}
	}
}

// Tx1: what is read next, and nothing behind it.
func TestReadNext(t *testing.T) {
	for _, x := range right() {
		for _, more := range [][]byte{nil, {0}, {255}, {1, 1, 1, 1, 1}, written(x), []byte(every(300))} {
			r := octet.Read(append(written(x), more...))
			if got, ok := Read(r); !ok || got != x || r.Left() != len(more) || r.Wrong() {
				t.Errorf("Read(%s, and %d bytes): %v, %v, left %d", short(x), len(more), got, ok, r.Left())
			}
		}
	}
}

// Tx1: one behind the other is read, from wherever the reader stands.
func TestReadInTurn(t *testing.T) {
	b := octet.Num(nil, 300)
	for _, x := range right() {
		b = Put(b, x)
	}
	r := octet.Read(b)
	if n := r.Num(); n != 300 {
		t.Fatalf("the number ahead: %d", n)
	}
	for i, x := range right() {
		if got, ok := Read(r); !ok || got != x {
			t.Fatalf("%d: %v, %v, want %v", i, got, ok, x)
		}
	}
	if !r.Done() {
		t.Errorf("left %d, wrong %v", r.Left(), r.Wrong())
	}
	if got, ok := Read(r); ok || got != (api.Tx{}) {
		t.Errorf("behind all: %v, %v", got, ok)
	}
}

// Tx1: one that is cut is none: also where only an amount or a value is not there, that could be nought or empty.
func TestReadCut(t *testing.T) {
	for _, x := range right() {
		b := written(x)
		for cut := range b {
			mustBeNone(t, "cut", b[:cut])
		}
	}
	mustBeNone(t, "no amount", []byte{3, 1, 1, 4})
	mustBeNone(t, "no value", []byte{3, 1, 2, 1, 'a'})
	mustBeNone(t, "half a value", []byte{3, 1, 2, 1, 'a', 2, 'b'})
}

// Tx1: bytes of one that may not be are none.
func TestReadWrong(t *testing.T) {
	for _, x := range wrong() {
		if x.Kind < api.TxPay || x.Kind > api.TxDrop || x.Kind == api.TxPay && x.Key+x.Value != "" {
			continue // what it should not have is not written
		}
		if x.Kind != api.TxPay && (x.To != 0 || x.Amount != 0) || x.Kind == api.TxDrop && x.Value != "" {
			continue
		}
		mustBeNone(t, "may not be", written(x))
		mustBeNone(t, "may not be, and more", append(written(x), 0, 0, 0))
	}
	for _, x := range otherKinds() {
		for _, more := range [][]byte{nil, {4, 5}, {1, 'a', 0}, {1, 'a'}, {0, 0, 0}} {
			mustBeNone(t, "another kind", append(written(x), more...))
		}
	}
}

// Tx1: numbers of more than 63 bits are no smaller ones.
func TestReadGreat(t *testing.T) {
	for _, n := range []uint64{1<<40 + 1, 1<<63 - 1, 1 << 63, 1<<63 + 1, 1<<63 + 3, math.MaxUint64 - 1, math.MaxUint64} {
		b := binary.AppendUvarint(nil, n)
		for at := range 5 {
			parts := [][]byte{{3}, {1}, {1}, {4}, {5}}
			parts[at] = b
			mustBeNone(t, "great number of a pay", bytes.Join(parts, nil))
		}
		mustBeNone(t, "great key", bytes.Join([][]byte{{3, 1, 2}, b, {'a', 0}}, nil))
		mustBeNone(t, "great value", bytes.Join([][]byte{{3, 1, 2, 1, 'a'}, b, {'b'}}, nil))
	}
}

// Tx1, R1: of no reader, or one that is wrong, nothing is read.
func TestReadOfNobody(t *testing.T) {
	failed := octet.Read(append([]byte{128, 0}, written(pay(1, 1, 2, 3))...))
	failed.Num()
	for name, r := range map[string]*octet.Reader{
		"nil": nil, "zero": {}, "no bytes": octet.Read(nil), "wrong": failed,
	} {
		if x, ok := Read(r); ok || x != (api.Tx{}) {
			t.Errorf("%s: %v, %v", name, x, ok)
		}
	}
}

// Tx1: an id is the sum of the bytes.
func TestId(t *testing.T) {
	seen := map[api.Hash]api.Tx{}
	for _, x := range right() {
		got := Id(x)
		if want := api.Hash(sha256.Sum256(written(x))); got != want {
			t.Errorf("Id(%s): %x, want %x", short(x), got, want)
		}
		if got != sha.Of(Put(nil, x)) {
			t.Errorf("Id(%s) is not the sum of what is put", short(x))
		}
		if other, there := seen[got]; there {
			t.Errorf("%v and %v have one id", x, other)
		}
		seen[got] = x
	}
}

// Tx1: one that may not be has no id.
func TestIdWrong(t *testing.T) {
	for _, x := range wrong() {
		if got := Id(x); got != (api.Hash{}) {
			t.Errorf("Id(%s): %x", short(x), got)
		}
	}
}

// Tx1: From counts first, then Nonce, and nothing else.
func TestLess(t *testing.T) {
	numbers := []int{math.MinInt, -1, 0, 1, 2, 39, 40, 41, 1 << 40, math.MaxInt}
	for _, from := range numbers {
		for _, nonce := range numbers {
			for _, from2 := range numbers {
				for _, nonce2 := range numbers {
					a, b := pay(from, nonce, 9, 9), drop(from2, nonce2, "a")
					want := from < from2 || from == from2 && nonce < nonce2
					if Less(a, b) != want {
						t.Errorf("Less(%d %d, %d %d): %v", from, nonce, from2, nonce2, !want)
					}
					if Less(drop(from, nonce, "b"), pay(from2, nonce2, 1, 0)) != want {
						t.Errorf("Less(%d %d, %d %d) hangs on more", from, nonce, from2, nonce2)
					}
				}
			}
		}
	}
	if Less(api.Tx{}, api.Tx{}) {
		t.Error("a transaction is ahead of itself")
	}
}

// Tx1: by Less transactions are put in order.
func TestLessSorts(t *testing.T) {
	l := []api.Tx{pay(2, 1, 1, 0), drop(1, 2, "a"), put(40, 1, "a", ""), pay(1, 1, 1, 0), put(2, 1<<40, "a", ""), pay(2, 2, 1, 0)}
	sort.Slice(l, func(i, j int) bool { return Less(l[i], l[j]) })
	want := [][2]int{{1, 1}, {1, 2}, {2, 1}, {2, 2}, {2, 1 << 40}, {40, 1}}
	for i, x := range l {
		if [2]int{x.From, x.Nonce} != want[i] {
			t.Errorf("place %d: %d, %d", i, x.From, x.Nonce)
		}
	}
}

// Tx2: no other bytes are the same one's: a number with more bytes than it needs is none, wherever it stands.
func TestLongNumbers(t *testing.T) {
	for _, x := range []api.Tx{pay(3, 1, 4, 0), pay(3, 1, 4, 5), put(3, 1, "a", ""), put(3, 1, "a", "b"), drop(3, 1, "a")} {
		b := written(x)
		for at, c := range b {
			if c >= 'a' {
				continue // not a number
			}
			for _, more := range [][]byte{{c | 128, 0}, {c | 128, 128, 0}, {c | 128, 128, 128, 128, 128, 128, 128, 128, 128, 0}} {
				mustBeNone(t, "a long number", bytes.Join([][]byte{b[:at], more, b[at+1:]}, nil))
			}
		}
	}
}

// Tx2: of all short texts of a few bytes, those that are read are what is put of what was read; and no two are the same one's.
func TestShortTexts(t *testing.T) {
	alphabet := []byte{0, 1, 2, 3, 41, 'a', 128, 129}
	seen := map[api.Tx]string{}
	for n := range 7 {
		b := make([]byte, n)
		for {
			r := octet.Read(b)
			x, ok := Read(r)
			if !ok && x != (api.Tx{}) {
				t.Fatalf("%v: %v beside false", b, x)
			}
			if ok {
				own := b[:len(b)-r.Left()]
				if Check(x) != api.OK || !bytes.Equal(Put(nil, x), own) {
					t.Fatalf("%v is read as %v, which is put as %v", own, x, Put(nil, x))
				}
				if other, there := seen[x]; there && other != string(own) {
					t.Fatalf("%v and %v are one transaction's", own, []byte(other))
				}
				seen[x] = string(own)
			}
			if !following(b, alphabet) {
				break
			}
		}
	}
	for _, x := range []api.Tx{pay(1, 1, 1, 0), pay(3, 129, 2, 1), put(3, 1, "a", ""), put(2, 3, "a", ""), put(1, 1, "a", ""), drop(3, 1, "a"), drop(1, 1, "aa")} {
		if _, there := seen[x]; !there {
			t.Errorf("%v is not among those that are read", x)
		}
	}
}

// following turns bytes into the next ones of that alphabet, the first place first; it tells whether there are any.
func following(b, alphabet []byte) bool {
	for i := range b {
		at := bytes.IndexByte(alphabet, b[i])
		if at+1 < len(alphabet) {
			b[i] = alphabet[at+1]
			return true
		}
		b[i] = alphabet[0]
	}
	return false
}

// Tx2: likewise of transactions' bytes some of which are turned, taken away, or put between.
func TestTurnedBytes(t *testing.T) {
	rnd := rand.New(rand.NewSource(1))
	many := 0
	for range 300 {
		for _, x := range right() {
			b := written(x)
			at := rnd.Intn(len(b))
			switch rnd.Intn(3) {
			case 0:
				b[at] = byte(rnd.Intn(256))
			case 1:
				b = append(b[:at], b[at+1:]...)
			case 2:
				b = append(b[:at+1], b[at:]...)
			}
			r := octet.Read(b)
			y, ok := Read(r)
			if !ok {
				if y != (api.Tx{}) {
					t.Fatalf("%x: %v beside false", b, y)
				}
				continue
			}
			many++
			if own := b[:len(b)-r.Left()]; Check(y) != api.OK || !bytes.Equal(Put(nil, y), own) {
				t.Fatalf("%x is read as %v, which is put as %x", own, y, Put(nil, y))
			}
		}
	}
	if many == 0 {
		t.Error("none was read")
	}
}

// Tx2: what is put is read, of transactions by chance.
func TestPutIsRead(t *testing.T) {
	rnd := rand.New(rand.NewSource(2))
	for range 5000 {
		key := make([]byte, 1+rnd.Intn(16))
		for i := range key {
			key[i] = letters[rnd.Intn(len(letters))]
		}
		value := make([]byte, rnd.Intn(201))
		rnd.Read(value)
		from, nonce := 1+rnd.Intn(40), 1+rnd.Intn(1<<rnd.Intn(41))
		for _, x := range []api.Tx{pay(from, nonce, 1+rnd.Intn(40), rnd.Intn(1<<rnd.Intn(41)+1)), put(from, nonce, string(key), string(value)), drop(from, nonce, string(key))} {
			b := Put(nil, x)
			r := octet.Read(b)
			if got, ok := Read(r); !ok || got != x || !r.Done() || !bytes.Equal(b, written(x)) {
				t.Fatalf("%v is put as %x, which is read as %v, %v", x, b, got, ok)
			}
		}
	}
}

// R3: nothing is written to what is handed in, nor to the room behind it; what is answered is new memory, also where nothing is put.
func TestPutIsNewMemory(t *testing.T) {
	room := bytes.Repeat([]byte{99}, 400)
	for _, x := range []api.Tx{pay(1, 1, 2, 3), put(3, 1, "a", every(200)), drop(3, 1, "a"), {}, pay(41, 1, 2, 3)} {
		for _, n := range []int{0, 1, 3, 399, 400} {
			b := bytes.Clone(room)
			got := Put(b[:n], x)
			again := Put(b[:n], x)
			got = append(got, 1, 2, 3)
			clear(got)
			if !bytes.Equal(b, room) {
				t.Fatalf("Put(%d bytes, %s) writes to what it was handed, or shares memory with it", n, short(x))
			}
			clear(b)
			if !bytes.Equal(again, Put(room[:n], x)) {
				t.Errorf("Put(%d bytes, %s) hangs on what was handed in", n, short(x))
			}
		}
	}
}

// R3: what is read does not hang on the bytes that it was read from.
func TestReadIsNewMemory(t *testing.T) {
	x := put(3, 1, "key", "value")
	b := written(x)
	r := octet.Read(b)
	clear(b)
	got, ok := Read(r)
	if !ok || got != x {
		t.Errorf("%v, %v", got, ok)
	}
}

// R4: an answer hangs on its arguments alone.
func TestNothingIsKept(t *testing.T) {
	for _, x := range right() {
		Put([]byte("other"), drop(40, 7, "other"))
		Read(octet.Read([]byte{1, 1, 1}))
		Id(put(40, 7, "other", "other"))
		Check(api.Tx{})
		if Check(x) != api.OK || !bytes.Equal(Put(nil, x), written(x)) || Id(x) != api.Hash(sha256.Sum256(written(x))) {
			t.Errorf("answers hang on the calls ahead: %s", short(x))
		}
	}
}
