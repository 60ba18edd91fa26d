package octet

import (
	"bytes"
	"math"
	"math/rand"
	"testing"

	"tithing/api"
)

// numbers are numbers and their bytes, written out by hand.
func numbers() map[uint64][]byte {
	ten := bytes.Repeat([]byte{255}, 9)
	return map[uint64][]byte{
		0:                  {0},
		1:                  {1},
		127:                {127},
		128:                {128, 1},
		300:                {172, 2},
		1<<14 - 1:          {255, 127},
		1 << 14:            {128, 128, 1},
		1 << 40:            {128, 128, 128, 128, 128, 32},
		1<<63 - 1:          append(bytes.Repeat([]byte{255}, 8), 127),
		1 << 63:            append(bytes.Repeat([]byte{128}, 9), 1),
		math.MaxUint64:     append(ten, 1),
		math.MaxUint64 - 1: append(append([]byte{254}, ten[1:]...), 1),
	}
}

// someHash is a hash of 32 unlike bytes.
func someHash() api.Hash {
	var h api.Hash
	for i := range h {
		h[i] = byte(i + 1)
	}
	return h
}

// roomy is bytes with room behind them, which holds 99s.
func roomy(b ...byte) []byte {
	r := bytes.Repeat([]byte{99}, len(b)+80)
	copy(r, b)
	return r[:len(b)]
}

// Oc1: a number's bytes.
func TestNumPut(t *testing.T) {
	for n, want := range numbers() {
		if got := Num(nil, n); !bytes.Equal(got, want) {
			t.Errorf("Num(nil, %d): %v, want %v", n, got, want)
		}
		if got := Num([]byte{5, 6}, n); !bytes.Equal(got, append([]byte{5, 6}, want...)) {
			t.Errorf("Num(5 6, %d): %v", n, got)
		}
	}
	for i := range 64 {
		if got, want := len(Num(nil, 1<<i)), i/7+1; got != want {
			t.Errorf("2^%d: %d bytes, want %d", i, got, want)
		}
	}
}

// Oc1: a text's bytes.
func TestTextPut(t *testing.T) {
	long := bytes.Repeat([]byte("tithing!"), api.MaxText/8+1)
	for _, c := range []struct{ b, t, want []byte }{
		{nil, nil, []byte{0}},
		{nil, []byte{}, []byte{0}},
		{[]byte{9}, nil, []byte{9, 0}},
		{[]byte{9}, []byte("ab"), []byte{9, 2, 'a', 'b'}},
		{nil, long[:127], append([]byte{127}, long[:127]...)},
		{nil, long[:128], append([]byte{128, 1}, long[:128]...)},
		{nil, long[:api.MaxText-1], append([]byte{255, 255, 3}, long[:api.MaxText-1]...)},
		{nil, long[:api.MaxText], append([]byte{128, 128, 4}, long[:api.MaxText]...)},
		{[]byte{9}, long[:api.MaxText+1], append([]byte{9, 128, 128, 4}, long[:api.MaxText]...)},
		{nil, long, append([]byte{128, 128, 4}, long[:api.MaxText]...)},
	} {
		if got := Text(c.b, c.t); !bytes.Equal(got, c.want) {
			t.Errorf("Text(%v, text of %d bytes): %d bytes, want %d", c.b, len(c.t), len(got), len(c.want))
		}
	}
}

// Oc1: a hash's bytes.
func TestHashPut(t *testing.T) {
	h := someHash()
	if got := Hash(nil, h); !bytes.Equal(got, h[:]) {
		t.Errorf("Hash(nil, h): %v", got)
	}
	if got := Hash([]byte{5, 6}, h); !bytes.Equal(got, append([]byte{5, 6}, h[:]...)) {
		t.Errorf("Hash(5 6, h): %v", got)
	}
	if got := Hash(nil, api.Hash{}); !bytes.Equal(got, make([]byte, 32)) {
		t.Errorf("Hash(nil, zero): %v", got)
	}
}

// Oc1, R3: what is put stands in new memory; nothing is written to what is handed in, nor to the room behind it.
func TestPutIsNewMemory(t *testing.T) {
	text := []byte("text")
	for name, put := range map[string]func([]byte) []byte{
		"Num":  func(b []byte) []byte { return Num(b, 300) },
		"Text": func(b []byte) []byte { return Text(b, text) },
		"Hash": func(b []byte) []byte { return Hash(b, someHash()) },
	} {
		b := roomy(1, 2, 3)
		got := put(b)
		if room := b[:cap(b)]; !bytes.Equal(room, append([]byte{1, 2, 3}, bytes.Repeat([]byte{99}, 80)...)) {
			t.Errorf("%s wrote to what it was handed: %v", name, room)
		}
		for i := range got {
			got[i] = 77
		}
		if !bytes.Equal(b, []byte{1, 2, 3}) || string(text) != "text" {
			t.Errorf("%s shares memory with what it was handed", name)
		}
	}
}

// Oc1: a reader of bytes, at place 0.
func TestRead(t *testing.T) {
	for _, b := range [][]byte{nil, {}, {1}, {1, 2, 3}} {
		r := Read(b)
		if r.Left() != len(b) || r.Wrong() || r.Done() != (len(b) == 0) {
			t.Errorf("Read(%v): left %d, wrong %v, done %v", b, r.Left(), r.Wrong(), r.Done())
		}
	}
}

// Oc1, R3: a reader keeps nothing of what it was handed, and hands out nothing of what it has.
func TestReadIsNewMemory(t *testing.T) {
	b := []byte{2, 'a', 'b', 2, 'c', 'd'}
	r := Read(b)
	for i := range b {
		b[i] = 0
	}
	one := r.Text()
	if string(one) != "ab" {
		t.Fatalf("first text: %q", one)
	}
	_ = append(one, 0, 0, 0)
	if two := r.Text(); string(two) != "cd" || !r.Done() {
		t.Errorf("second text: %q", two)
	}
	if !bytes.Equal(b, make([]byte, 6)) {
		t.Errorf("the reader wrote to what it was handed: %v", b)
	}
}

// Oc2: one behind the other is read, and the place is behind it.
func TestReadInTurn(t *testing.T) {
	b := Num(nil, 300)
	b = Text(b, []byte("abc"))
	b = Hash(b, someHash())
	b = Num(b, 7)
	b = Text(b, nil)
	b = Num(b, math.MaxUint64)
	r := Read(b)
	left := len(b)
	step := func(name string, ok bool, size int) {
		t.Helper()
		left -= size
		if !ok || r.Left() != left || r.Wrong() || r.Done() != (left == 0) {
			t.Errorf("%s: read so %v, left %d (want %d), wrong %v, done %v", name, ok, r.Left(), left, r.Wrong(), r.Done())
		}
	}
	step("number", r.Num() == 300, 2)
	step("text", string(r.Text()) == "abc", 4)
	step("hash", r.Hash() == someHash(), 32)
	step("upto", r.Upto(7) == 7, 1)
	step("empty text", len(r.Text()) == 0, 1)
	step("greatest number", r.Num() == math.MaxUint64, 10)
}

// mustStop holds that something was wrong, that the place stayed, and that nothing is read any more.
func mustStop(t *testing.T, name string, r *Reader, left int) {
	t.Helper()
	for range 2 {
		if !r.Wrong() || r.Done() || r.Left() != left {
			t.Errorf("%s: wrong %v, done %v, left %d (want %d)", name, r.Wrong(), r.Done(), r.Left(), left)
		}
		if r.Num() != 0 || r.Upto(math.MaxInt) != 0 || r.Upto(-1) != 0 || len(r.Text()) != 0 || r.Hash() != (api.Hash{}) {
			t.Errorf("%s: something is read behind what was wrong", name)
		}
	}
}

// noNumbers are bytes that begin with no number.
func noNumbers() [][]byte {
	high := bytes.Repeat([]byte{128}, 12)
	with := func(n int, b ...byte) []byte { return append(append([]byte(nil), high[:n]...), b...) }
	return [][]byte{
		nil, {}, // not there
		{128}, {255}, with(9), // ended too early
		{128, 0}, {255, 0}, {172, 130, 0}, with(9, 0), // not as short as can be
		with(9, 2), with(9, 3), with(9, 127), append(bytes.Repeat([]byte{255}, 9), 2), // more than 64 bits
		with(10), with(10, 0), with(10, 1), with(12, 1), bytes.Repeat([]byte{255}, 11), // more than 10 bytes
	}
}

// Oc2: what is no number is wrong.
func TestNumWrong(t *testing.T) {
	for _, b := range noNumbers() {
		tail := b
		if len(b) > 0 && b[len(b)-1] < 128 { // else what is behind would belong to it
			tail = append(append([]byte(nil), b...), 1, 2, 3)
		}
		for _, c := range [][]byte{b, tail} {
			r := Read(append([]byte{5}, c...))
			if r.Num() != 5 || r.Num() != 0 {
				t.Errorf("%v is read", c)
			}
			mustStop(t, "Num", r, len(c))
			r = Read(c)
			if r.Upto(math.MaxInt) != 0 {
				t.Errorf("%v is read by Upto", c)
			}
			mustStop(t, "Upto", r, len(c))
		}
	}
}

// Oc2: a number up to most, and none above.
func TestUpto(t *testing.T) {
	for _, c := range []struct {
		n    uint64
		most int
		ok   bool
	}{
		{0, 0, true}, {1, 0, false}, {1, 1, true}, {300, 300, true}, {300, 301, true}, {301, 300, false},
		{1 << 40, api.MaxView, true}, {1<<40 + 1, api.MaxView, false},
		{math.MaxInt, math.MaxInt, true}, {math.MaxInt, math.MaxInt - 1, false},
		{1 << 63, math.MaxInt, false}, {math.MaxUint64, math.MaxInt, false}, {math.MaxUint64, 0, false},
		{0, -1, false}, {1, -1, false}, {0, math.MinInt, false}, {1 << 63, math.MinInt, false}, {math.MaxUint64, -1, false},
	} {
		b := Num(Num(nil, 5), c.n)
		r := Read(append(b, 9))
		if r.Upto(5) != 5 {
			t.Fatal("Upto(5) of 5")
		}
		got := r.Upto(c.most)
		if !c.ok {
			if got != 0 {
				t.Errorf("Upto(%d) of %d: %d, want nought", c.most, c.n, got)
			}
			mustStop(t, "Upto", r, len(b)) // the 5 is gone, a 9 is behind
			continue
		}
		if uint64(got) != c.n || r.Wrong() || r.Left() != 1 {
			t.Errorf("Upto(%d) of %d: %d, wrong %v, left %d", c.most, c.n, got, r.Wrong(), r.Left())
		}
	}
	r := Read(nil)
	if r.Upto(-1) != 0 {
		t.Error("Upto(-1) of nothing")
	}
	mustStop(t, "Upto(-1) of nothing", r, 0)
}

// Oc2: a text of up to MaxText bytes.
func TestTextRead(t *testing.T) {
	long := bytes.Repeat([]byte("tithing!"), api.MaxText/8+1)
	for _, n := range []int{0, 1, 127, 128, 16384, api.MaxText - 1, api.MaxText} {
		r := Read(append(Num(nil, uint64(n)), long...))
		if got := r.Text(); !bytes.Equal(got, long[:n]) || r.Wrong() || r.Left() != len(long)-n {
			t.Errorf("text of %d bytes: %d bytes, wrong %v, left %d", n, len(got), r.Wrong(), r.Left())
		}
	}
}

// Oc2: what is no text is wrong, and the place stays ahead of its length.
func TestTextWrong(t *testing.T) {
	long := bytes.Repeat([]byte("tithing!"), api.MaxText/8+1)
	wrong := [][]byte{
		{1}, {2, 'a'}, {127, 'a', 'b'}, {128, 1}, // ended too early
		{128, 0}, {129, 0, 'a'}, {130, 128, 0, 'a', 'b'}, // a length not as short as can be
		append(Num(nil, api.MaxText), long[:api.MaxText-1]...),
		append(Num(nil, api.MaxText+1), long[:api.MaxText+1]...), // too long, though it is there
		append(Num(nil, 1<<63), long...),
		append(Num(nil, math.MaxUint64), long...),
	}
	for _, b := range append(wrong, noNumbers()...) {
		r := Read(append([]byte{5}, b...))
		r.Num()
		if got := r.Text(); len(got) != 0 {
			t.Errorf("a text of %d bytes is read of %d bytes", len(got), len(b))
		}
		mustStop(t, "Text", r, len(b))
	}
}

// Oc2: a hash is read of 32 bytes, of no fewer.
func TestHashRead(t *testing.T) {
	h := someHash()
	r := Read(append(Hash([]byte{5}, h), 6))
	if r.Num() != 5 || r.Hash() != h || r.Left() != 1 || r.Num() != 6 || !r.Done() {
		t.Error("a hash between two numbers is not read")
	}
	if r := Read(h[:]); r.Hash() != h || !r.Done() {
		t.Error("a hash that is all there is is not read")
	}
	for _, n := range []int{0, 1, 31} {
		r := Read(Hash(nil, h)[:n])
		if r.Hash() != (api.Hash{}) {
			t.Errorf("a hash is read of %d bytes", n)
		}
		mustStop(t, "Hash", r, n)
	}
}

// Oc2: nothing may be left when all is done.
func TestDone(t *testing.T) {
	r := Read([]byte{1, 2})
	if r.Num(); r.Done() {
		t.Error("done with a byte left")
	}
	if r.Num(); !r.Done() {
		t.Error("not done with none left")
	}
	if r.Num(); r.Done() || !r.Wrong() {
		t.Error("done behind what was wrong")
	}
}

// R1: no reader: nought, nothing; it is wrong.
func TestNoReader(t *testing.T) {
	mustStop(t, "nil", nil, 0)
	mustStop(t, "zero value", &Reader{}, 0)
	var r *Reader
	if r.Upto(-1) != 0 || r.Upto(0) != 0 || r.Left() != 0 || !r.Wrong() || r.Done() {
		t.Error("a nil reader answers")
	}
}

// Oc3: what is put is read.
func TestPutIsRead(t *testing.T) {
	rnd := rand.New(rand.NewSource(1))
	for range 2000 {
		n, m := rnd.Uint64()>>rnd.Intn(64), rnd.Intn(1<<20)
		text := make([]byte, rnd.Intn(300))
		rnd.Read(text)
		var h api.Hash
		rnd.Read(h[:])
		b := Num(Hash(Text(Num(nil, n), text), h), uint64(m))
		r := Read(b)
		if r.Num() != n || !bytes.Equal(r.Text(), text) || r.Hash() != h || r.Upto(m) != m || !r.Done() {
			t.Fatalf("not read as put: %d, %v, %v, %d", n, text, h, m)
		}
		for i := range b { // what is cut anywhere is not done
			r := Read(b[:i])
			r.Num()
			r.Text()
			r.Hash()
			if r.Num(); r.Done() {
				t.Fatalf("%d of %d bytes are read as all", i, len(b))
			}
		}
	}
}

// Oc3: what is read was written just so.
func TestReadIsAsWritten(t *testing.T) {
	hold := func(b []byte) {
		r := Read(b)
		if n := r.Num(); !r.Wrong() && !bytes.Equal(Num(nil, n), b[:len(b)-r.Left()]) {
			t.Errorf("number of %v", b)
		}
		r = Read(b)
		if s := r.Text(); !r.Wrong() && !bytes.Equal(Text(nil, s), b[:len(b)-r.Left()]) {
			t.Errorf("text of %v", b)
		}
		r = Read(b)
		if h := r.Hash(); !r.Wrong() && !bytes.Equal(Hash(nil, h), b[:len(b)-r.Left()]) {
			t.Errorf("hash of %v", b)
		}
	}
	for i := range 1 << 16 {
		hold([]byte{byte(i >> 8)})
		hold([]byte{byte(i >> 8), byte(i)})
	}
	rnd := rand.New(rand.NewSource(2))
	edge := []byte{0, 1, 2, 3, 4, 127, 128, 129, 255}
	for range 50000 {
		b := make([]byte, rnd.Intn(40))
		for i := range b {
			b[i] = edge[rnd.Intn(len(edge))]
			if rnd.Intn(2) == 0 {
				b[i] |= 128
			}
		}
		hold(b)
	}
}
