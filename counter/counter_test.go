package counter

import (
	"math"
	"math/rand"
	"slices"
	"sync"
	"testing"

	"tithing/api"
)

// most is how far a counter goes, by the chapter.
const most = 1 << 40

// mustNew is a counter at a number.
func mustNew(t *testing.T, at int) *Counter {
	t.Helper()
	c, e := New(at)
	if e != api.OK || c == nil {
		t.Fatalf("New(%d): %v, error %d", at, c, e)
	}
	return c
}

// mustBe fails, unless a counter is at a number, and stays there when it is looked at.
func mustBe(t *testing.T, what string, c *Counter, at int) {
	t.Helper()
	for range 3 {
		if got := c.At(); got != at {
			t.Errorf("%s: at %d, want %d", what, got, at)
		}
	}
}

// mustUp fails, unless a counter goes up to a number.
func mustUp(t *testing.T, what string, c *Counter, to int) {
	t.Helper()
	if n, e := c.Up(); n != to || e != api.OK {
		t.Errorf("%s: up to %d, error %d, want %d", what, n, e, to)
	}
	mustBe(t, what, c, to)
}

// mustStay fails, unless a counter goes up no more, for that error, and stays at a number.
func mustStay(t *testing.T, what string, c *Counter, at int, want api.Errno) {
	t.Helper()
	for range 5 {
		if n, e := c.Up(); n != 0 || e != want {
			t.Errorf("%s: up to %d, error %d, want error %d", what, n, e, want)
		}
		mustBe(t, what, c, at)
	}
}

// starts are numbers that a counter can be at, and from which it can go up a hundred times.
func starts() []int {
	return []int{0, 1, 2, 99, 127, 128, 255, 256, 65535, 65536, math.MaxInt32 - 1, math.MaxInt32, math.MaxInt32 + 1, math.MaxUint32, math.MaxUint32 + 1, 1 << 39, most - 101, most - 100}
}

// others are those that New did not give, and clones of them.
func others() map[string]*Counter {
	var none *Counter
	return map[string]*Counter{
		"nil": none, "zero": {}, "new": new(Counter),
		"clone of nil": none.Clone(), "clone of zero": new(Counter).Clone(), "clone of a clone": none.Clone().Clone(),
	}
}

// The chapter's example.
func TestExample(t *testing.T) {
	mustUp(t, "New(0)", mustNew(t, 0), 1)
}

// Co1: there is a counter at each number from 0 to MaxCount.
func TestNew(t *testing.T) {
	for _, at := range append(starts(), most-2, most-1, most) {
		mustBe(t, "New", mustNew(t, at), at)
	}
	rnd := rand.New(rand.NewSource(1))
	for range 1000 {
		at := rnd.Intn(most + 1)
		mustBe(t, "New", mustNew(t, at), at)
	}
	if api.MaxCount != most {
		t.Errorf("MaxCount: %d", api.MaxCount)
	}
}

// Co1: there is none below, and none beyond; nothing is answered beside the error.
func TestNoNew(t *testing.T) {
	for _, at := range []int{-1, -2, -100, math.MinInt32, -most, math.MinInt + 1, math.MinInt, most + 1, most + 2, 1 << 41, 1 << 62, math.MaxInt - 1, math.MaxInt} {
		if c, e := New(at); c != nil || e != api.ErrArg {
			t.Errorf("New(%d): %v, error %d", at, c, e)
		}
	}
}

// Co1: it goes up by one each time, and tells the number that it is at then.
func TestUp(t *testing.T) {
	for _, at := range starts() {
		c := mustNew(t, at)
		for i := range 100 {
			mustUp(t, "Up", c, at+i+1)
		}
	}
	c := mustNew(t, 0)
	for i := range 100000 {
		if n, e := c.Up(); n != i+1 || e != api.OK {
			t.Fatalf("up to %d, error %d, want %d", n, e, i+1)
		}
	}
	mustBe(t, "Up, many times", c, 100000)
}

// Co1: at MaxCount it is spent, and stays there; it gets there first.
func TestSpent(t *testing.T) {
	mustStay(t, "New(MaxCount)", mustNew(t, most), most, api.ErrSpent)
	for ahead := 1; ahead <= 10; ahead++ {
		c := mustNew(t, most-ahead)
		for i := range ahead {
			mustUp(t, "to the end", c, most-ahead+i+1)
		}
		mustStay(t, "at the end", c, most, api.ErrSpent)
	}
	c := mustNew(t, most)
	for range 10000 {
		c.Up()
	}
	mustStay(t, "long at the end", c, most, api.ErrSpent)
}

// Co1: a clone is where the counter is, and neither counts for the other one.
func TestClone(t *testing.T) {
	for _, at := range starts() {
		c := mustNew(t, at)
		first := c.Clone()
		mustBe(t, "a clone", first, at)
		mustUp(t, "the counter", c, at+1)
		mustUp(t, "the counter", c, at+2)
		mustBe(t, "a clone of which the counter went up", first, at)
		second := c.Clone()
		mustUp(t, "a clone", first, at+1)
		mustBe(t, "a counter of which a clone went up", c, at+2)
		mustUp(t, "a later clone", second, at+3)
		third := second.Clone()
		mustUp(t, "a clone's clone", third, at+4)
		mustBe(t, "the counter", c, at+2)
		mustBe(t, "a clone", first, at+1)
		mustBe(t, "a later clone", second, at+3)
	}
}

// Co1: a clone of a spent one is spent; one that was made ahead of the end is not.
func TestCloneAtTheEnd(t *testing.T) {
	c := mustNew(t, most-1)
	ahead := c.Clone()
	mustUp(t, "to the end", c, most)
	mustStay(t, "a clone at the end", c.Clone(), most, api.ErrSpent)
	mustStay(t, "the counter", c, most, api.ErrSpent)
	mustStay(t, "a clone behind ErrSpent", c.Clone(), most, api.ErrSpent)
	mustStay(t, "a clone's clone", c.Clone().Clone(), most, api.ErrSpent)
	mustBe(t, "a clone from ahead of the end", ahead, most-1)
	mustUp(t, "a clone from ahead of the end", ahead, most)
	mustStay(t, "a clone from ahead of the end", ahead, most, api.ErrSpent)
}

// Co1, R1: one that New did not give is at 0 and never goes up, and so is its clone.
func TestNotGiven(t *testing.T) {
	for name, c := range others() {
		mustBe(t, name, c, 0)
		mustStay(t, name, c, 0, api.ErrState)
		mustStay(t, name+", cloned", c.Clone(), 0, api.ErrState)
		mustStay(t, name+", behind a clone", c, 0, api.ErrState)
	}
	none, e := New(-1)
	mustStay(t, "what is answered beside ErrArg", none, 0, api.ErrState)
	if e != api.ErrArg {
		t.Errorf("New(-1): error %d", e)
	}
}

// Co1, R1: one that New gave at 0 is none of those.
func TestGivenAtNought(t *testing.T) {
	mustUp(t, "at 0", mustNew(t, 0), 1)
	mustUp(t, "a clone at 0", mustNew(t, 0).Clone(), 1)
	mustUp(t, "a clone's clone at 0", mustNew(t, 0).Clone().Clone(), 1)
}

// Co2: whatever is called in whatever order, none goes down, and no number comes twice.
func TestNeverDown(t *testing.T) {
	rnd := rand.New(rand.NewSource(2))
	for _, from := range []int{0, 1000, most - 100} {
		counters, want := []*Counter{mustNew(t, from)}, []int{from}
		for range 5000 {
			i := rnd.Intn(len(counters))
			switch rnd.Intn(20) {
			case 0:
				counters, want = append(counters, counters[i].Clone()), append(want, want[i])
			case 1, 2, 3:
				New(rnd.Intn(most + 1))
			case 4, 5, 6:
				New(-1 - rnd.Intn(most))
			default:
				n, e := counters[i].Up()
				if want[i] == most && (n != 0 || e != api.ErrSpent) || want[i] < most && (n != want[i]+1 || e != api.OK) {
					t.Fatalf("up to %d, error %d, behind %d", n, e, want[i])
				}
				want[i] = min(want[i]+1, most)
			}
			for k, c := range counters {
				if c.At() != want[k] {
					t.Fatalf("at %d, want %d", c.At(), want[k])
				}
			}
		}
	}
}

// upBy lets so many workers at once call a counter's Up so often each, and is what each was told, and how often it was spent.
func upBy(c *Counter, workers, often int) (told [][]int, spent int) {
	told = make([][]int, workers)
	spents := make([]int, workers)
	start := make(chan int)
	var all sync.WaitGroup
	for w := range workers {
		all.Add(1)
		go func() {
			defer all.Done()
			<-start
			for range often {
				n, e := c.Up()
				switch {
				case e == api.OK:
					told[w] = append(told[w], n)
				case e == api.ErrSpent && n == 0:
					spents[w]++
				}
			}
		}()
	}
	close(start)
	all.Wait()
	for _, s := range spents {
		spent += s
	}
	return told, spent
}

// mustBeAll fails, unless what workers were told are the numbers from one to another one, each once, and rising for each worker.
func mustBeAll(t *testing.T, what string, told [][]int, from, to int) {
	t.Helper()
	var all []int
	for _, l := range told {
		if !slices.IsSorted(l) {
			t.Errorf("%s: a worker's numbers went down", what)
		}
		all = append(all, l...)
	}
	slices.Sort(all)
	if len(all) != to-from+1 {
		t.Fatalf("%s: %d numbers, want %d", what, len(all), to-from+1)
	}
	for i, n := range all {
		if n != from+i {
			t.Fatalf("%s: %d, want %d", what, n, from+i)
		}
	}
}

// Co2, R4: also of several goroutines at once none is told a number twice, and none is left out.
func TestUpAtOnce(t *testing.T) {
	for _, at := range []int{0, 12345, most - 40000} {
		c := mustNew(t, at)
		told, spent := upBy(c, 8, 5000)
		mustBeAll(t, "at once", told, at+1, at+40000)
		if spent != 0 {
			t.Errorf("from %d: spent %d times", at, spent)
		}
		mustBe(t, "behind all", c, at+40000)
	}
}

// Co1, Co2: likewise at the end: as many go up as there are numbers, and all others are told that it is spent.
func TestSpentAtOnce(t *testing.T) {
	for _, ahead := range []int{0, 1, 7, 8, 9, 1000, 39999} {
		c := mustNew(t, most-ahead)
		told, spent := upBy(c, 8, 5000)
		mustBeAll(t, "at the end", told, most-ahead+1, most)
		if spent != 40000-ahead {
			t.Errorf("%d ahead of the end: spent %d times", ahead, spent)
		}
		mustStay(t, "at the end", c, most, api.ErrSpent)
		mustStay(t, "a clone at the end", c.Clone(), most, api.ErrSpent)
	}
}

// Co2: who looks on while others let it go up sees no number that is less than one ahead, nor one beyond the end.
func TestLookedAtAtOnce(t *testing.T) {
	c := mustNew(t, most-20000)
	var all sync.WaitGroup
	for range 4 {
		all.Add(1)
		go func() {
			defer all.Done()
			for last := 0; last < most; {
				at, clone := c.At(), c.Clone().At()
				if at < last || clone < at || clone > most {
					t.Errorf("at %d, its clone at %d, behind %d", at, clone, last)
					return
				}
				last = clone
				c.Up()
			}
		}()
	}
	all.Wait()
	mustStay(t, "looked at", c, most, api.ErrSpent)
}

// R4: counters that New gives hang neither on each other nor on the calls ahead.
func TestNothingIsShared(t *testing.T) {
	for _, at := range []int{0, 5, most - 1} {
		a, b := mustNew(t, at), mustNew(t, at)
		mustUp(t, "one", a, at+1)
		mustBe(t, "another one", b, at)
		mustUp(t, "another one", b, at+1)
		mustBe(t, "a later one", mustNew(t, at), at)
		mustBe(t, "the first one", a, at+1)
	}
}
