package purse

import (
	"fmt"
	"math"
	"math/big"
	"testing"

	"coldframe/api"
)

// top is as far as numbers go.
const top = math.MaxUint64

// dice makes numbers that look as if they were random; the seed tells which.
type dice uint64

// word returns any number.
func (d *dice) word() uint64 {
	return uint64(d.below(1<<30))<<34 ^ uint64(d.below(1<<30))<<17 ^ uint64(d.below(1<<30))
}

// below returns a number from 0 to n - 1.
func (d *dice) below(n int) int {
	*d = *d*6364136223846793005 + 1442695040888963407
	return int(*d>>33) % n
}

// size returns a number of any length, from 0 up to as far as numbers go.
func (d *dice) size() uint64 {
	return d.word() >> d.below(65)
}

// edges are numbers at which something may go another way.
var edges = []uint64{0, 1, 2, 3, 4, 5, 6, 7, 10, 15, 16, 17, 255, 256, 257, 1000, 65535, 65536, 1<<31 - 1, 1 << 31, 1<<32 - 1, 1 << 32, 1<<32 + 1, 1 << 53, 1<<53 + 1, 1<<59 - 1, 1 << 59,
	Most - 2, Most - 1, Most, Most + 1, Most + 2, 1<<61 - 1, 1 << 61, 1<<62 - 1, 1 << 62, 1<<63 - 1, 1 << 63, 1<<63 + 1, top - Most, top - Most + 1, top/3 - 1, top / 3, top/3 + 1, top - 2, top - 1, top}

// rates are edges that a rate, or a burst, may be.
var rates = []uint64{0, 1, 2, 3, 5, 7, 16, 1000, 1<<32 - 1, 1 << 32, 1<<32 + 1, 1<<53 + 1, 1 << 59, 1<<60 - 1, 1 << 60}

// with makes a purse.
func with(t *testing.T, rate, burst uint64) *Purse {
	t.Helper()
	p, e := New(rate, burst)
	if e != api.OK || p == nil {
		t.Fatalf("New(%d, %d): %p, error %d", rate, burst, p, e)
	}
	return p
}

// at makes a purse with that level, of which that much was spent: burst less the level, or more, if it has a rate.
func at(t *testing.T, rate, burst, level, spent uint64) *Purse {
	t.Helper()
	p := with(t, rate, burst)
	what := fmt.Sprintf("a purse of %d, %d with %d, and %d spent", rate, burst, level, spent)
	for rest := spent - (burst - level); rest > 0; {
		n := min(rest, burst)
		did(t, what, p.Spend(n), true)
		p.Tick(top)
		rest -= n
	}
	did(t, what, p.Spend(burst-level), true)
	has(t, what, p, level, spent)
	return p
}

// refused checks that New makes no purse of these.
func refused(t *testing.T, rate, burst uint64) {
	t.Helper()
	if p, e := New(rate, burst); p != nil || e != 1 {
		t.Errorf("New(%d, %d): %v, error %d; want nil, 1", rate, burst, p, e)
	}
}

// did checks what a call reported.
func did(t *testing.T, what string, got, want bool) {
	t.Helper()
	if got != want {
		t.Errorf("%s: %t, want %t", what, got, want)
	}
}

// has checks the level, and what was spent.
func has(t *testing.T, what string, p *Purse, level, spent uint64) {
	t.Helper()
	for range 2 {
		if got := p.Level(); got != level {
			t.Errorf("%s: Level is %d, want %d", what, got, level)
		}
		if got := p.Spent(); got != spent {
			t.Errorf("%s: Spent is %d, want %d", what, got, spent)
		}
	}
}

// bounds checks one answer of Bound.
func bounds(t *testing.T, what string, p *Purse, ticks, want uint64) {
	t.Helper()
	for range 2 {
		if got := p.Bound(ticks); got != want {
			t.Errorf("%s: Bound(%d) is %d, want %d", what, ticks, got, want)
		}
	}
}

// waits checks one answer of Wait.
func waits(t *testing.T, what string, p *Purse, n, ticks uint64) {
	t.Helper()
	for range 2 {
		if got, ok := p.Wait(n); got != ticks || !ok {
			t.Errorf("%s: Wait(%d) is %d, %t; want %d, true", what, n, got, ok, ticks)
		}
	}
}

// never checks that Wait tells that the level is never so much.
func never(t *testing.T, what string, p *Purse, n uint64) {
	t.Helper()
	for range 2 {
		if got, ok := p.Wait(n); got != 0 || ok {
			t.Errorf("%s: Wait(%d) is %d, %t; want 0, false", what, n, got, ok)
		}
	}
}

// model is a purse, the slow way, of numbers that don't go round.
type model struct {
	rate, burst, level, spent *big.Int
}

// number makes a number that doesn't go round.
func number(n uint64) *big.Int {
	return new(big.Int).SetUint64(n)
}

// far returns a number as far as numbers go.
func far(n *big.Int) uint64 {
	if n.Cmp(number(top)) > 0 {
		return top
	}
	return n.Uint64()
}

func newModel(rate, burst uint64) *model {
	return &model{rate: number(rate), burst: number(burst), level: number(burst), spent: number(0)}
}

// behind returns the level behind so many ticks.
func (m *model) behind(ticks uint64) *big.Int {
	level := new(big.Int).Mul(m.rate, number(ticks))
	level.Add(level, m.level)
	if level.Cmp(m.burst) > 0 {
		return m.burst
	}
	return level
}

func (m *model) tick(n uint64) {
	m.level = m.behind(n)
}

func (m *model) spend(n uint64) bool {
	if number(n).Cmp(m.level) > 0 {
		return false
	}
	m.level = new(big.Int).Sub(m.level, number(n))
	m.spent = number(far(new(big.Int).Add(m.spent, number(n))))
	return true
}

func (m *model) back(n uint64) {
	least := number(n)
	for _, other := range []*big.Int{m.spent, new(big.Int).Sub(m.burst, m.level)} {
		if other.Cmp(least) < 0 {
			least = other
		}
	}
	m.level = new(big.Int).Add(m.level, least)
	m.spent = new(big.Int).Sub(m.spent, least)
}

func (m *model) bound(ticks uint64) uint64 {
	n := new(big.Int).Mul(m.rate, number(ticks))
	return far(n.Add(n, m.burst))
}

// wait halves, again and again, the ticks among which the least number that is enough must be.
func (m *model) wait(n uint64) (uint64, bool) {
	enough := func(ticks uint64) bool { return m.behind(ticks).Cmp(number(n)) >= 0 }
	if !enough(top) {
		return 0, false
	}
	low, high := uint64(0), uint64(top)
	for low < high {
		middle := low + (high-low)/2
		if enough(middle) {
			high = middle
		} else {
			low = middle + 1
		}
	}
	return low, true
}

// same checks that a purse tells what its model tells, of these numbers too.
func (m *model) same(t *testing.T, what string, p *Purse, numbers ...uint64) {
	t.Helper()
	has(t, what, p, m.level.Uint64(), m.spent.Uint64())
	for _, n := range numbers {
		bounds(t, what, p, n, m.bound(n))
		if ticks, ok := m.wait(n); ok {
			waits(t, what, p, n, ticks)
		} else {
			never(t, what, p, n)
		}
	}
	has(t, what+", behind Bound and Wait", p, m.level.Uint64(), m.spent.Uint64())
}

// P18.1

func TestMost(t *testing.T) {
	if Most != 1152921504606846976 {
		t.Errorf("Most is %d", uint64(Most))
	}
}

func TestNew(t *testing.T) {
	for _, rate := range rates {
		for _, burst := range rates {
			what := fmt.Sprintf("New(%d, %d)", rate, burst)
			p := with(t, rate, burst)
			has(t, what, p, burst, 0)
			newModel(rate, burst).same(t, what, p, edges...)
		}
	}
}

func TestNewOfTooMuch(t *testing.T) {
	above := []uint64{Most + 1, Most + 2, 1<<60 + 1<<32, 1<<61 - 1, 1 << 61, 1<<61 + 1, 1 << 62, 1<<63 - 1, 1 << 63, 1<<63 + 1, top - Most, top - 1, top}
	for _, n := range above {
		for _, right := range rates {
			refused(t, n, right)
			refused(t, right, n)
		}
		for _, other := range above {
			refused(t, n, other)
		}
	}
	has(t, "the greatest", with(t, 1<<60, 1<<60), 1<<60, 0)
}

func TestNewOfAnyNumbers(t *testing.T) {
	d := dice(18)
	for range 2000 {
		rate, burst := d.size(), d.size()
		if rate > 1<<60 || burst > 1<<60 {
			refused(t, rate, burst)
			continue
		}
		what := fmt.Sprintf("New(%d, %d)", rate, burst)
		p := with(t, rate, burst)
		newModel(rate, burst).same(t, what, p, d.size(), d.size())
	}
}

func TestBound(t *testing.T) {
	for _, c := range []struct{ rate, burst, ticks, want uint64 }{
		{3, 10, 0, 10}, {3, 10, 1, 13}, {3, 10, 2, 16}, {3, 10, 5, 25}, {3, 10, 1000, 3010},
		{0, 0, 0, 0}, {0, 0, 1, 0}, {0, 0, 1 << 63, 0}, {0, 0, top, 0},
		{0, 7, 0, 7}, {0, 7, 1, 7}, {0, 7, top, 7}, {0, Most, top, Most},
		{7, 0, 0, 0}, {7, 0, 1, 7}, {7, 0, 100, 700},
		{1, 0, 1 << 32, 1 << 32}, {1 << 31, 1, 1 << 32, 1<<63 + 1}, {1 << 31, 1 << 31, 1<<32 - 1, 1 << 63},

		// The product alone.
		{1, 0, top - 1, top - 1}, {1, 0, top, top},
		{3, 0, top/3 - 1, top - 3}, {3, 0, top / 3, top}, {3, 0, top/3 + 1, top},
		{2, 0, 1<<63 - 1, top - 1}, {2, 0, 1 << 63, top}, {2, 0, 1<<63 + 1, top},
		{65537, 0, top / 65537, top}, {65537, 0, top/65537 + 1, top},
		{1<<32 + 1, 0, 1<<32 - 1, top}, {1<<32 + 1, 0, 1 << 32, top}, {1<<32 - 1, 0, 1<<32 + 1, top}, {1 << 32, 0, 1 << 32, top}, {1<<32 - 1, 0, 1 << 32, top - 1<<32 + 1},
		{Most, 0, 15, 15 << 60}, {Most, 0, 16, top}, {Most, 0, 17, top}, {Most, 0, 32, top}, {Most, 0, 1 << 63, top}, {Most, 0, top, top},
		{Most - 1, 0, 16, top - 15}, {Most - 1, 0, 17, top},

		// The sum.
		{1, 1, top - 2, top - 1}, {1, 1, top - 1, top}, {1, 1, top, top},
		{1, Most, top - Most - 1, top - 1}, {1, Most, top - Most, top}, {1, Most, top - Most + 1, top}, {1, Most, top, top},
		{3, 3, top/3 - 1, top}, {3, 2, top/3 - 1, top - 1}, {3, 4, top/3 - 1, top}, {3, 1, top / 3, top}, {3, Most, top / 3, top},
		{2, 1, 1<<63 - 1, top}, {2, 2, 1<<63 - 1, top}, {2, Most, 1<<63 - 1, top},
		{Most, Most - 2, 15, top - 1}, {Most, Most - 1, 15, top}, {Most, Most, 15, top}, {Most, Most, 14, 15 << 60}, {Most, Most, 16, top},

		// Both.
		{Most, Most, top, top}, {2, Most, 1 << 63, top}, {17, 5, top/17 + 1, top}, {1<<32 + 1, 1, 1 << 32, top},
	} {
		what := fmt.Sprintf("a purse of %d, %d", c.rate, c.burst)
		p := with(t, c.rate, c.burst)
		bounds(t, what, p, c.ticks, c.want)
		has(t, what, p, c.burst, 0)
		newModel(c.rate, c.burst).same(t, what, p, c.ticks)
	}
}

// Bound tells the same whatever was spent, and whatever level there is.
func TestBoundOfAPurseInUse(t *testing.T) {
	p := with(t, 3, 10)
	asked := func(what string, level, spent uint64) {
		t.Helper()
		has(t, what, p, level, spent)
		for ticks := range uint64(20) {
			bounds(t, what, p, ticks, 10+3*ticks)
		}
		bounds(t, what, p, top, top)
		has(t, what, p, level, spent)
	}
	asked("new", 10, 0)
	did(t, "Spend", p.Spend(9), true)
	asked("9 spent", 1, 9)
	did(t, "Spend", p.Spend(9), false)
	asked("9 refused", 1, 9)
	p.Tick(2)
	asked("two ticks later", 7, 9)
	p.Back(1)
	asked("1 back", 8, 8)
	did(t, "Spend", p.Spend(8), true)
	asked("nothing left", 0, 16)
}

// P18.2

func TestTick(t *testing.T) {
	for _, c := range []struct{ rate, burst, level, n, want uint64 }{
		{3, 10, 0, 0, 0}, {3, 10, 0, 1, 3}, {3, 10, 0, 2, 6}, {3, 10, 0, 3, 9}, {3, 10, 0, 4, 10}, {3, 10, 0, 5, 10}, {3, 10, 0, 1000, 10}, {3, 10, 0, top, 10},
		{3, 10, 1, 2, 7}, {3, 10, 1, 3, 10}, {3, 10, 1, 4, 10}, {3, 10, 2, 3, 10}, {3, 10, 5, 0, 5}, {3, 10, 5, 1, 8}, {3, 10, 7, 1, 10}, {3, 10, 8, 1, 10}, {3, 10, 9, 0, 9}, {3, 10, 9, 1, 10},
		{3, 10, 10, 0, 10}, {3, 10, 10, 1, 10}, {3, 10, 10, 100, 10}, {3, 10, 10, top, 10},
		{0, 10, 0, 1, 0}, {0, 10, 0, top, 0}, {0, 10, 4, 0, 4}, {0, 10, 4, 1, 4}, {0, 10, 4, top, 4}, {0, 10, 10, top, 10},
		{3, 0, 0, 0, 0}, {3, 0, 0, 1, 0}, {3, 0, 0, top, 0}, {0, 0, 0, 1, 0}, {0, 0, 0, top, 0}, {Most, 0, 0, top, 0},
		{20, 10, 0, 0, 0}, {20, 10, 0, 1, 10}, {20, 10, 9, 1, 10}, {10, 10, 0, 1, 10}, {9, 10, 0, 1, 9}, {11, 10, 0, 1, 10},
		{1, Most, 0, Most - 1, Most - 1}, {1, Most, 0, Most, Most}, {1, Most, 0, Most + 1, Most}, {1, Most, 1, Most - 2, Most - 1}, {1, Most, 1, Most - 1, Most}, {1, Most, 1, Most, Most},
		{Most, Most, 0, 1, Most}, {Most, Most, 1, 1, Most}, {Most - 1, Most, 0, 1, Most - 1}, {Most - 1, Most, 1, 1, Most}, {Most - 1, Most, 0, 2, Most},
		{1 << 32, Most, 0, 1<<28 - 1, Most - 1<<32}, {1 << 32, Most, 0, 1 << 28, Most}, {1 << 32, Most, 5, 1<<28 - 1, Most - 1<<32 + 5},

		// Rate times n is more than numbers go: 0, or little, if it went round.
		{2, 10, 3, 1 << 63, 10}, {2, 10, 3, 1<<63 + 1, 10}, {3, 10, 3, top/3 + 1, 10}, {16, 10, 3, Most, 10}, {Most, 10, 3, 16, 10}, {Most, 10, 3, 32, 10}, {Most, Most, 3, 16, Most}, {Most, Most, 0, 1 << 63, Most}, {Most, Most, 0, top, Most},
		{1 << 32, 10, 3, 1 << 32, 10}, {1 << 32, Most, 3, 1 << 32, Most}, {1<<32 + 1, Most, 3, 1 << 32, Most}, {4, Most, 0, 1 << 62, Most}, {5, Most, 0, top/5 + 1, Most},

		// Rate times n is a number, and the sum with the level is not: little, if it went round.
		{1, 10, 3, top - 3, 10}, {1, 10, 3, top - 2, 10}, {1, 10, 3, top - 1, 10}, {1, 10, 3, top, 10}, {3, 10, 1, top / 3, 10}, {3, 10, 9, top / 3, 10}, {2, 10, 2, 1<<63 - 1, 10}, {2, 10, 9, 1<<63 - 1, 10},
		{1, Most, Most - 1, top, Most}, {1, Most, 1, top, Most}, {1, Most, 2, top, Most}, {1, Most, Most - 1, top - Most + 1, Most}, {1, Most, Most - 1, top - Most + 2, Most}, {1, Most, Most - 1, top - Most + 3, Most},
		{Most, Most, Most - 1, 15, Most}, {Most - 1, Most, Most - 1, 16, Most}, {Most - 1, Most, 16, 16, Most}, {Most - 1, Most, 15, 16, Most}, {Most - 1, Most, 17, 16, Most},
	} {
		what := fmt.Sprintf("Tick(%d) of %d, %d, with %d", c.n, c.rate, c.burst, c.level)
		p := at(t, c.rate, c.burst, c.level, c.burst-c.level)
		p.Tick(c.n)
		has(t, what, p, c.want, c.burst-c.level)
	}
}

// So many ticks at once, or one by one, come to the same.
func TestTicksOneByOne(t *testing.T) {
	for _, rate := range []uint64{0, 1, 2, 3, 5, 9, 10, 11, 20, Most} {
		for level := range uint64(11) {
			p := at(t, rate, 10, level, 10-level)
			for n := range uint64(15) {
				what := fmt.Sprintf("%d ticks of %d, 10, with %d", n, rate, level)
				want := min(10, level+rate*n)
				has(t, what, p, want, 10-level)
				q := at(t, rate, 10, level, 10-level)
				q.Tick(n)
				has(t, what+", at once", q, want, 10-level)
				p.Tick(1)
			}
		}
	}
}

// Ticks in two parts come to the same as all of them at once.
func TestTicksInTwoParts(t *testing.T) {
	d := dice(2)
	for range 2000 {
		rate, burst := d.size()>>4, d.size()>>4
		level := d.size() % (burst + 1)
		first, second := d.size()/2, d.size()/2
		what := fmt.Sprintf("%d ticks, and %d, of %d, %d, with %d", first, second, rate, burst, level)
		p, q := at(t, rate, burst, level, burst-level), at(t, rate, burst, level, burst-level)
		p.Tick(first)
		p.Tick(second)
		q.Tick(first + second)
		has(t, what, p, q.Level(), burst-level)
	}
}

func TestTickLeavesWhatWasSpent(t *testing.T) {
	p := with(t, 4, 9)
	did(t, "Spend", p.Spend(9), true)
	for i, level := range []uint64{0, 4, 8, 9, 9, 9} {
		has(t, fmt.Sprintf("%d ticks", i), p, level, 9)
		p.Tick(1)
	}
	did(t, "Spend", p.Spend(5), true)
	p.Tick(top)
	has(t, "more spent", p, 9, 14)
}

func TestSpend(t *testing.T) {
	for _, burst := range rates {
		for _, level := range []uint64{0, 1, 2, 3, burst / 2, burst - 3, burst - 2, burst - 1, burst} {
			if level > burst {
				continue
			}
			for _, n := range append([]uint64{level - 2, level - 1, level, level + 1, level + 2, burst - 1, burst, burst + 1, 2*burst + 1}, edges...) {
				what := fmt.Sprintf("Spend(%d) of a burst of %d, with %d", n, burst, level)
				p := at(t, 1, burst, level, burst-level)
				if n <= level {
					did(t, what, p.Spend(n), true)
					has(t, what, p, level-n, burst-level+n)
				} else {
					did(t, what, p.Spend(n), false)
					has(t, what, p, level, burst-level)
				}
			}
		}
	}
}

func TestSpendOfNothing(t *testing.T) {
	for _, p := range []*Purse{with(t, 0, 0), with(t, 0, 5), with(t, 5, 0), with(t, 3, 10), with(t, Most, Most)} {
		level := p.Level()
		for range 3 {
			did(t, "Spend(0)", p.Spend(0), true)
			has(t, "Spend(0)", p, level, 0)
		}
		did(t, "Spend of all", p.Spend(level), true)
		for range 3 {
			did(t, "Spend(0) of nothing", p.Spend(0), true)
			has(t, "Spend(0) of nothing", p, 0, level)
		}
	}
}

func TestSpendBitByBit(t *testing.T) {
	p := with(t, 3, 10)
	for n := range uint64(10) {
		has(t, "ones", p, 10-n, n)
		did(t, "one more than there is", p.Spend(11-n), false)
		did(t, "the greatest", p.Spend(top), false)
		did(t, "one that goes round", p.Spend(top-n), false)
		has(t, "refused", p, 10-n, n)
		did(t, "one", p.Spend(1), true)
	}
	has(t, "all", p, 0, 10)
	did(t, "one more", p.Spend(1), false)
	p.Tick(2)
	has(t, "two ticks later", p, 6, 10)
	did(t, "as before", p.Spend(7), false)
	did(t, "all", p.Spend(6), true)
	has(t, "all again", p, 0, 16)
}

// What was spent stays as far as numbers go when it would be more.
func TestSpentAsFarAsNumbersGo(t *testing.T) {
	p := with(t, Most, Most)
	for i := range uint64(15) {
		has(t, fmt.Sprintf("%d times", i), p, Most, i*Most)
		did(t, "Spend", p.Spend(Most), true)
		has(t, fmt.Sprintf("%d times", i+1), p, 0, (i+1)*Most)
		p.Tick(1)
	}
	for _, c := range []struct{ n, want uint64 }{
		{0, 15 << 60}, {1, 15<<60 + 1}, {Most - 2, top - 1}, {Most - 1, top}, {Most, top},
	} {
		what := fmt.Sprintf("%d behind 15 times all", c.n)
		q := at(t, Most, Most, Most, 15<<60)
		did(t, what, q.Spend(c.n), true)
		has(t, what, q, Most-c.n, c.want)
		for range 3 {
			q.Tick(1)
			did(t, what, q.Spend(0), true)
			has(t, what+", and 0", q, Most, c.want)
		}
		did(t, what, q.Spend(Most), true)
		has(t, what+", and all", q, 0, top)
		did(t, what, q.Spend(1), false)
		has(t, what+", and 1 that is refused", q, 0, top)
	}
	did(t, "Spend", p.Spend(Most-1), true)
	has(t, "just as far", p, 1, top)
	did(t, "Spend", p.Spend(1), true)
	has(t, "one more", p, 0, top)
	for range 40 {
		p.Tick(1)
		did(t, "Spend", p.Spend(Most), true)
		has(t, "many more", p, 0, top)
	}
	p.Back(7)
	has(t, "7 back", p, 7, top-7)
	did(t, "Spend", p.Spend(6), true)
	has(t, "6 of them", p, 1, top-1)
	p.Tick(1)
	did(t, "Spend", p.Spend(5), true)
	has(t, "5 more", p, Most-5, top)
}

func TestBack(t *testing.T) {
	for _, c := range []struct{ level, spent, n, back uint64 }{
		// n is the least.
		{0, 10, 0, 0}, {0, 10, 1, 1}, {0, 10, 9, 9}, {0, 10, 10, 10}, {4, 6, 0, 0}, {4, 6, 5, 5}, {4, 6, 6, 6}, {4, 100, 5, 5}, {9, 100, 1, 1}, {9, 1, 1, 1}, {3, 7, 2, 2},
		// As much is lacking as was spent, and n is more.
		{0, 10, 11, 10}, {0, 10, top, 10}, {4, 6, 7, 6}, {4, 6, 10, 6}, {4, 6, top, 6}, {9, 1, 2, 1}, {9, 1, top, 1}, {10, 0, 1, 0}, {10, 0, 10, 0}, {10, 0, top, 0},
		// Less is lacking than was spent.
		{4, 100, 6, 6}, {4, 100, 7, 6}, {4, 100, 100, 6}, {4, 100, 101, 6}, {4, 100, top, 6}, {9, 10, 2, 1}, {9, 10, 10, 1}, {9, 10, 11, 1}, {9, 10, top, 1},
		// A full purse.
		{10, 10, 0, 0}, {10, 10, 1, 0}, {10, 10, 10, 0}, {10, 10, 11, 0}, {10, 10, top, 0}, {10, 1000, 5, 0}, {10, 0, 0, 0},
	} {
		what := fmt.Sprintf("Back(%d) of %d spent, with %d of 10", c.n, c.spent, c.level)
		p := at(t, 3, 10, c.level, c.spent)
		p.Back(c.n)
		has(t, what, p, c.level+c.back, c.spent-c.back)
	}
}

// What is lacking was spent, so that what was spent is the least of the three only together with it, as long as no tick passed.
func TestBackInParts(t *testing.T) {
	p := with(t, 1, 10)
	did(t, "Spend", p.Spend(10), true)
	p.Back(4)
	has(t, "4 back", p, 4, 6)
	p.Tick(2)
	has(t, "two ticks", p, 6, 6)
	p.Back(3)
	has(t, "3 back", p, 9, 3)
	p.Back(3)
	has(t, "no more than there is room for", p, 10, 2)
	did(t, "Spend", p.Spend(7), true)
	has(t, "7 spent", p, 3, 9)
	p.Back(8)
	has(t, "no more than there is room for", p, 10, 2)
}

// Behind ticks that filled the purse again, nothing comes back; and what is spent then comes back as far as there is room.
func TestBackBehindTicks(t *testing.T) {
	for _, c := range []struct{ spent, ticks, n, level, left uint64 }{
		{10, 0, 10, 10, 0}, {10, 1, 10, 10, 3}, {10, 1, 7, 10, 3}, {10, 1, 6, 9, 4}, {10, 1, 8, 10, 3},
		{10, 2, 10, 10, 6}, {10, 2, 4, 10, 6}, {10, 2, 3, 9, 7}, {10, 3, 10, 10, 9}, {10, 3, 1, 10, 9}, {10, 3, 2, 10, 9},
		{10, 4, 10, 10, 10}, {10, 4, 1, 10, 10}, {10, 4, top, 10, 10}, {10, top, top, 10, 10},
		{5, 0, 5, 10, 0}, {5, 0, 4, 9, 1}, {5, 1, 5, 10, 3}, {5, 1, 2, 10, 3}, {5, 1, 1, 9, 4}, {5, 2, 5, 10, 5}, {5, 2, 1, 10, 5}, {0, 5, 5, 10, 0},
	} {
		what := fmt.Sprintf("%d spent, %d ticks, Back(%d)", c.spent, c.ticks, c.n)
		p := with(t, 3, 10)
		did(t, what, p.Spend(c.spent), true)
		p.Tick(c.ticks)
		p.Back(c.n)
		has(t, what, p, c.level, c.left)
	}
}

// All that was spent may come back again and again, never more.
func TestBackAgainAndAgain(t *testing.T) {
	p := with(t, 0, 10)
	for range 20 {
		did(t, "Spend", p.Spend(8), true)
		has(t, "8 spent", p, 2, 8)
		p.Back(3)
		has(t, "3 back", p, 5, 5)
		p.Back(3)
		has(t, "6 back", p, 8, 2)
		p.Back(3)
		has(t, "all back", p, 10, 0)
		p.Back(3)
		has(t, "no more", p, 10, 0)
	}
}

func TestBackOfGreatNumbers(t *testing.T) {
	for _, spent := range []uint64{Most, Most + 1, 2 * Most, 15 << 60, top - 1, top} {
		for _, n := range edges {
			what := fmt.Sprintf("Back(%d) of %d spent", n, spent)
			p := at(t, Most, Most, 0, spent)
			p.Back(n)
			has(t, what, p, min(n, Most), spent-min(n, Most))
		}
	}
}

func TestWait(t *testing.T) {
	for _, c := range []struct{ rate, burst, level, n, ticks uint64 }{
		{3, 10, 0, 0, 0}, {3, 10, 0, 1, 1}, {3, 10, 0, 2, 1}, {3, 10, 0, 3, 1}, {3, 10, 0, 4, 2}, {3, 10, 0, 6, 2}, {3, 10, 0, 7, 3}, {3, 10, 0, 9, 3}, {3, 10, 0, 10, 4},
		{3, 10, 4, 0, 0}, {3, 10, 4, 3, 0}, {3, 10, 4, 4, 0}, {3, 10, 4, 5, 1}, {3, 10, 4, 7, 1}, {3, 10, 4, 8, 2}, {3, 10, 4, 10, 2},
		{3, 10, 9, 9, 0}, {3, 10, 9, 10, 1}, {3, 10, 10, 0, 0}, {3, 10, 10, 9, 0}, {3, 10, 10, 10, 0},
		{5, 10, 0, 5, 1}, {5, 10, 0, 6, 2}, {5, 10, 0, 10, 2}, {10, 10, 0, 1, 1}, {10, 10, 0, 10, 1}, {11, 10, 0, 10, 1}, {Most, 10, 0, 1, 1}, {Most, 10, 0, 10, 1},
		{0, 10, 4, 0, 0}, {0, 10, 4, 3, 0}, {0, 10, 4, 4, 0}, {0, 10, 10, 10, 0}, {0, 0, 0, 0, 0}, {3, 0, 0, 0, 0}, {Most, 0, 0, 0, 0},
		{1, Most, 0, 1, 1}, {1, Most, 0, Most - 1, Most - 1}, {1, Most, 0, Most, Most}, {1, Most, 1, Most, Most - 1}, {1, Most, Most - 1, Most, 1}, {1, Most, Most, Most, 0},
		{2, Most, 0, Most, Most / 2}, {2, Most, 1, Most, Most / 2}, {2, Most, 2, Most, Most/2 - 1}, {2, Most, 0, Most - 1, Most / 2}, {2, Most, 0, Most - 2, Most/2 - 1},
		{3, Most, 0, Most, Most/3 + 1}, {3, Most, 1, Most, Most / 3}, {3, Most, 2, Most, Most / 3},
		{Most, Most, 0, 0, 0}, {Most, Most, 0, 1, 1}, {Most, Most, 0, Most, 1}, {Most - 1, Most, 0, Most - 1, 1}, {Most - 1, Most, 0, Most, 2}, {Most - 1, Most, 1, Most, 1},
		{1<<53 + 1, Most, 0, 1<<53 + 1, 1}, {1<<53 + 1, Most, 0, 1<<53 + 2, 2}, {1 << 32, Most, 0, Most, 1 << 28}, {1 << 32, Most, 1, Most, 1 << 28},
	} {
		what := fmt.Sprintf("a purse of %d, %d, with %d", c.rate, c.burst, c.level)
		p := at(t, c.rate, c.burst, c.level, c.burst-c.level)
		waits(t, what, p, c.n, c.ticks)
		has(t, what, p, c.level, c.burst-c.level)
		enough(t, what, c.rate, c.burst, c.level, c.n, c.ticks)
	}
}

// enough checks that so many ticks are enough, and one less isn't.
func enough(t *testing.T, what string, rate, burst, level, n, ticks uint64) {
	t.Helper()
	p := at(t, rate, burst, level, burst-level)
	p.Tick(ticks)
	did(t, fmt.Sprintf("%s: Spend(%d) behind %d ticks", what, n, ticks), p.Spend(n), true)
	if ticks == 0 {
		return
	}
	p = at(t, rate, burst, level, burst-level)
	p.Tick(ticks - 1)
	did(t, fmt.Sprintf("%s: Spend(%d) behind one tick less than %d", what, n, ticks), p.Spend(n), false)
	waits(t, what+", one tick ahead", p, n, 1)
	p.Tick(1)
	waits(t, what+", all ticks", p, n, 0)
	did(t, fmt.Sprintf("%s: Spend(%d) behind one tick more", what, n), p.Spend(n), true)
}

// With each tick there is one less to wait for.
func TestWaitTickByTick(t *testing.T) {
	for rate := range uint64(12) {
		for level := range uint64(11) {
			for n := range uint64(13) {
				what := fmt.Sprintf("%d, 10, with %d", rate, level)
				p := at(t, rate, 10, level, 10-level)
				if n > level && (n > 10 || rate == 0) {
					never(t, what, p, n)
					continue
				}
				ticks := uint64(0)
				for level+rate*ticks < n {
					ticks++
				}
				enough(t, what, rate, 10, level, n, ticks)
				for left := ticks; ; left-- {
					waits(t, what, p, n, left)
					if left == 0 {
						break
					}
					p.Tick(1)
				}
			}
		}
	}
}

func TestWaitForever(t *testing.T) {
	for _, rate := range rates {
		for _, burst := range rates {
			p := with(t, rate, burst)
			what := fmt.Sprintf("a purse of %d, %d", rate, burst)
			for _, n := range append([]uint64{burst + 1, burst + 2, burst + rate, burst + rate + 1, 2*burst + 1}, edges...) {
				if n > burst {
					never(t, what, p, n)
				} else {
					waits(t, what, p, n, 0)
				}
			}
			did(t, what, p.Spend(burst), true)
			what += ", with nothing"
			never(t, what, p, burst+1)
			never(t, what, p, top)
			waits(t, what, p, 0, 0)
			if rate == 0 && burst > 0 {
				never(t, what, p, 1)
				never(t, what, p, burst)
			}
			has(t, what, p, 0, burst)
		}
	}
}

func TestWaitBehindAnything(t *testing.T) {
	p := with(t, 4, 20)
	did(t, "Spend", p.Spend(20), true)
	waits(t, "nothing left", p, 20, 5)
	p.Back(1)
	waits(t, "1 back", p, 20, 5)
	p.Back(3)
	waits(t, "4 back", p, 20, 4)
	did(t, "Spend", p.Spend(5), false)
	waits(t, "refused", p, 20, 4)
	p.Tick(2)
	waits(t, "two ticks", p, 20, 2)
	waits(t, "two ticks", p, 12, 0)
	waits(t, "two ticks", p, 13, 1)
	did(t, "Spend", p.Spend(3), true)
	waits(t, "3 spent", p, 20, 3)
	waits(t, "3 spent", p, 12, 1)
	has(t, "in the end", p, 9, 19)
}

func TestAskingChangesNothing(t *testing.T) {
	p := with(t, 3, 10)
	did(t, "Spend", p.Spend(8), true)
	for range 50 {
		waits(t, "again and again", p, 10, 3)
		never(t, "again and again", p, 11)
		bounds(t, "again and again", p, 4, 22)
		bounds(t, "again and again", p, top, top)
		has(t, "again and again", p, 2, 8)
	}
	p.Tick(1)
	has(t, "a tick later", p, 5, 8)
}

// P18.3

// stretches checks each stretch of the ticks: spent[i] is all that was spent behind i ticks, ahead of the next one.
func stretches(t *testing.T, what string, p *Purse, spent []uint64) {
	t.Helper()
	for from := range spent {
		all := number(0)
		for to := from; to < len(spent); to++ {
			all.Add(all, number(spent[to]))
			if bound := p.Bound(uint64(to - from)); all.Cmp(number(bound)) > 0 && bound != top {
				t.Fatalf("%s: %d was spent from tick %d to %d, more than %d", what, all, from, to, bound)
			}
		}
	}
}

func TestNoStretchSpendsMoreThanBound(t *testing.T) {
	d := dice(183)
	for _, rate := range []uint64{0, 1, 2, 3, 7, 10, 11, 100, 1 << 40, Most - 1, Most} {
		for _, burst := range []uint64{0, 1, 2, 10, 50, 1000, 1 << 40, Most} {
			what := fmt.Sprintf("a purse of %d, %d", rate, burst)
			p := with(t, rate, burst)
			spent := make([]uint64, 60)
			for tick := range spent {
				for range d.below(5) {
					for _, n := range []uint64{uint64(d.below(12)), d.size() % (burst + 2), p.Level(), d.size(), rate} {
						if d.below(2) == 0 && p.Spend(n) {
							spent[tick] += n
						}
					}
				}
				p.Tick(1)
			}
			stretches(t, what, p, spent)
		}
	}
}

// The ticks pass in lots of any size.
func TestNoStretchOfManyTicksSpendsMoreThanBound(t *testing.T) {
	d := dice(184)
	for range 200 {
		rate, burst := d.size()>>4, d.size()>>4
		p := with(t, rate, burst)
		lots, spent := make([]uint64, 30), make([]uint64, 30)
		for i := range spent {
			for range 4 {
				for _, n := range []uint64{d.size(), p.Level(), p.Level() / 2, p.Level() + 1} {
					if d.below(3) == 0 && p.Spend(n) {
						spent[i] += n
					}
				}
			}
			lots[i] = d.size() >> (8 + d.below(50))
			p.Tick(lots[i])
		}
		for from := range spent {
			all, ticks := number(0), uint64(0)
			for to := from; to < len(spent); to++ {
				all.Add(all, number(spent[to]))
				if bound := p.Bound(ticks); bound != top && all.Cmp(number(bound)) > 0 {
					t.Fatalf("%d, %d: %d was spent in %d ticks, more than %d", rate, burst, all, ticks, bound)
				}
				ticks += lots[to]
			}
		}
	}
}

// All that Bound says may be spent: the burst, and at each tick the rate, if it isn't above the burst.
func TestAllThatBoundSaysIsSpent(t *testing.T) {
	for _, burst := range []uint64{0, 1, 2, 3, 10, 1000, 1 << 40, Most} {
		for _, rate := range []uint64{0, 1, 2, 3, burst / 3, burst / 2, burst - 1, burst} {
			if rate > burst {
				continue
			}
			what := fmt.Sprintf("a purse of %d, %d", rate, burst)
			p := with(t, rate, burst)
			did(t, what, p.Spend(burst), true)
			for ticks := range uint64(40) {
				has(t, what, p, 0, far(new(big.Int).Add(number(burst), new(big.Int).Mul(number(rate), number(ticks)))))
				if p.Spent() != p.Bound(ticks) {
					t.Errorf("%s: %d was spent in %d ticks, and Bound is %d", what, p.Spent(), ticks, p.Bound(ticks))
				}
				did(t, what+": more", p.Spend(1), false)
				p.Tick(1)
				did(t, what+": more than the rate", p.Spend(rate+1), false)
				did(t, what+": the rate", p.Spend(rate), true)
			}
		}
	}
}

func TestJustAsMuchAsBoundSays(t *testing.T) {
	p := with(t, 3, 10)
	for i, n := range []uint64{10, 3, 3, 3, 3, 3} {
		did(t, "Spend", p.Spend(n), true)
		has(t, "Spend", p, 0, 10+3*uint64(i))
		bounds(t, "Bound", p, uint64(i), 10+3*uint64(i))
		did(t, "1 more", p.Spend(1), false)
		p.Tick(1)
	}
	p = with(t, 3, 10)
	for range 5 {
		p.Tick(1)
	}
	did(t, "ticks of a full purse don't count", p.Spend(11), false)
	did(t, "all", p.Spend(10), true)
	has(t, "all", p, 0, 10)
}

// Rules

func TestNilPurse(t *testing.T) {
	var p *Purse
	for _, n := range edges {
		p.Tick(n)
		p.Back(n)
		has(t, "a nil purse", p, 0, 0)
		did(t, "Spend of a nil purse", p.Spend(n), false)
		bounds(t, "a nil purse", p, n, 0)
		never(t, "a nil purse", p, n)
	}
	has(t, "a nil purse", p, 0, 0)
}

// A purse that New did not make has no rate and no burst.
func TestZeroPurse(t *testing.T) {
	for _, n := range edges {
		var p Purse
		m := newModel(0, 0)
		p.Tick(n)
		p.Back(n)
		m.same(t, "a zero purse", &p, n)
		did(t, "Spend of a zero purse", p.Spend(n), n == 0)
		m.same(t, "a zero purse", &p, edges...)
	}
}

func TestTwoPursesDoNotTouch(t *testing.T) {
	p, q, r := with(t, 3, 10), with(t, 3, 10), with(t, 5, 20)
	did(t, "Spend", p.Spend(7), true)
	has(t, "one", p, 3, 7)
	has(t, "other", q, 10, 0)
	has(t, "third", r, 20, 0)
	did(t, "Spend", r.Spend(20), true)
	q.Tick(3)
	q.Back(5)
	has(t, "one", p, 3, 7)
	has(t, "other", q, 10, 0)
	has(t, "third", r, 0, 20)
	p.Tick(1)
	waits(t, "one", p, 10, 2)
	waits(t, "other", q, 10, 0)
	waits(t, "third", r, 10, 2)
	waits(t, "third", r, 20, 4)
	never(t, "one", p, 11)
	never(t, "other", q, 20)
	never(t, "third", r, 21)
	bounds(t, "one", p, 2, 16)
	bounds(t, "third", r, 2, 30)
	bounds(t, "other", q, 2, 16)
	p.Back(7)
	has(t, "one", p, 10, 3)
	has(t, "other", q, 10, 0)
	has(t, "third", r, 0, 20)
	refused(t, top, top)
	with(t, 1, 1).Tick(1)
	waits(t, "third", r, 20, 4)
	never(t, "third", r, 21)
	with(t, 50, 50).Tick(1)
	waits(t, "third", r, 20, 4)
	never(t, "third", r, 21)
	never(t, "one", p, 11)
	has(t, "one", p, 10, 3)
	has(t, "other", q, 10, 0)
	has(t, "third", r, 0, 20)
}

// act does one call of any kind to a purse and to its model, and checks that they answer the same.
func act(t *testing.T, d *dice, p *Purse, m *model) string {
	t.Helper()
	n := d.size()
	if d.below(2) == 0 {
		n = []uint64{0, 1, p.Level() - 1, p.Level(), p.Level() + 1, p.Spent(), p.Spent() + 1, m.burst.Uint64(), m.burst.Uint64() + 1, m.burst.Uint64() - p.Level(), m.burst.Uint64() - p.Level() + 1, m.rate.Uint64(), top}[d.below(13)]
	}
	switch d.below(4) {
	case 0:
		p.Tick(n)
		m.tick(n)
		return fmt.Sprintf("Tick(%d)", n)
	case 1:
		p.Back(n)
		m.back(n)
		return fmt.Sprintf("Back(%d)", n)
	}
	what := fmt.Sprintf("Spend(%d)", n)
	did(t, what, p.Spend(n), m.spend(n))
	return what
}

func TestAnyCallsInAnyOrder(t *testing.T) {
	d := dice(1800)
	for i := range 400 {
		rate, burst := d.size()>>4, d.size()>>4
		switch i % 4 {
		case 1:
			rate, burst = uint64(d.below(5)), uint64(d.below(30))
		case 2:
			rate, burst = Most-uint64(d.below(3)), Most-uint64(d.below(3))
		case 3:
			rate = burst / uint64(1+d.below(20))
		}
		p, m := with(t, rate, burst), newModel(rate, burst)
		for range 60 {
			what := fmt.Sprintf("New(%d, %d) .. %s", rate, burst, act(t, &d, p, m))
			m.same(t, what, p, d.size(), d.size()>>4, m.level.Uint64(), burst)
			if t.Failed() {
				t.FailNow()
			}
		}
	}
}

// What stands between two calls is nothing here: neither asks anything of the purse, so that nothing asked earlier hides a fault.
func TestAnyCallsUnasked(t *testing.T) {
	d := dice(1801)
	for range 600 {
		rate, burst := d.size()>>4, d.size()>>4
		p, m := with(t, rate, burst), newModel(rate, burst)
		what := fmt.Sprintf("New(%d, %d)", rate, burst)
		for range d.below(12) {
			n := d.size() >> d.below(30)
			switch d.below(3) {
			case 0:
				p.Tick(n)
				m.tick(n)
			case 1:
				p.Back(n)
				m.back(n)
			default:
				did(t, what, p.Spend(n), m.spend(n))
			}
			what += fmt.Sprintf(" .. %d", n)
		}
		m.same(t, what, p, burst, d.size(), m.level.Uint64()+1)
		if t.Failed() {
			t.FailNow()
		}
	}
}

// Each thing is asked just before a call and just behind it, and nothing else between.
func TestAskedBeforeAndBehind(t *testing.T) {
	asks := []func(p *Purse) uint64{
		(*Purse).Level,
		(*Purse).Spent,
		func(p *Purse) uint64 { return p.Bound(5) },
		func(p *Purse) uint64 {
			ticks, ok := p.Wait(10)
			did(t, "Wait(10)", ok, true)
			return ticks
		},
	}
	for _, c := range []struct {
		what string
		call func(p *Purse)
		want []uint64
	}{
		{"Tick(0)", func(p *Purse) { p.Tick(0) }, []uint64{5, 8, 25, 2}},
		{"Tick(1)", func(p *Purse) { p.Tick(1) }, []uint64{8, 8, 25, 1}},
		{"Tick(2)", func(p *Purse) { p.Tick(2) }, []uint64{10, 8, 25, 0}},
		{"Spend(2)", func(p *Purse) { did(t, "Spend(2)", p.Spend(2), true) }, []uint64{3, 10, 25, 3}},
		{"Spend(5)", func(p *Purse) { did(t, "Spend(5)", p.Spend(5), true) }, []uint64{0, 13, 25, 4}},
		{"Spend(6)", func(p *Purse) { did(t, "Spend(6)", p.Spend(6), false) }, []uint64{5, 8, 25, 2}},
		{"Back(3)", func(p *Purse) { p.Back(3) }, []uint64{8, 5, 25, 1}},
		{"Back(9)", func(p *Purse) { p.Back(9) }, []uint64{10, 3, 25, 0}},
		{"nothing", func(*Purse) {}, []uint64{5, 8, 25, 2}},
	} {
		for i, ask := range asks {
			p := with(t, 3, 10)
			did(t, "Spend(8)", p.Spend(8), true)
			p.Tick(1)
			before := ask(p)
			c.call(p)
			behind := ask(p)
			if was := []uint64{5, 8, 25, 2}[i]; before != was || behind != c.want[i] {
				t.Errorf("%s: answer %d is %d before and %d behind, want %d and %d", c.what, i, before, behind, was, c.want[i])
			}
		}
	}
}

func TestSameCallsSameAnswers(t *testing.T) {
	run := func() string {
		d := dice(5)
		text := ""
		for range 20 {
			rate, burst := d.size()>>4, d.size()>>4
			p, m := with(t, rate, burst), newModel(rate, burst)
			for range 30 {
				text += act(t, &d, p, m)
				ticks, ok := p.Wait(d.size())
				text += fmt.Sprintln(p.Level(), p.Spent(), p.Bound(d.size()), ticks, ok)
			}
		}
		return text
	}
	first := run()
	for range 3 {
		if run() != first {
			t.Fatal("the same calls, other answers")
		}
	}
}

// Examples

func TestExampleOfTheChapter(t *testing.T) {
	p := with(t, 2, 5)
	did(t, "Spend(5)", p.Spend(5), true)
	waits(t, "New(2, 5), Spend(5)", p, 3, 2)
}
