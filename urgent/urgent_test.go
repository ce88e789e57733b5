package urgent

import (
	"fmt"
	"math"
	"slices"
	"testing"
)

// dice makes numbers that look as if they were random; the seed tells which.
type dice uint64

// below returns a number from 0 to n - 1.
func (d *dice) below(n int) int {
	*d = *d*6364136223846793005 + 1442695040888963407
	return int(*d>>33) % n
}

// goods, objects and stripes are numbers at which something may go another way, rising.
var (
	goods   = []int{math.MinInt, math.MinInt + 1, -1<<32 - 1, -1 << 32, -1<<32 + 1, -1 << 31, -65536, -256, -255, -2, -1, 0, 1, 2, 3, 24, 255, 256, 65535, 65536, 1<<31 - 1, 1 << 31, 1<<32 - 1, 1 << 32, 1<<32 + 1, 1 << 53, 1<<53 + 1, math.MaxInt - 1, math.MaxInt}
	objects = []uint32{0, 1, 2, 3, 63, 64, 255, 256, 257, 32767, 32768, 65535, 65536, 65537, 1<<24 - 1, 1 << 24, 1<<31 - 1, 1 << 31, 1<<31 + 1, 1<<32 - 256, 1<<32 - 2, 1<<32 - 1}
	stripes = []uint16{0, 1, 2, 3, 31, 32, 127, 128, 255, 256, 257, 32767, 32768, 32769, 65280, 65534, 65535}
)

// job makes a job.
func job(good int, object uint32, stripe uint16) Job {
	return Job{K: Key{Object: object, Stripe: stripe}, Good: good}
}

// ahead tells whether a is more urgent than b.
func ahead(a, b Job) bool {
	if a.Good != b.Good {
		return a.Good < b.Good
	}
	if a.K.Object != b.K.Object {
		return a.K.Object < b.K.Object
	}
	return a.K.Stripe < b.K.Stripe
}

// model is a queue, the slow way: its jobs, each at its place in the order.
type model []Job

// index returns where the job of a Key stands, or -1 if there is none.
func (m model) index(k Key) int {
	for i, j := range m {
		if j.K == k {
			return i
		}
	}
	return -1
}

func (m model) put(j Job) model {
	m, _ = m.drop(j.K)
	i := 0
	for i < len(m) && ahead(m[i], j) {
		i++
	}
	return slices.Concat(m[:i], model{j}, m[i:])
}

func (m model) drop(k Key) (model, bool) {
	i := m.index(k)
	if i < 0 {
		return m, false
	}
	return slices.Concat(m[:i], m[i+1:]), true
}

// of makes a queue of jobs, put in one behind the other.
func of(jobs ...Job) *Queue {
	q := New()
	for _, j := range jobs {
		q.Put(j)
	}
	return q
}

// sorted returns the jobs in order, the most urgent first.
func sorted(jobs ...Job) []Job {
	var m model
	for _, j := range jobs {
		m = m.put(j)
	}
	return m
}

// told checks an answer of Get, First or Pop.
func told(t *testing.T, what string, got Job, ok bool, want Job) {
	t.Helper()
	if got != want || !ok {
		t.Errorf("%s: %v, %t; want %v, true", what, got, ok, want)
	}
}

// none checks an answer of Get, First or Pop that tells that there is no job.
func none(t *testing.T, what string, got Job, ok bool) {
	t.Helper()
	if (got != Job{}) || ok {
		t.Errorf("%s: %v, %t; want %v, false", what, got, ok, Job{})
	}
}

// did checks what a call reported.
func did(t *testing.T, what string, got, want bool) {
	t.Helper()
	if got != want {
		t.Errorf("%s: %t, want %t", what, got, want)
	}
}

// lists checks what All says.
func lists(t *testing.T, what string, q *Queue, jobs ...Job) {
	t.Helper()
	if l := q.All(); !slices.Equal(l, jobs) {
		t.Errorf("%s: All is %v, want %v", what, l, jobs)
	}
}

// lacks checks that there is no job of these Keys.
func lacks(t *testing.T, what string, q *Queue, keys ...Key) {
	t.Helper()
	for _, k := range keys {
		if j, ok := q.Get(k); (j != Job{}) || ok {
			t.Errorf("%s: Get(%v): %v, %t; want %v, false", what, k, j, ok, Job{})
		}
	}
}

// holds checks that the queue has these jobs, in this order, and none of Keys like theirs. It asks all of it twice.
func holds(t *testing.T, what string, q *Queue, jobs ...Job) {
	t.Helper()
	for range 2 {
		if n := q.Len(); n != len(jobs) {
			t.Errorf("%s: Len is %d, want %d", what, n, len(jobs))
		}
		lists(t, what, q, jobs...)
		if j, ok := q.First(); len(jobs) == 0 {
			none(t, what+": First", j, ok)
		} else {
			told(t, what+": First", j, ok, jobs[0])
		}
		for _, want := range jobs {
			if j, ok := q.Get(want.K); j != want || !ok {
				t.Errorf("%s: Get(%v): %v, %t; want %v, true", what, want.K, j, ok, want)
			}
			for _, k := range like(want.K) {
				if model(jobs).index(k) < 0 {
					lacks(t, what, q, k)
				}
			}
		}
	}
}

// like returns Keys that are other ones than k in a part of it.
func like(k Key) []Key {
	return []Key{
		{k.Object, k.Stripe + 1}, {k.Object, k.Stripe - 1}, {k.Object, k.Stripe ^ 256}, {k.Object, ^k.Stripe},
		{k.Object + 1, k.Stripe}, {k.Object - 1, k.Stripe}, {k.Object ^ 65536, k.Stripe}, {^k.Object, k.Stripe},
		{k.Object + 1, k.Stripe - 1}, {k.Object - 1, k.Stripe + 1}, {^k.Object, ^k.Stripe},
	}
}

// pops checks that the queue pops these jobs, in this order, and then no more.
func pops(t *testing.T, what string, q *Queue, jobs ...Job) {
	t.Helper()
	for i, want := range jobs {
		j, ok := q.Pop()
		told(t, fmt.Sprintf("%s: Pop %d", what, i), j, ok, want)
	}
	for range 2 {
		j, ok := q.Pop()
		none(t, fmt.Sprintf("%s: Pop behind %d", what, len(jobs)), j, ok)
		holds(t, what+": popped empty", q)
	}
}

// orders hands over each order of the numbers from 0 to n - 1.
func orders(n int, do func(order []int)) {
	order := make([]int, n)
	for i := range order {
		order[i] = i
	}
	var rest func(at int)
	rest = func(at int) {
		if at == n {
			do(order)
			return
		}
		for i := at; i < n; i++ {
			order[at], order[i] = order[i], order[at]
			rest(at + 1)
			order[at], order[i] = order[i], order[at]
		}
	}
	rest(0)
}

// picked returns the jobs in that order.
func picked(jobs []Job, order []int) []Job {
	var l []Job
	for _, i := range order {
		l = append(l, jobs[i])
	}
	return l
}

// P19.1

func TestNew(t *testing.T) {
	q := New()
	if q == nil {
		t.Fatal("New is nil")
	}
	holds(t, "a new queue", q)
	lacks(t, "a new queue", q, Key{}, Key{1, 1}, Key{math.MaxUint32, math.MaxUint16})
	did(t, "Drop of a new queue", q.Drop(Key{}), false)
	did(t, "Drop of a new queue", q.Drop(Key{1, 2}), false)
	pops(t, "a new queue", q)
}

func TestPut(t *testing.T) {
	q := New()
	q.Put(job(5, 7, 1))
	holds(t, "one", q, job(5, 7, 1))
	q.Put(job(3, 7, 2))
	holds(t, "a more urgent one", q, job(3, 7, 2), job(5, 7, 1))
	q.Put(job(9, 7, 3))
	holds(t, "a less urgent one", q, job(3, 7, 2), job(5, 7, 1), job(9, 7, 3))
	q.Put(job(4, 1, 1))
	holds(t, "one between", q, job(3, 7, 2), job(4, 1, 1), job(5, 7, 1), job(9, 7, 3))
	q.Put(job(4, 1, 0))
	holds(t, "one of the same Good", q, job(3, 7, 2), job(4, 1, 0), job(4, 1, 1), job(5, 7, 1), job(9, 7, 3))
	pops(t, "five", q, job(3, 7, 2), job(4, 1, 0), job(4, 1, 1), job(5, 7, 1), job(9, 7, 3))
}

// The zero value of a Key, and of a Job, is one as any other.
func TestPutOfZero(t *testing.T) {
	q := of(Job{})
	if n := q.Len(); n != 1 {
		t.Errorf("Len is %d, want 1", n)
	}
	holds(t, "the zero job", q, Job{})
	q.Put(job(0, 0, 1))
	q.Put(job(0, 1, 0))
	holds(t, "three", q, Job{}, job(0, 0, 1), job(0, 1, 0))
	did(t, "Drop", q.Drop(Key{}), true)
	holds(t, "dropped", q, job(0, 0, 1), job(0, 1, 0))
	did(t, "Drop", q.Drop(Key{}), false)
	q.Put(Job{})
	pops(t, "again", q, Job{}, job(0, 0, 1), job(0, 1, 0))
}

func TestPutOfKeyThatIsThere(t *testing.T) {
	for _, c := range []struct {
		what string
		put  Job
		want []Job
	}{
		{"the first stays", job(2, 1, 0), []Job{job(2, 1, 0), job(4, 2, 0), job(6, 3, 0), job(8, 4, 0)}},
		{"the second stays", job(4, 2, 0), []Job{job(2, 1, 0), job(4, 2, 0), job(6, 3, 0), job(8, 4, 0)}},
		{"the last stays", job(8, 4, 0), []Job{job(2, 1, 0), job(4, 2, 0), job(6, 3, 0), job(8, 4, 0)}},
		{"the first less", job(1, 1, 0), []Job{job(1, 1, 0), job(4, 2, 0), job(6, 3, 0), job(8, 4, 0)}},
		{"the first greater, and still first", job(3, 1, 0), []Job{job(3, 1, 0), job(4, 2, 0), job(6, 3, 0), job(8, 4, 0)}},
		{"the first like the second", job(4, 1, 0), []Job{job(4, 1, 0), job(4, 2, 0), job(6, 3, 0), job(8, 4, 0)}},
		{"the first second", job(5, 1, 0), []Job{job(4, 2, 0), job(5, 1, 0), job(6, 3, 0), job(8, 4, 0)}},
		{"the first third", job(7, 1, 0), []Job{job(4, 2, 0), job(6, 3, 0), job(7, 1, 0), job(8, 4, 0)}},
		{"the first last", job(9, 1, 0), []Job{job(4, 2, 0), job(6, 3, 0), job(8, 4, 0), job(9, 1, 0)}},
		{"the second first", job(1, 2, 0), []Job{job(1, 2, 0), job(2, 1, 0), job(6, 3, 0), job(8, 4, 0)}},
		{"the second like the first", job(2, 2, 0), []Job{job(2, 1, 0), job(2, 2, 0), job(6, 3, 0), job(8, 4, 0)}},
		{"the second last", job(9, 2, 0), []Job{job(2, 1, 0), job(6, 3, 0), job(8, 4, 0), job(9, 2, 0)}},
		{"the last first", job(1, 4, 0), []Job{job(1, 4, 0), job(2, 1, 0), job(4, 2, 0), job(6, 3, 0)}},
		{"the last like the first", job(2, 4, 0), []Job{job(2, 1, 0), job(2, 4, 0), job(4, 2, 0), job(6, 3, 0)}},
		{"the last third", job(5, 4, 0), []Job{job(2, 1, 0), job(4, 2, 0), job(5, 4, 0), job(6, 3, 0)}},
		{"the last greater", job(math.MaxInt, 4, 0), []Job{job(2, 1, 0), job(4, 2, 0), job(6, 3, 0), job(math.MaxInt, 4, 0)}},
		{"the last least", job(math.MinInt, 4, 0), []Job{job(math.MinInt, 4, 0), job(2, 1, 0), job(4, 2, 0), job(6, 3, 0)}},
	} {
		jobs := []Job{job(2, 1, 0), job(4, 2, 0), job(6, 3, 0), job(8, 4, 0)}
		orders(4, func(order []int) {
			q := of(picked(jobs, order)...)
			q.Put(c.put)
			holds(t, c.what, q, c.want...)
			q.Put(c.put)
			holds(t, c.what+", twice", q, c.want...)
			pops(t, c.what, q, c.want...)
		})
	}
}

func TestPutOfTheOnlyOne(t *testing.T) {
	q := New()
	for _, good := range append(slices.Clone(goods), 5, 3, 5, 5, 8, -8) {
		q.Put(job(good, 7, 7))
		holds(t, fmt.Sprintf("Put of %d", good), q, job(good, 7, 7))
	}
	pops(t, "the only one", q, job(-8, 7, 7))
}

// It is one job, not two, of which one would be popped later.
func TestPutOfKeyThatIsThereIsOneJob(t *testing.T) {
	q := of(job(5, 1, 1), job(3, 1, 1), job(9, 1, 1), job(4, 2, 2))
	holds(t, "two Keys", q, job(4, 2, 2), job(9, 1, 1))
	did(t, "Drop", q.Drop(Key{1, 1}), true)
	holds(t, "one Key", q, job(4, 2, 2))
	did(t, "Drop", q.Drop(Key{1, 1}), false)
	pops(t, "one Key", q, job(4, 2, 2))

	q = of(job(5, 1, 1), job(3, 1, 1), job(4, 2, 2))
	j, ok := q.Pop()
	told(t, "Pop", j, ok, job(3, 1, 1))
	lacks(t, "popped", q, Key{1, 1})
	pops(t, "popped", q, job(4, 2, 2))
}

// Any of seven jobs, in any order, becomes any other one, and the order is right again.
func TestPutMovesAnyJobAnywhere(t *testing.T) {
	jobs := []Job{job(10, 1, 0), job(20, 1, 1), job(20, 2, 0), job(20, 2, 1), job(30, 0, 0), job(40, 0, 1), job(50, 9, 9)}
	orders(len(jobs), func(order []int) {
		q := of(picked(jobs, order)...)
		was := jobs[order[0]]
		for _, good := range []int{5, 55, 20, 10, 30, 45, 15, was.Good} {
			q.Put(Job{K: was.K, Good: good})
			want := model(sorted(jobs...)).put(Job{K: was.K, Good: good})
			lists(t, fmt.Sprintf("%v, then %v with %d", order, was.K, good), q, want...)
			if j, ok := q.First(); !ok || j != want[0] {
				t.Errorf("%v, then %v with %d: First is %v", order, was.K, good, j)
			}
		}
		pops(t, fmt.Sprint(order), q, jobs...)
		if t.Failed() {
			t.FailNow()
		}
	})
}

func TestGet(t *testing.T) {
	q := of(job(5, 1, 1), job(3, 2, 2), job(4, 3, 3))
	for range 3 {
		j, ok := q.Get(Key{1, 1})
		told(t, "Get", j, ok, job(5, 1, 1))
		j, ok = q.Get(Key{2, 2})
		told(t, "Get", j, ok, job(3, 2, 2))
		lacks(t, "never there", q, Key{}, Key{1, 2}, Key{2, 1}, Key{3, 4}, Key{4, 3}, Key{math.MaxUint32, math.MaxUint16})
	}
	did(t, "Drop", q.Drop(Key{1, 1}), true)
	lacks(t, "dropped", q, Key{1, 1})
	j, ok := q.Pop()
	told(t, "Pop", j, ok, job(3, 2, 2))
	lacks(t, "popped", q, Key{2, 2})
	j, ok = q.Get(Key{3, 3})
	told(t, "Get", j, ok, job(4, 3, 3))
	holds(t, "one left", q, job(4, 3, 3))
}

func TestDrop(t *testing.T) {
	a, b, c, d := job(1, 4, 4), job(2, 3, 3), job(3, 2, 2), job(4, 1, 1)
	for _, x := range []struct {
		what string
		drop Key
		ok   bool
		want []Job
	}{
		{"the most urgent", a.K, true, []Job{b, c, d}},
		{"the second", b.K, true, []Job{a, c, d}},
		{"the third", c.K, true, []Job{a, b, d}},
		{"the least urgent", d.K, true, []Job{a, b, c}},
		{"none", Key{}, false, []Job{a, b, c, d}},
		{"the Object of one, the Stripe of another", Key{4, 3}, false, []Job{a, b, c, d}},
		{"the Object of one", Key{1, 0}, false, []Job{a, b, c, d}},
		{"the Stripe of one", Key{0, 1}, false, []Job{a, b, c, d}},
		{"the greatest Key", Key{math.MaxUint32, math.MaxUint16}, false, []Job{a, b, c, d}},
	} {
		orders(4, func(order []int) {
			q := of(picked([]Job{a, b, c, d}, order)...)
			did(t, "Drop of "+x.what, q.Drop(x.drop), x.ok)
			holds(t, x.what, q, x.want...)
			did(t, "Drop of "+x.what+", twice", q.Drop(x.drop), false)
			holds(t, x.what+", twice", q, x.want...)
			pops(t, x.what, q, x.want...)
		})
	}
}

func TestDropOfTheOnlyOne(t *testing.T) {
	q := of(job(5, 1, 1))
	did(t, "Drop of another", q.Drop(Key{1, 2}), false)
	holds(t, "one", q, job(5, 1, 1))
	did(t, "Drop", q.Drop(Key{1, 1}), true)
	holds(t, "dropped", q)
	lacks(t, "dropped", q, Key{1, 1})
	did(t, "Drop, twice", q.Drop(Key{1, 1}), false)
	holds(t, "dropped, twice", q)
	pops(t, "dropped", q)
	q.Put(job(6, 1, 1))
	holds(t, "put again", q, job(6, 1, 1))
}

// Each job is dropped out of each order of the Puts, and then each other one, until there is none.
func TestDropOfAnyJob(t *testing.T) {
	jobs := []Job{job(1, 1, 0), job(1, 1, 1), job(2, 0, 5), job(2, 1, 7), job(3, 0, 0), job(3, 9, 9)}
	orders(len(jobs), func(order []int) {
		puts := picked(jobs, order)
		for first := range jobs {
			q, m := of(puts...), model(jobs)
			for i := range jobs {
				k := jobs[(first+i*5)%len(jobs)].K
				did(t, fmt.Sprintf("%v: Drop(%v)", order, k), q.Drop(k), true)
				m, _ = m.drop(k)
				lists(t, fmt.Sprintf("%v: without %v", order, k), q, m...)
				lacks(t, fmt.Sprintf("%v: without %v", order, k), q, k)
			}
			holds(t, "all dropped", q)
		}
		if t.Failed() {
			t.FailNow()
		}
	})
}

// What takes the place of a dropped job in the heap may have to go towards the front, or towards the back.
func TestDropOutOfTheMidst(t *testing.T) {
	for _, n := range []int{2, 3, 4, 7, 8, 15, 16, 31, 33, 64} {
		for step := 1; step < n; step += 2 {
			var jobs []Job
			for i := range n {
				jobs = append(jobs, job(i*step%(n+1), uint32(i), 3))
			}
			for _, j := range jobs {
				q := of(jobs...)
				did(t, "Drop", q.Drop(j.K), true)
				left, _ := model(sorted(jobs...)).drop(j.K)
				lists(t, fmt.Sprintf("%d by %d without %v", n, step, j), q, left...)
				pops(t, fmt.Sprintf("%d by %d without %v", n, step, j), q, left...)
			}
		}
	}
}

func TestPutAgain(t *testing.T) {
	q := of(job(5, 1, 1), job(3, 2, 2), job(4, 3, 3))
	did(t, "Drop", q.Drop(Key{3, 3}), true)
	q.Put(job(9, 3, 3))
	holds(t, "dropped and put again", q, job(3, 2, 2), job(5, 1, 1), job(9, 3, 3))
	j, ok := q.Pop()
	told(t, "Pop", j, ok, job(3, 2, 2))
	q.Put(job(3, 2, 2))
	holds(t, "popped and put again", q, job(3, 2, 2), job(5, 1, 1), job(9, 3, 3))
	j, ok = q.Pop()
	told(t, "Pop", j, ok, job(3, 2, 2))
	q.Put(job(6, 2, 2))
	holds(t, "popped and put again with more", q, job(5, 1, 1), job(6, 2, 2), job(9, 3, 3))
	did(t, "Drop", q.Drop(Key{2, 2}), true)
	pops(t, "dropped", q, job(5, 1, 1), job(9, 3, 3))
	q.Put(job(8, 1, 1))
	q.Put(job(7, 3, 3))
	pops(t, "popped empty and put again", q, job(7, 3, 3), job(8, 1, 1))
	lacks(t, "in the end", q, Key{1, 1}, Key{2, 2}, Key{3, 3})
}

func TestLen(t *testing.T) {
	q := New()
	is := func(what string, want int) {
		t.Helper()
		for range 2 {
			if n := q.Len(); n != want {
				t.Errorf("%s: Len is %d, want %d", what, n, want)
			}
		}
	}
	is("New", 0)
	for i := range 40 {
		q.Put(job(i%5, uint32(i), 0))
		is("Put", i+1)
	}
	for i := range 40 {
		q.Put(job(i%7, uint32(i), 0))
		is("Put of a Key that is there", 40)
	}
	for i := range 10 {
		did(t, "Drop", q.Drop(Key{Object: uint32(i * 4)}), true)
		is("Drop", 39-i)
		did(t, "Drop, twice", q.Drop(Key{Object: uint32(i * 4)}), false)
		is("Drop, twice", 39-i)
	}
	for i := range 30 {
		q.Pop()
		is("Pop", 29-i)
	}
	q.Pop()
	is("Pop of none", 0)
	q.Drop(Key{})
	is("Drop of none", 0)
	q.Put(Job{})
	is("Put again", 1)
}

// P19.2

func TestMoreUrgent(t *testing.T) {
	for _, c := range []struct {
		what string
		a, b Job
	}{
		{"less Good", job(1, 5, 5), job(2, 5, 4)},
		{"less Good, greater Object", job(1, 9, 0), job(2, 5, 0)},
		{"less Good, greater Stripe", job(1, 0, 9), job(2, 0, 5)},
		{"less Good, greater Object and Stripe", job(1, math.MaxUint32, math.MaxUint16), job(2, 0, 0)},
		{"below 0", job(-1, 9, 9), job(0, 0, 0)},
		{"farther below 0", job(-2, 9, 9), job(-1, 0, 0)},
		{"the least and the greatest", job(math.MinInt, 9, 9), job(math.MaxInt, 0, 0)},
		{"the least and 0", job(math.MinInt, 9, 9), job(0, 0, 0)},
		{"0 and the greatest", job(0, 9, 9), job(math.MaxInt, 0, 0)},
		{"-1 and the greatest", job(-1, 9, 9), job(math.MaxInt, 0, 0)},
		{"the least and 1", job(math.MinInt, 9, 9), job(1, 0, 0)},
		{"no 32 bits", job(1, 9, 9), job(1<<32, 0, 0)},
		{"no float", job(1<<53, 9, 9), job(1<<53+1, 0, 0)},
		{"less Object", job(4, 1, 5), job(4, 2, 5)},
		{"less Object, greater Stripe", job(4, 1, 9), job(4, 2, 0)},
		{"less Object, the greatest Stripe", job(4, 0, math.MaxUint16), job(4, 1, 0)},
		{"the greatest Object", job(4, math.MaxUint32-1, math.MaxUint16), job(4, math.MaxUint32, 0)},
		{"Objects have no sign", job(4, 1<<31-1, 9), job(4, 1<<31, 0)},
		{"Object 0 and the greatest", job(4, 0, 9), job(4, math.MaxUint32, 0)},
		{"Objects alike in 16 bits", job(4, 5, 9), job(4, 65536, 0)},
		{"less Stripe", job(4, 5, 1), job(4, 5, 2)},
		{"the greatest Stripe", job(4, 5, math.MaxUint16-1), job(4, 5, math.MaxUint16)},
		{"Stripe 0 and the greatest", job(4, 5, 0), job(4, 5, math.MaxUint16)},
		{"Stripes have no sign", job(4, 5, 1<<15-1), job(4, 5, 1<<15)},
		{"Stripes alike in 8 bits", job(4, 5, 255), job(4, 5, 256)},
	} {
		holds(t, c.what, of(c.a, c.b), c.a, c.b)
		holds(t, c.what+", the other way", of(c.b, c.a), c.a, c.b)
		pops(t, c.what, of(c.a, c.b), c.a, c.b)
		pops(t, c.what+", the other way", of(c.b, c.a), c.a, c.b)
	}
}

// Each edge is held against each other one: rising Goods, rising Objects of one Good, rising Stripes of one Object.
func TestEdgesInOrder(t *testing.T) {
	var byGood, byObject, byStripe []Job
	for i, good := range goods {
		byGood = append(byGood, job(good, uint32(100-i), uint16(50-i)))
	}
	for i, object := range objects {
		byObject = append(byObject, job(12, object, uint16(50-i)))
	}
	for _, stripe := range stripes {
		byStripe = append(byStripe, job(12, 77, stripe))
	}
	for _, jobs := range [][]Job{byGood, byObject, byStripe} {
		for i, a := range jobs {
			for _, b := range jobs[i+1:] {
				lists(t, "a pair", of(b, a), a, b)
				pops(t, "a pair", of(a, b), a, b)
			}
		}
		back := slices.Clone(jobs)
		slices.Reverse(back)
		holds(t, "rising", of(jobs...), jobs...)
		holds(t, "falling", of(back...), jobs...)
		pops(t, "rising", of(jobs...), jobs...)
		pops(t, "falling", of(back...), jobs...)
	}
}

// All pairs of edge Keys are Keys of their own.
func TestEdgeKeys(t *testing.T) {
	q := New()
	var want []Job
	for _, object := range objects {
		for _, stripe := range stripes {
			want = append(want, job(6, object, stripe))
		}
	}
	for i := range want {
		q.Put(want[i*7%len(want)])
		q.Put(want[i*7%len(want)])
	}
	holds(t, "edges", q, want...)
	for i := 0; i < len(want); i += 2 {
		did(t, "Drop", q.Drop(want[i].K), true)
	}
	var left []Job
	for i := 1; i < len(want); i += 2 {
		left = append(left, want[i])
	}
	holds(t, "every second one", q, left...)
	pops(t, "every second one", q, left...)
}

func TestFirstAndPop(t *testing.T) {
	q := New()
	j, ok := q.First()
	none(t, "First of none", j, ok)
	j, ok = q.Pop()
	none(t, "Pop of none", j, ok)

	q.Put(job(5, 1, 1))
	j, ok = q.First()
	told(t, "First of one", j, ok, job(5, 1, 1))
	j, ok = q.First()
	told(t, "First of one, twice", j, ok, job(5, 1, 1))
	j, ok = q.Pop()
	told(t, "Pop of one", j, ok, job(5, 1, 1))
	j, ok = q.Pop()
	none(t, "Pop of one, twice", j, ok)
	j, ok = q.First()
	none(t, "First behind that", j, ok)

	q = of(job(5, 1, 1), job(5, 1, 0), job(2, 8, 8), job(7, 0, 0), job(2, 8, 9))
	want := []Job{job(2, 8, 8), job(2, 8, 9), job(5, 1, 0), job(5, 1, 1), job(7, 0, 0)}
	for i, w := range want {
		holds(t, "many", q, want[i:]...)
		j, ok = q.First()
		told(t, "First of many", j, ok, w)
		j, ok = q.Pop()
		told(t, "Pop of many", j, ok, w)
		lacks(t, "popped", q, w.K)
		did(t, "Drop of what was popped", q.Drop(w.K), false)
	}
	holds(t, "none left", q)
}

func TestAskingChangesNothing(t *testing.T) {
	jobs := []Job{job(5, 1, 1), job(5, 1, 0), job(2, 8, 8), job(7, 0, 0), job(2, 8, 9), job(3, 3, 3)}
	want := sorted(jobs...)
	q := of(jobs...)
	for range 50 {
		if n := q.Len(); n != 6 {
			t.Errorf("Len is %d, want 6", n)
		}
		lists(t, "All", q, want...)
		j, ok := q.First()
		told(t, "First", j, ok, want[0])
		j, ok = q.Get(Key{7, 7})
		none(t, "Get of none", j, ok)
		j, ok = q.Get(Key{1, 0})
		told(t, "Get", j, ok, job(5, 1, 0))
		did(t, "Drop of none", q.Drop(Key{7, 7}), false)
	}
	pops(t, "asked", q, want...)
}

func TestAll(t *testing.T) {
	if l := New().All(); len(l) != 0 {
		t.Errorf("All of none is %v", l)
	}
	lists(t, "one", of(job(5, 1, 1)), job(5, 1, 1))
	jobs := []Job{job(-3, 9, 9), job(1, 1, 0), job(1, 1, 1), job(1, 2, 0), job(2, 0, 0), job(2, 0, 1), job(5, 0, 2)}
	orders(len(jobs), func(order []int) {
		lists(t, fmt.Sprint(order), of(picked(jobs, order)...), jobs...)
	})
}

// P19.3

func TestPopsAreAll(t *testing.T) {
	jobs := []Job{job(-3, 9, 9), job(1, 1, 0), job(1, 1, 1), job(1, 2, 0), job(2, 0, 0), job(2, 0, 1), job(5, 0, 2)}
	orders(len(jobs), func(order []int) {
		q := of(picked(jobs, order)...)
		pops(t, fmt.Sprint(order), q, q.All()...)
		if t.Failed() {
			t.FailNow()
		}
	})
	q := New()
	pops(t, "none", q, q.All()...)
}

func TestPopsAreAllOfMany(t *testing.T) {
	d := dice(193)
	for _, n := range []int{1, 2, 3, 10, 63, 64, 65, 500, 2048} {
		for _, spread := range []int{1, 2, 24, 1 << 30} {
			q := New()
			var m model
			for q.Len() < n {
				j := job(d.below(spread)-spread/2, uint32(d.below(n)), uint16(d.below(32)))
				q.Put(j)
				m, _ = m.drop(j.K)
				m = append(m, j)
			}
			slices.SortFunc(m, func(a, b Job) int {
				if ahead(a, b) {
					return -1
				}
				return 1
			})
			what := fmt.Sprintf("%d jobs of %d Goods", n, spread)
			lists(t, what, q, m...)
			pops(t, what, q, m...)
		}
	}
}

// What is left behind some Pops and Drops comes in the order of All, too.
func TestPopsAreAllOfWhatIsLeft(t *testing.T) {
	d := dice(194)
	for range 300 {
		q := New()
		for range 1 + d.below(40) {
			q.Put(job(d.below(6), uint32(d.below(5)), uint16(d.below(5))))
		}
		was := q.All()
		n := d.below(len(was) + 1)
		for i := range n {
			j, ok := q.Pop()
			told(t, "Pop", j, ok, was[i])
		}
		lists(t, "left", q, was[n:]...)
		if n < len(was) {
			gone := was[n+d.below(len(was)-n)].K
			did(t, "Drop", q.Drop(gone), true)
			left, _ := model(was[n:]).drop(gone)
			lists(t, "left behind a Drop", q, left...)
		}
		pops(t, "left", q, q.All()...)
	}
}

// Rules

func TestNoQueue(t *testing.T) {
	for what, q := range map[string]*Queue{"a nil queue": nil, "one that nobody made": {}} {
		for range 2 {
			holds(t, what, q)
			lacks(t, what, q, Key{}, Key{1, 1}, Key{math.MaxUint32, math.MaxUint16})
			did(t, what+": Drop", q.Drop(Key{}), false)
			did(t, what+": Drop", q.Drop(Key{1, 1}), false)
			pops(t, what, q)
			for _, j := range []Job{{}, job(1, 1, 1), job(1, 1, 1), job(0, 1, 1), job(math.MinInt, 0, 0)} {
				q.Put(j)
				holds(t, what+": Put", q)
				lacks(t, what+": Put", q, j.K)
				did(t, what+": Put, Drop", q.Drop(j.K), false)
			}
		}
		pops(t, what, q)
	}
}

// Each call is the first one of a queue that nobody made.
func TestFirstCallOfNoQueue(t *testing.T) {
	for _, q := range []func() *Queue{func() *Queue { return nil }, func() *Queue { return &Queue{} }, func() *Queue { return new(Queue) }} {
		if n := q().Len(); n != 0 {
			t.Errorf("Len is %d, want 0", n)
		}
		if l := q().All(); len(l) != 0 {
			t.Errorf("All is %v", l)
		}
		j, ok := q().First()
		none(t, "First", j, ok)
		j, ok = q().Pop()
		none(t, "Pop", j, ok)
		j, ok = q().Get(Key{})
		none(t, "Get", j, ok)
		did(t, "Drop", q().Drop(Key{}), false)
		q().Put(Job{})
		x := q()
		x.Put(job(1, 2, 3))
		j, ok = x.Pop()
		none(t, "Put, Pop", j, ok)
		holds(t, "Put", x)
	}
}

func TestAllIsTheCallers(t *testing.T) {
	jobs := []Job{job(5, 1, 1), job(3, 2, 2), job(4, 3, 3)}
	want := sorted(jobs...)
	q := of(jobs...)
	a, b := q.All(), q.All()
	for i := range a {
		a[i] = job(-9, 9, 9)
	}
	a = append(a, job(-8, 8, 8))
	clear(a[:cap(a)])
	if !slices.Equal(b, want) {
		t.Errorf("another All is %v, want %v", b, want)
	}
	holds(t, "written into All", q, want...)
	q.Put(job(7, 7, 7))
	holds(t, "and put", q, append(slices.Clone(want), job(7, 7, 7))...)

	// What stands behind All's end is not the queue's, either.
	c := q.All()
	c = append(c, job(-1, 1, 2), job(-1, 1, 3), job(-1, 1, 4))
	q.Put(job(8, 8, 8))
	if c[4] != job(-1, 1, 2) || c[5] != job(-1, 1, 3) || c[6] != job(-1, 1, 4) {
		t.Errorf("a Put wrote into an All: %v", c)
	}
	pops(t, "written behind All", q, append(slices.Clone(want), job(7, 7, 7), job(8, 8, 8))...)
}

func TestNoCallChangesAll(t *testing.T) {
	for _, c := range []struct {
		what string
		call func(q *Queue)
	}{
		{"Put of a new Key", func(q *Queue) { q.Put(job(0, 7, 7)) }},
		{"Put of a Key that is there", func(q *Queue) { q.Put(job(9, 2, 2)) }},
		{"Drop", func(q *Queue) { q.Drop(Key{2, 2}) }},
		{"Pop", func(q *Queue) { q.Pop() }},
		{"All", func(q *Queue) { clear(q.All()) }},
		{"all Pops", func(q *Queue) {
			for q.Len() > 0 {
				q.Pop()
			}
			q.Put(job(0, 7, 7))
		}},
	} {
		jobs := []Job{job(5, 1, 1), job(3, 2, 2), job(4, 3, 3), job(8, 4, 4), job(1, 5, 5)}
		want := sorted(jobs...)
		orders(len(jobs), func(order []int) {
			q := of(picked(jobs, order)...)
			a := q.All()
			c.call(q)
			if !slices.Equal(a, want) {
				t.Errorf("%s changed an All to %v", c.what, a)
			}
		})
	}
}

func TestTwoQueuesDoNotTouch(t *testing.T) {
	p, q, r := New(), New(), New()
	p.Put(job(5, 1, 1))
	holds(t, "one", p, job(5, 1, 1))
	holds(t, "other", q)
	q.Put(job(7, 1, 1))
	q.Put(job(2, 2, 2))
	holds(t, "one", p, job(5, 1, 1))
	holds(t, "other", q, job(2, 2, 2), job(7, 1, 1))
	did(t, "Drop", p.Drop(Key{2, 2}), false)
	did(t, "Drop", p.Drop(Key{1, 1}), true)
	holds(t, "one", p)
	holds(t, "other", q, job(2, 2, 2), job(7, 1, 1))
	p.Put(job(0, 2, 2))
	pops(t, "other", q, job(2, 2, 2), job(7, 1, 1))
	holds(t, "one", p, job(0, 2, 2))
	holds(t, "third", r)
}

// act does one call of any kind to a queue and to its model, and checks that they answer the same.
func act(t *testing.T, d *dice, q *Queue, m model, keys, spread int) (string, model) {
	t.Helper()
	j := job(d.below(spread), uint32(d.below(keys)), uint16(d.below(keys)))
	if d.below(30) == 0 {
		j.Good = goods[d.below(len(goods))]
	}
	switch d.below(8) {
	case 0:
		what := fmt.Sprintf("Drop(%v)", j.K)
		left, ok := m.drop(j.K)
		did(t, what, q.Drop(j.K), ok)
		return what, left
	case 1:
		got, ok := q.Pop()
		if len(m) == 0 {
			none(t, "Pop", got, ok)
			return "Pop of none", m
		}
		told(t, "Pop", got, ok, m[0])
		return "Pop", slices.Clone(m[1:])
	case 2:
		got, ok := q.Get(j.K)
		if i := m.index(j.K); i < 0 {
			none(t, fmt.Sprintf("Get(%v)", j.K), got, ok)
		} else {
			told(t, fmt.Sprintf("Get(%v)", j.K), got, ok, m[i])
		}
		return "Get", m
	}
	q.Put(j)
	return fmt.Sprintf("Put(%v)", j), m.put(j)
}

func TestAnyCallsInAnyOrder(t *testing.T) {
	d := dice(1900)
	for i := range 300 {
		q, m := New(), model(nil)
		keys, spread := 1+i%7, 1+d.below(20)
		for range 120 {
			var what string
			what, m = act(t, &d, q, m, keys, spread)
			holds(t, what, q, m...)
			if t.Failed() {
				t.FailNow()
			}
		}
		pops(t, "in the end", q, m...)
	}
}

// Neither is anything asked between two calls, so that nothing asked earlier hides a fault.
func TestAnyCallsUnasked(t *testing.T) {
	d := dice(1901)
	for i := range 4000 {
		q, m := New(), model(nil)
		keys, spread := 1+i%9, 1+d.below(30)
		what := ""
		for range d.below(80) {
			var one string
			one, m = act(t, &d, q, m, keys, spread)
			what += one + " "
		}
		if i%2 == 0 {
			holds(t, what, q, m...)
		}
		pops(t, what, q, m...)
		if t.Failed() {
			t.FailNow()
		}
	}
}

// Of the same jobs the answers are the same, whichever way they came in.
func TestSameJobsSameAnswers(t *testing.T) {
	d := dice(1902)
	for range 200 {
		q, m := New(), model(nil)
		for range d.below(100) {
			_, m = act(t, &d, q, m, 4, 9)
		}
		p := of(m...)
		holds(t, "the one", q, m...)
		holds(t, "the other", p, m...)
		for range m {
			a, _ := q.Pop()
			b, _ := p.Pop()
			if a != b {
				t.Errorf("Pops of the same jobs are %v and %v", a, b)
			}
		}
	}
}

func TestManyJobs(t *testing.T) {
	q := New()
	n := 20000
	for i := range n {
		at := i * 7919 % n
		q.Put(job(n-at, uint32(at/8), uint16(at%8)))
	}
	for i := range n {
		if i%3 == 0 {
			did(t, "Drop", q.Drop(Key{uint32(i / 8), uint16(i % 8)}), true)
		} else if i%3 == 1 {
			q.Put(job(i, uint32(i/8), uint16(i%8)))
		}
	}
	was := Job{Good: math.MinInt}
	left := q.Len()
	for range left {
		j, ok := q.Pop()
		at := int(j.K.Object)*8 + int(j.K.Stripe)
		want := at
		if at%3 == 2 {
			want = n - at
		}
		if !ok || at%3 == 0 || j.Good != want || !ahead(was, j) {
			t.Fatalf("Pop: %v, %t behind %v", j, ok, was)
		}
		was = j
	}
	if left != n-(n+2)/3 {
		t.Errorf("Len is %d, want %d", left, n-(n+2)/3)
	}
	pops(t, "many", q)
}

// Examples

func TestExampleOfTheChapter(t *testing.T) {
	q := New()
	q.Put(Job{K: Key{Stripe: 1}, Good: 5})
	q.Put(Job{K: Key{Stripe: 2}, Good: 3})
	j, ok := q.First()
	told(t, "First", j, ok, Job{K: Key{Stripe: 2}, Good: 3})
}
