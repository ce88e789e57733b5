package watch

import (
	"fmt"
	"math"
	"slices"
	"testing"

	"coldframe/api"
)

// dice makes numbers that look as if they were random; the seed tells which.
type dice uint64

// below returns a number from 0 to n - 1.
func (d *dice) below(n int) int {
	*d = *d*6364136223846793005 + 1442695040888963407
	return int(*d>>33) % n
}

// wrong are numbers that no node of any watch has.
var wrong = []int{math.MinInt, math.MinInt + 1, -1 << 40, -1<<32 - 1, -1 << 32, -1<<32 + 1, -1 << 31, -256, -33, -32, -2, -1, 32, 33, 64, 255, 256, 1<<31 - 1, 1 << 31, 1<<32 - 1, 1 << 32, 1<<32 + 1, 1 << 40, math.MaxInt - 1, math.MaxInt}

// others are states that no node is ever in.
var others = []State{math.MinInt, math.MinInt + 1, -1 << 32, -1<<32 + 1, -256, -3, -2, -1, 3, 4, 5, 7, 31, 32, 255, 256, 257, 258, 1 << 31, 1<<32 - 1, 1 << 32, 1<<32 + 1, 1<<32 + 2, math.MaxInt - 1, math.MaxInt}

// with makes a watch.
func with(t *testing.T, nodes, late, gone int) *Watch {
	t.Helper()
	w, e := New(nodes, late, gone)
	if e != api.OK || w == nil {
		t.Fatalf("New(%d, %d, %d): %p, error %d", nodes, late, gone, w, e)
	}
	return w
}

// refused checks that New makes no watch of these.
func refused(t *testing.T, nodes, late, gone int) {
	t.Helper()
	if w, e := New(nodes, late, gone); w != nil || e != 1 {
		t.Errorf("New(%d, %d, %d): %v, error %d; want nil, 1", nodes, late, gone, w, e)
	}
}

// did checks what a call reported.
func did(t *testing.T, what string, got, want bool) {
	t.Helper()
	if got != want {
		t.Errorf("%s: %t, want %t", what, got, want)
	}
}

// now checks the tick and the epoch.
func now(t *testing.T, what string, w *Watch, tick, epoch int) {
	t.Helper()
	for range 2 {
		if a, b := w.Now(); a != tick || b != epoch {
			t.Errorf("%s: Now is %d, %d; want %d, %d", what, a, b, tick, epoch)
		}
	}
}

// counted returns how many of these are s.
func counted(states []State, s State) int {
	n := 0
	for _, x := range states {
		if x == s {
			n++
		}
	}
	return n
}

// thinks checks the State of each node, and all that follows from it. There is no other node.
func thinks(t *testing.T, what string, w *Watch, states ...State) {
	t.Helper()
	if n := w.Len(); n != len(states) {
		t.Errorf("%s: Len is %d, want %d", what, n, len(states))
	}
	for node, s := range states {
		if got := w.Of(node); got != s {
			t.Errorf("%s: Of(%d) is %d, want %d", what, node, got, s)
		}
	}
	for _, node := range append([]int{len(states), len(states) + 1}, wrong...) {
		if got := w.Of(node); got != Gone {
			t.Errorf("%s: Of(%d) is %d, want %d", what, node, got, Gone)
		}
	}
	for _, s := range append([]State{There, Late, Gone}, others...) {
		if got, want := w.Count(s), counted(states, s); got != want {
			t.Errorf("%s: Count(%d) is %d, want %d", what, s, got, want)
		}
	}
	if n := w.Count(There) + w.Count(Late) + w.Count(Gone); n != w.Len() {
		t.Errorf("%s: the three states have %d nodes of %d", what, n, w.Len())
	}
}

// all returns n times the same state.
func all(n int, s State) []State {
	return slices.Repeat([]State{s}, n)
}

// model is a watch, the slow way: each node tells for itself for how many ticks it has been silent, and what is thought of it.
type model struct {
	late, gone  int
	list        []modelNode
	tick, epoch int
}

type modelNode struct {
	silent int
	state  State
}

func newModel(nodes, late, gone int) *model {
	return &model{late: late, gone: gone, list: make([]modelNode, nodes)}
}

func (m *model) heard(node int) bool {
	for i := range m.list {
		if i == node {
			m.list[i].silent = 0
			m.settle()
			return true
		}
	}
	return false
}

func (m *model) ticked(n int) bool {
	if n <= 0 || n > MostTicks || m.tick+n > MostTicks {
		return false
	}
	m.tick += n
	for i := range m.list {
		m.list[i].silent += n
	}
	m.settle()
	return true
}

// settle gives each node its state.
func (m *model) settle() {
	changed := false
	for i, node := range m.list {
		s := There
		if node.silent >= m.late {
			s = Late
		}
		if node.silent >= m.gone {
			s = Gone
		}
		changed = changed || s != node.state
		m.list[i].state = s
	}
	if changed {
		m.epoch++
	}
}

// same checks that a watch tells what its model tells.
func (m *model) same(t *testing.T, what string, w *Watch) {
	t.Helper()
	var states []State
	for _, node := range m.list {
		states = append(states, node.state)
	}
	now(t, what, w, m.tick, m.epoch)
	thinks(t, what, w, states...)
}

// P17.1

func TestStates(t *testing.T) {
	for i, s := range []State{There, Late, Gone} {
		if int(s) != i {
			t.Errorf("state %d is %d", i, s)
		}
	}
	if MostTicks != 1099511627776 {
		t.Errorf("MostTicks is %d", MostTicks)
	}
}

func TestName(t *testing.T) {
	for range 2 {
		for s, want := range []string{"there", "late", "gone"} {
			if got := State(s).Name(); got != want {
				t.Errorf("the name of %d is %q, want %q", s, got, want)
			}
		}
	}
	if There.Name() != "there" || Late.Name() != "late" || Gone.Name() != "gone" {
		t.Errorf("%q, %q, %q", There.Name(), Late.Name(), Gone.Name())
	}
}

func TestNoName(t *testing.T) {
	for _, s := range others {
		if got := s.Name(); got != "" {
			t.Errorf("the name of %d is %q, want none", s, got)
		}
	}
	for s := State(3); s < 1000; s++ {
		if s.Name() != "" || (2-s).Name() != "" {
			t.Errorf("%d or %d has a name", s, 2-s)
		}
	}
}

func TestNew(t *testing.T) {
	for nodes := 1; nodes <= 32; nodes++ {
		what := fmt.Sprintf("a new watch of %d nodes", nodes)
		w := with(t, nodes, 2, 4)
		now(t, what, w, 0, 0)
		thinks(t, what, w, all(nodes, There)...)
	}
}

func TestNewOfTooFewOrTooManyNodes(t *testing.T) {
	for _, nodes := range append([]int{0, 34, 100, 1000}, wrong...) {
		if nodes != 32 {
			refused(t, nodes, 2, 4)
			refused(t, nodes, 1, 2)
			refused(t, nodes, 1, MostTicks)
		}
	}
	with(t, 32, 2, 4)
	with(t, 1, 2, 4)
}

func TestNewOfLateAndGone(t *testing.T) {
	bounds := []int{math.MinInt, math.MinInt + 1, -MostTicks, -1 << 32, -2, -1, 0, 1, 2, 3, 4, 5, 10, 31, 32, 33, 255, 256, 1<<31 - 1, 1 << 31, 1<<32 - 1, 1 << 32, 1<<32 + 1, 1<<32 + 2,
		MostTicks - 2, MostTicks - 1, MostTicks, MostTicks + 1, MostTicks + 2, 2 * MostTicks, math.MaxInt - 1, math.MaxInt}
	for _, late := range bounds {
		for _, gone := range bounds {
			for _, nodes := range []int{1, 5, 32} {
				if 1 <= late && late < gone && gone <= 1<<40 {
					what := fmt.Sprintf("New(%d, %d, %d)", nodes, late, gone)
					w := with(t, nodes, late, gone)
					now(t, what, w, 0, 0)
					thinks(t, what, w, all(nodes, There)...)
				} else {
					refused(t, nodes, late, gone)
				}
			}
		}
	}
}

func TestNewAtTheEdges(t *testing.T) {
	refused(t, 1, 0, 1)
	refused(t, 1, 0, 5)
	refused(t, 1, -1, 0)
	refused(t, 1, -1, 5)
	refused(t, 1, -3, -2)
	refused(t, 1, 1, 0)
	refused(t, 1, 1, 1)
	with(t, 1, 1, 2)
	refused(t, 1, 5, 4)
	refused(t, 1, 5, 5)
	with(t, 1, 5, 6)
	with(t, 1, 1, 1<<40)
	refused(t, 1, 1, 1<<40+1)
	with(t, 1, 1<<40-1, 1<<40)
	refused(t, 1, 1<<40, 1<<40)
	refused(t, 1, 1<<40, 1<<40+1)
	refused(t, 1, 1<<40+1, 1<<40+2)
	refused(t, 0, 0, 0)
	refused(t, 33, 0, 1<<40+1)
	refused(t, -1, 5, 5)
}

// The late and the gone of a watch are its own, and count to the tick.
func TestLateAndGoneCount(t *testing.T) {
	for _, c := range []struct{ late, gone int }{{1, 2}, {1, 3}, {1, 100}, {2, 3}, {2, 4}, {3, 7}, {99, 100}, {1, MostTicks}, {2, MostTicks}, {1 << 31, 1 << 32}, {1 << 32, 1<<32 + 1}, {MostTicks / 2, MostTicks - 1}, {MostTicks - 2, MostTicks - 1}, {MostTicks - 2, MostTicks}, {MostTicks - 1, MostTicks}} {
		for _, p := range []struct {
			silent int
			want   State
		}{
			{1, There}, {c.late - 2, There}, {c.late - 1, There},
			{c.late, Late}, {c.late + 1, Late}, {c.gone - 1, Late},
			{c.gone, Gone}, {c.gone + 1, Gone}, {2 * c.gone, Gone}, {2*c.gone + c.late, Gone}, {MostTicks - 1, Gone}, {MostTicks, Gone},
		} {
			want := p.want
			switch {
			case p.silent < 1 || p.silent > MostTicks:
				continue
			case p.silent >= c.gone:
				want = Gone
			case p.silent >= c.late:
				want = Late
			}
			what := fmt.Sprintf("late %d, gone %d, silent for %d", c.late, c.gone, p.silent)
			epoch := 1
			if want == There {
				epoch = 0
			}
			w := with(t, 2, c.late, c.gone)
			did(t, what, w.Tick(p.silent), true)
			now(t, what, w, p.silent, epoch)
			thinks(t, what, w, want, want)

			did(t, what, w.Heard(1), true)
			epoch *= 2
			now(t, what, w, p.silent, epoch)
			thinks(t, what, w, want, There)
		}
	}
}

// P17.2

func TestHeardOfEachNode(t *testing.T) {
	for _, nodes := range []int{1, 2, 5, 31, 32} {
		for node := range nodes {
			what := fmt.Sprintf("node %d of %d", node, nodes)
			w := with(t, nodes, 2, 4)
			did(t, what, w.Tick(1), true)
			did(t, what, w.Heard(node), true)
			now(t, what+" is heard at 1", w, 1, 0)
			thinks(t, what+" is heard at 1", w, all(nodes, There)...)

			did(t, what, w.Tick(1), true)
			states := all(nodes, Late)
			states[node] = There
			epoch := min(1, nodes-1)
			now(t, what+" at 2", w, 2, epoch)
			thinks(t, what+" at 2", w, states...)

			did(t, what, w.Tick(1), true)
			epoch++
			now(t, what+" at 3", w, 3, epoch)
			thinks(t, what+" at 3", w, all(nodes, Late)...)

			did(t, what, w.Heard(node), true)
			epoch++
			now(t, what+" is heard at 3", w, 3, epoch)
			thinks(t, what+" is heard at 3", w, states...)
		}
	}
}

func TestHeardOfNoNode(t *testing.T) {
	for _, nodes := range []int{1, 2, 31, 32} {
		w := with(t, nodes, 2, 4)
		for tick, s := range []State{There, There, Late, Late, Gone, Gone} {
			epoch := int(s)
			for _, node := range append([]int{nodes, nodes + 1, nodes + 32, -nodes, -nodes - 1}, wrong...) {
				if node >= 0 && node < nodes {
					continue
				}
				what := fmt.Sprintf("Heard(%d) of %d nodes at %d", node, nodes, tick)
				for range 2 {
					did(t, what, w.Heard(node), false)
				}
				now(t, what, w, tick, epoch)
				thinks(t, what, w, all(nodes, s)...)
			}
			did(t, "Tick", w.Tick(1), true)
		}
	}
}

func TestHeardDoesNotTurnTheTick(t *testing.T) {
	w := with(t, 3, 2, 4)
	for tick := range 9 {
		for i := range 20 {
			did(t, "Heard", w.Heard(i%3), true)
			now(t, fmt.Sprintf("Heard at %d", tick), w, tick, 0)
			thinks(t, "Heard", w, There, There, There)
		}
		did(t, "Tick", w.Tick(1), true)
	}
}

// A node that is There is heard without any change of the epoch, and yet at a later tick than before.
func TestHeardOfANodeThatIsThere(t *testing.T) {
	w := with(t, 2, 3, 5)
	did(t, "Tick", w.Tick(2), true)
	for range 3 {
		did(t, "Heard", w.Heard(0), true)
		now(t, "Heard", w, 2, 0)
		thinks(t, "Heard", w, There, There)
	}
	did(t, "Tick", w.Tick(1), true)
	now(t, "3", w, 3, 1)
	thinks(t, "3", w, There, Late)
	did(t, "Tick", w.Tick(1), true)
	now(t, "4", w, 4, 1)
	thinks(t, "4", w, There, Late)
	did(t, "Tick", w.Tick(1), true)
	now(t, "5: one becomes Late, the other Gone", w, 5, 2)
	thinks(t, "5", w, Late, Gone)
}

func TestHeardOfANodeThatIsLateOrGone(t *testing.T) {
	for _, c := range []struct {
		tick  int
		state State
	}{{2, Late}, {3, Late}, {4, Gone}, {5, Gone}, {100, Gone}, {1 << 33, Gone}, {MostTicks - 1, Gone}, {MostTicks, Gone}} {
		what := fmt.Sprintf("at %d", c.tick)
		w := with(t, 3, 2, 4)
		did(t, what, w.Tick(c.tick), true)
		now(t, what, w, c.tick, 1)
		thinks(t, what, w, c.state, c.state, c.state)
		did(t, what, w.Heard(1), true)
		now(t, what, w, c.tick, 2)
		thinks(t, what, w, c.state, There, c.state)
		did(t, what, w.Heard(1), true)
		now(t, what+", again", w, c.tick, 2)
		thinks(t, what+", again", w, c.state, There, c.state)
		did(t, what, w.Heard(0), true)
		now(t, what, w, c.tick, 3)
		thinks(t, what, w, There, There, c.state)
		did(t, what, w.Heard(2), true)
		now(t, what, w, c.tick, 4)
		thinks(t, what, w, There, There, There)
	}
}

// What a node was before it is heard counts no more.
func TestANodeGoesAndComesAgainAndAgain(t *testing.T) {
	w := with(t, 1, 2, 5)
	epoch := 0
	for i := range 20 {
		what := fmt.Sprintf("time %d", i)
		for silent, s := range []State{There, There, Late, Late, Late, Gone, Gone} {
			if silent > 0 {
				did(t, what, w.Tick(1), true)
			}
			if silent == 2 || silent == 5 {
				epoch++
			}
			now(t, what, w, 6*i+silent, epoch)
			thinks(t, what, w, s)
		}
		did(t, what, w.Heard(0), true)
		epoch++
		now(t, what, w, 6*i+6, epoch)
		thinks(t, what, w, There)
	}
}

func TestTick(t *testing.T) {
	w := with(t, 2, 100, 200)
	tick := 0
	for _, n := range []int{1, 1, 2, 3, 1, 5, 8, 1, 13} {
		tick += n
		did(t, "Tick", w.Tick(n), true)
		now(t, fmt.Sprintf("Tick(%d)", n), w, tick, 0)
		thinks(t, "Tick", w, There, There)
	}
	for _, n := range []int{65, 100, 1, 255, 1 << 31, 1 << 32, 1<<32 + 1, 1 << 39} {
		tick += n
		did(t, "Tick", w.Tick(n), true)
		if got, _ := w.Now(); got != tick {
			t.Errorf("Tick(%d): the tick is %d, want %d", n, got, tick)
		}
	}
}

func TestTickOfNoneOrLess(t *testing.T) {
	w := with(t, 2, 2, 4)
	for tick, s := range []State{There, There, Late, Late, Gone, Gone} {
		for _, n := range []int{0, -1, -2, -3, -4, -5, -256, -1 << 31, -1 << 32, -1<<32 + 1, -MostTicks + 1, -MostTicks, -MostTicks - 1, math.MinInt + 1, math.MinInt} {
			what := fmt.Sprintf("Tick(%d) at %d", n, tick)
			for range 2 {
				did(t, what, w.Tick(n), false)
			}
			now(t, what, w, tick, int(s))
			thinks(t, what, w, s, s)
		}
		did(t, "Tick", w.Tick(1), true)
	}
}

func TestTickToTheGreatest(t *testing.T) {
	for _, start := range []int{0, 1, 2, 3, 1000, 1 << 31, 1 << 32, MostTicks / 2, MostTicks - 2, MostTicks - 1, MostTicks} {
		for _, late := range []int{1, 3, MostTicks - 2, MostTicks - 1} {
			m := newModel(2, late, late+1)
			w := with(t, 2, late, late+1)
			what := fmt.Sprintf("late %d, at %d", late, start)
			if start > 0 {
				did(t, what, w.Tick(start), m.ticked(start))
			}
			did(t, what, w.Heard(1), m.heard(1))
			m.same(t, what, w)

			left := 1<<40 - start
			for _, n := range []int{left + 1, left + 2, left + MostTicks, MostTicks + 1, MostTicks + 2, 2 * MostTicks, 1 << 62, math.MaxInt - start, math.MaxInt - MostTicks, math.MaxInt - MostTicks + 1, math.MaxInt - 1, math.MaxInt} {
				did(t, fmt.Sprintf("%s: Tick(%d)", what, n), w.Tick(n), false)
				m.same(t, fmt.Sprintf("%s: Tick(%d)", what, n), w)
			}
			if left > 0 {
				did(t, what+": the rest", w.Tick(left), m.ticked(left))
				m.same(t, what+": the rest", w)
			}
			for _, n := range []int{1, 2, MostTicks, math.MaxInt, 0, -1} {
				did(t, fmt.Sprintf("%s: Tick(%d) behind the rest", what, n), w.Tick(n), false)
				m.same(t, what+": behind the rest", w)
			}
			did(t, what+": Heard behind the rest", w.Heard(0), m.heard(0))
			m.same(t, what+": Heard behind the rest", w)
			if tick, _ := w.Now(); tick != 1099511627776 || w.Of(0) != There {
				t.Errorf("%s: tick %d, state %d", what, tick, w.Of(0))
			}
		}
	}
}

func TestTickOneByOne(t *testing.T) {
	for _, c := range []struct{ late, gone int }{{1, 2}, {1, 5}, {2, 3}, {2, 5}, {4, 5}, {4, 12}, {11, 12}} {
		w := with(t, 2, c.late, c.gone)
		for tick := range 3 * c.gone {
			if tick > 0 {
				did(t, "Tick", w.Tick(1), true)
			}
			s := There
			switch {
			case tick >= c.gone:
				s = Gone
			case tick >= c.late:
				s = Late
			}
			what := fmt.Sprintf("late %d, gone %d, at %d", c.late, c.gone, tick)
			now(t, what, w, tick, int(s))
			thinks(t, what, w, s, s)
		}
	}
}

// So many ticks at once, or some at first and the others behind them, lead to the same states, but not to the same epoch.
func TestTicksInTwoParts(t *testing.T) {
	for first := 1; first < 10; first++ {
		for second := 1; second < 10; second++ {
			what := fmt.Sprintf("%d ticks, and %d", first, second)
			state := func(silent int) State {
				return State(min(silent/3, 1) + min(silent/7, 1))
			}
			epoch := 0
			if state(first) != There {
				epoch++
			}
			w := with(t, 1, 3, 7)
			did(t, what, w.Tick(first), true)
			now(t, what, w, first, epoch)
			thinks(t, what, w, state(first))

			if state(first+second) != state(first) {
				epoch++
			}
			did(t, what, w.Tick(second), true)
			now(t, what, w, first+second, epoch)
			thinks(t, what, w, state(first+second))

			w = with(t, 1, 3, 7)
			did(t, what, w.Tick(first+second), true)
			now(t, what+" at once", w, first+second, min(1, int(state(first+second))))
			thinks(t, what+" at once", w, state(first+second))
		}
	}
}

func TestFromThereToGoneAtOnce(t *testing.T) {
	for _, n := range []int{4, 5, 6, 100, MostTicks - 1, MostTicks} {
		w := with(t, 3, 2, 4)
		what := fmt.Sprintf("Tick(%d)", n)
		did(t, what, w.Tick(n), true)
		now(t, what, w, n, 1)
		thinks(t, what, w, Gone, Gone, Gone)
	}
	w := with(t, 3, 2, 4)
	did(t, "Tick", w.Tick(1), true)
	did(t, "Heard", w.Heard(2), true)
	did(t, "Tick", w.Tick(3), true)
	now(t, "two of three are Gone at once, one is Late", w, 4, 1)
	thinks(t, "two of three are Gone at once, one is Late", w, Gone, Gone, Late)
}

func TestEpoch(t *testing.T) {
	w := with(t, 3, 3, 6)
	for i, c := range []struct {
		heard, ticks int // heard -1: none is
		tick, epoch  int
		states       []State
	}{
		{-1, 1, 1, 0, []State{There, There, There}},
		{0, 0, 1, 0, []State{There, There, There}},
		{-1, 1, 2, 0, []State{There, There, There}},
		{1, 0, 2, 0, []State{There, There, There}},
		{-1, 1, 3, 1, []State{There, There, Late}}, // one
		{-1, 1, 4, 2, []State{Late, There, Late}},  // one more
		{-1, 1, 5, 3, []State{Late, Late, Late}},
		{-1, 1, 6, 4, []State{Late, Late, Gone}},
		{2, 0, 6, 5, []State{Late, Late, There}},
		{2, 0, 6, 5, []State{Late, Late, There}}, // heard twice at one tick
		{-1, 2, 8, 6, []State{Gone, Gone, There}},
		{-1, 1, 9, 7, []State{Gone, Gone, Late}},
		{-1, 2, 11, 7, []State{Gone, Gone, Late}}, // none
		{0, 0, 11, 8, []State{There, Gone, Late}},
		{-1, 3, 14, 9, []State{Late, Gone, Gone}}, // two at once
		{1, 0, 14, 10, []State{Late, There, Gone}},
		{-1, 100, 114, 11, []State{Gone, Gone, Gone}}, // two at once, in two ways
		{-1, 100, 214, 11, []State{Gone, Gone, Gone}},
		{0, 0, 214, 12, []State{There, Gone, Gone}},
		{1, 0, 214, 13, []State{There, There, Gone}},
		{2, 0, 214, 14, []State{There, There, There}},
		{-1, 3, 217, 15, []State{Late, Late, Late}}, // three at once
		{-1, 3, 220, 16, []State{Gone, Gone, Gone}},
	} {
		what := fmt.Sprintf("step %d", i)
		if c.heard >= 0 {
			did(t, what, w.Heard(c.heard), true)
		}
		if c.ticks > 0 {
			did(t, what, w.Tick(c.ticks), true)
		}
		now(t, what, w, c.tick, c.epoch)
		thinks(t, what, w, c.states...)
	}
}

// However many nodes change at once, the epoch is one more.
func TestEpochOfAllNodesAtOnce(t *testing.T) {
	for nodes := 1; nodes <= 32; nodes++ {
		what := fmt.Sprintf("%d nodes", nodes)
		w := with(t, nodes, 2, 4)
		did(t, what, w.Tick(2), true)
		now(t, what, w, 2, 1)
		thinks(t, what, w, all(nodes, Late)...)
		did(t, what, w.Tick(2), true)
		now(t, what, w, 4, 2)
		thinks(t, what, w, all(nodes, Gone)...)
		for node := range nodes {
			did(t, what, w.Heard(node), true)
			now(t, what, w, 4, 3+node)
		}
		thinks(t, what, w, all(nodes, There)...)
		did(t, what, w.Tick(9), true)
		now(t, what, w, 13, 3+nodes)
		thinks(t, what, w, all(nodes, Gone)...)
	}
}

// Any one of all nodes makes the epoch one more.
func TestEpochOfOneNodeOfMany(t *testing.T) {
	for node := range 32 {
		what := fmt.Sprintf("node %d", node)
		w := with(t, 32, 3, 6)
		did(t, what, w.Tick(1), true)
		for other := range 32 {
			if other != node {
				did(t, what, w.Heard(other), true)
			}
		}
		did(t, what, w.Tick(2), true)
		states := all(32, There)
		states[node] = Late
		now(t, what, w, 3, 1)
		thinks(t, what, w, states...)
		did(t, what, w.Heard(node), true)
		now(t, what, w, 3, 2)
		thinks(t, what, w, all(32, There)...)
	}
}

// Each node that was heard at a tick of its own has a State of its own.
func TestOfAndCount(t *testing.T) {
	w := with(t, 32, 10, 20)
	did(t, "Tick", w.Tick(1), true)
	for node := range 32 {
		did(t, "Heard", w.Heard(node), true)
		did(t, "Tick", w.Tick(1), true)
	}
	for tick := 33; tick < 60; tick++ {
		var states []State
		for node := range 32 {
			silent := tick - 1 - node
			states = append(states, State(min(2, silent/10)))
		}
		thinks(t, fmt.Sprintf("at %d", tick), w, states...)
		did(t, "Tick", w.Tick(1), true)
	}
}

func TestAskingChangesNothing(t *testing.T) {
	w := with(t, 3, 2, 4)
	did(t, "Tick", w.Tick(1), true)
	did(t, "Heard", w.Heard(1), true)
	did(t, "Tick", w.Tick(1), true)
	for range 100 {
		now(t, "again and again", w, 2, 1)
		thinks(t, "again and again", w, Late, There, Late)
	}
	did(t, "Tick", w.Tick(1), true)
	now(t, "a tick later", w, 3, 2)
	thinks(t, "a tick later", w, Late, Late, Late)
}

// The same is asked before a call and right behind it, and nothing else between.
func TestAskedBeforeAndBehind(t *testing.T) {
	for _, c := range []struct {
		what  string
		call  func(w *Watch) bool
		asked State // of node 0
		count [3]int
		tick  int
		epoch int
	}{
		{"Heard of a node that is Late", func(w *Watch) bool { return w.Heard(0) }, There, [3]int{3, 1, 0}, 3, 2},
		{"Heard of another one", func(w *Watch) bool { return w.Heard(1) }, Late, [3]int{3, 1, 0}, 3, 2},
		{"Heard of one that is There", func(w *Watch) bool { return w.Heard(2) }, Late, [3]int{2, 2, 0}, 3, 1},
		{"Tick", func(w *Watch) bool { return w.Tick(2) }, Gone, [3]int{0, 2, 2}, 5, 2},
		{"Tick without a change", func(w *Watch) bool { return w.Tick(1) }, Late, [3]int{2, 2, 0}, 4, 1},
	} {
		begin := func() *Watch {
			w := with(t, 4, 3, 5)
			did(t, c.what, w.Tick(2) && w.Heard(2) && w.Heard(3) && w.Tick(1), true)
			return w
		}
		for s, had := range []int{2, 2, 0} {
			w := begin()
			before := w.Count(State(s))
			did(t, c.what, c.call(w), true)
			if behind := w.Count(State(s)); before != had || behind != c.count[s] {
				t.Errorf("%s: Count(%d) is %d, then %d; want %d, then %d", c.what, s, before, behind, had, c.count[s])
			}
		}
		w := begin()
		before := w.Of(0)
		did(t, c.what, c.call(w), true)
		if behind := w.Of(0); before != Late || behind != c.asked {
			t.Errorf("%s: Of(0) is %d, then %d; want %d, then %d", c.what, before, behind, Late, c.asked)
		}
		w = begin()
		tick, epoch := w.Now()
		did(t, c.what, c.call(w), true)
		if a, b := w.Now(); tick != 3 || epoch != 1 || a != c.tick || b != c.epoch {
			t.Errorf("%s: Now is %d, %d, then %d, %d; want 3, 1, then %d, %d", c.what, tick, epoch, a, b, c.tick, c.epoch)
		}
	}
}

func TestNilWatch(t *testing.T) {
	var w *Watch
	for range 2 {
		thinks(t, "nil", w)
		now(t, "nil", w, 0, 0)
		for _, n := range append([]int{0, 1, 2, 31, MostTicks}, wrong...) {
			if got := w.Of(n); got != Gone {
				t.Errorf("Of(%d) is %d, want %d", n, got, Gone)
			}
			did(t, fmt.Sprintf("Heard(%d)", n), w.Heard(n), false)
			did(t, fmt.Sprintf("Tick(%d)", n), w.Tick(n), false)
			if got := w.Count(State(n)); got != 0 {
				t.Errorf("Count(%d) is %d, want 0", n, got)
			}
		}
		now(t, "nil", w, 0, 0)
		thinks(t, "nil", w)
	}
}

// A watch that New did not make has no nodes, and is like none.
func TestZeroWatch(t *testing.T) {
	w := &Watch{}
	for range 2 {
		did(t, "Heard", w.Heard(0), false)
		did(t, "Tick", w.Tick(1), false)
		now(t, "zero", w, 0, 0)
		thinks(t, "zero", w)
	}
}

// P17.3

// oftenEnough lets node 1 of three be heard each late - 1 ticks, the ticks passing in steps of at most so many, and checks
// that it is There at all times. The node ahead of it is never heard, and the one behind it only at the start.
func oftenEnough(t *testing.T, late, gone, step, spans int) {
	t.Helper()
	what := fmt.Sprintf("late %d, gone %d, steps of %d", late, gone, step)
	w := with(t, 3, late, gone)
	did(t, what, w.Heard(2), true)
	tick := 0
	for range spans {
		for left := late - 1; left > 0; {
			n := min(step, left)
			did(t, what, w.Tick(n), true)
			left -= n
			tick += n
			if s := w.Of(1); s != There {
				t.Fatalf("%s: %d at %d", what, s, tick)
			}
		}
		did(t, what, w.Heard(1), true)
		if s := w.Of(1); s != There {
			t.Fatalf("%s: %d at %d, where it is heard", what, s, tick)
		}
	}
	want := State(min(1, tick/late) + min(1, tick/gone))
	thinks(t, what, w, want, There, want)
	if got, _ := w.Now(); got != tick {
		t.Errorf("%s: the tick is %d, want %d", what, got, tick)
	}
}

func TestHeardOftenEnough(t *testing.T) {
	for _, late := range []int{2, 3, 4, 5, 10, 33} {
		for _, gone := range []int{late + 1, late + 2, 2 * late, 5 * late} {
			for _, step := range []int{1, 2, 3, late - 1} {
				oftenEnough(t, late, gone, step, 30)
			}
		}
	}
	for _, late := range []int{1 << 20, 1 << 32, 1<<32 + 5, 1 << 35} {
		oftenEnough(t, late, late+1, late-1, 30)
		oftenEnough(t, late, 2*late, late/3, 30)
	}
	oftenEnough(t, MostTicks-1, MostTicks, MostTicks, 1)
	oftenEnough(t, MostTicks/2, MostTicks, MostTicks, 2)
}

// In each late - 1 ticks side by side, wherever they begin: the node may also be heard more often.
func TestHeardAtAnyTicksOftenEnough(t *testing.T) {
	for seed := range 50 {
		d := dice(seed)
		late := 2 + d.below(8)
		gone := late + 1 + d.below(5)
		w := with(t, 2, late, gone)
		silent, epoch := 0, 0
		for tick := range 300 {
			what := fmt.Sprintf("seed %d: late %d, gone %d, at %d", seed, late, gone, tick)
			if silent == late-1 || d.below(late) == 0 {
				did(t, what, w.Heard(1), true)
				silent = 0
			}
			if tick == late || tick == gone {
				epoch++
			}
			if got := w.Of(1); got != There {
				t.Errorf("%s: %d, want There", what, got)
			}
			now(t, what, w, tick, epoch)
			did(t, what, w.Tick(1), true)
			silent++
		}
	}
}

// Where one span is a tick longer, the node is Late at its last tick, and There again when it is heard then.
func TestHeardATickTooLate(t *testing.T) {
	for _, late := range []int{1, 2, 3, 4, 10, 1 << 32} {
		for _, at := range []int{0, 1, 5} {
			what := fmt.Sprintf("late %d, span %d", late, at)
			w := with(t, 1, late, late+1)
			epoch := 0
			for span := range 8 {
				if late > 1 {
					did(t, what, w.Tick(late-1), true)
					thinks(t, what, w, There)
				}
				if span == at {
					did(t, what, w.Tick(1), true)
					thinks(t, what, w, Late)
					did(t, what, w.Heard(0), true)
					epoch = 2
				}
				did(t, what, w.Heard(0), true)
				thinks(t, what, w, There)
				tick, _ := w.Now()
				now(t, what, w, tick, epoch)
			}
		}
	}
}

// Rules

// Two watches don't change one another.
func TestTwoWatches(t *testing.T) {
	a, b := with(t, 2, 2, 4), with(t, 3, 1, 3)
	did(t, "a: Tick", a.Tick(2), true)
	now(t, "a", a, 2, 1)
	thinks(t, "a", a, Late, Late)
	now(t, "b", b, 0, 0)
	thinks(t, "b", b, There, There, There)

	did(t, "a: Heard", a.Heard(1), true)
	did(t, "b: Tick", b.Tick(1), true)
	did(t, "b: Heard", b.Heard(0), true)
	now(t, "a", a, 2, 2)
	thinks(t, "a", a, Late, There)
	now(t, "b", b, 1, 2)
	thinks(t, "b", b, There, Late, Late)

	did(t, "a: Tick", a.Tick(100), true)
	c := with(t, 2, 2, 4)
	did(t, "a: Tick of none", a.Tick(0), false)
	now(t, "a", a, 102, 3)
	thinks(t, "a", a, Gone, Gone)
	now(t, "b", b, 1, 2)
	thinks(t, "b", b, There, Late, Late)
	now(t, "c", c, 0, 0)
	thinks(t, "c", c, There, There)
	refused(t, 2, 4, 2)
	now(t, "a", a, 102, 3)
	thinks(t, "a", a, Gone, Gone)
}

// call does one of many calls on a watch and its model, a refused one now and then, and checks what it reports.
func call(t *testing.T, what string, d *dice, m *model, w *Watch) {
	t.Helper()
	switch d.below(8) {
	case 0:
		n := []int{0, -1, -5, math.MinInt, math.MaxInt, MostTicks + 1, MostTicks - m.tick + 1}[d.below(7)]
		did(t, fmt.Sprintf("%s: Tick(%d)", what, n), w.Tick(n), m.ticked(n))
	case 1:
		node := wrong[d.below(len(wrong))]
		did(t, fmt.Sprintf("%s: Heard(%d)", what, node), w.Heard(node), m.heard(node))
	case 2, 3, 4:
		n := 1 + d.below(1+d.below(1+m.gone%(1<<20)))
		did(t, fmt.Sprintf("%s: Tick(%d)", what, n), w.Tick(n), m.ticked(n))
	default:
		node := d.below(len(m.list)+2) - 1
		did(t, fmt.Sprintf("%s: Heard(%d)", what, node), w.Heard(node), m.heard(node))
	}
}

func TestAnyCallsInAnyOrder(t *testing.T) {
	for seed := range 150 {
		d := dice(seed)
		nodes, late := 1+d.below(1+d.below(32)), 1+d.below(10)
		gone := late + 1 + d.below(12)
		if seed%10 == 9 {
			late, gone = MostTicks-3+d.below(2), MostTicks
		}
		m := newModel(nodes, late, gone)
		w := with(t, nodes, late, gone)
		if seed%3 == 2 { // near the end of all ticks
			n := MostTicks - d.below(200) - 1
			did(t, "Tick", w.Tick(n), m.ticked(n))
		}
		for i := range 150 {
			what := fmt.Sprintf("seed %d: %d nodes, late %d, gone %d, call %d", seed, nodes, late, gone, i)
			call(t, what, &d, m, w)
			m.same(t, what, w)
		}
		if t.Failed() {
			return
		}
	}
}

// Two watches to which the same is done, by turns, tell the same. A third one to which other things are done in between
// doesn't touch them.
func TestSameCallsSameAnswers(t *testing.T) {
	for seed := range 20 {
		x, y, z := dice(seed), dice(seed), dice(seed+1000)
		a, b, c := with(t, 7, 3, 6), with(t, 7, 3, 6), with(t, 9, 2, 5)
		ma, mb, mc := newModel(7, 3, 6), newModel(7, 3, 6), newModel(9, 2, 5)
		for i := range 100 {
			what := fmt.Sprintf("seed %d, call %d", seed, i)
			call(t, what+", a", &x, ma, a)
			call(t, what+", c", &z, mc, c)
			call(t, what+", b", &y, mb, b)
			ma.same(t, what+", a", a)
			ma.same(t, what+", b", b)
			mc.same(t, what+", c", c)
		}
		if t.Failed() {
			return
		}
	}
}

// Examples

func TestExample(t *testing.T) {
	w := with(t, 1, 2, 4)
	did(t, "Tick(2)", w.Tick(2), true)
	thinks(t, "Tick(2)", w, Late)
	did(t, "Tick(2)", w.Tick(2), true)
	thinks(t, "Tick(2) again", w, Gone)
	did(t, "Heard", w.Heard(0), true)
	thinks(t, "Heard", w, There)
	now(t, "Heard", w, 4, 3)
}
