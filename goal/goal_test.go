package goal_test

import (
	"math"
	"math/rand/v2"
	"slices"
	"strings"
	"testing"

	"hoistway/api"
	"hoistway/goal"
)

func of(o goal.Of, p, most int) goal.Goal { return goal.Goal{Of: o, P: p, Most: most} }

// P59.1
func TestRight(t *testing.T) {
	if goal.Wait != 1 || goal.Transit != 2 || goal.Share != 3 {
		t.Error(goal.Wait, goal.Transit, goal.Share)
	}
	numbers := []int{math.MinInt, -1, 0, 1, 50, 99, 100, 101, 1<<20 - 1, 1 << 20, 1<<20 + 1, math.MaxInt}
	for _, o := range []goal.Of{math.MinInt, -1, 0, 1, 2, 3, 4, math.MaxInt} {
		for _, p := range numbers {
			for _, most := range numbers {
				want := false
				switch o {
				case 1, 2:
					want = p >= 0 && p <= 100 && most >= 0 && most <= 1048576
				case 3:
					want = p == 0 && most >= 0 && most <= 100
				}
				g := of(o, p, most)
				if got := goal.Right(g); got != want {
					t.Errorf("Right(%v): %v", g, got)
				}
				// Of one that isn't right nothing is written.
				if got := goal.Text(g); (got != "") != want {
					t.Errorf("Text(%v): %q", g, got)
				}
			}
		}
	}
}

// P59.1
func TestText(t *testing.T) {
	for _, c := range []struct {
		l    []goal.Goal
		want string
	}{
		{nil, ""}, {[]goal.Goal{{}}, ""}, {[]goal.Goal{of(1, 95, 60)}, "wait 95 60\n"}, {[]goal.Goal{of(1, 0, 30)}, "wait mean 30\n"}, {[]goal.Goal{of(2, 100, 1<<20)}, "transit 100 1048576\n"}, {[]goal.Goal{of(2, 0, 0)}, "transit mean 0\n"}, {[]goal.Goal{of(3, 0, 90)}, "share 90\n"}, {[]goal.Goal{of(3, 0, 0)}, "share 0\n"}, {[]goal.Goal{of(1, 1, 0)}, "wait 1 0\n"},
		{[]goal.Goal{of(3, 0, 100), of(1, 101, 5), of(1, 50, 5), of(4, 50, 5), of(1, 50, 5), of(3, 1, 5), of(2, 7, 1)}, "share 100\nwait 50 5\nwait 50 5\ntransit 7 1\n"},
	} {
		if got := goal.Text(c.l...); got != c.want {
			t.Errorf("Text(%v): %q; want %q", c.l, got, c.want)
		}
	}
}

// P59.2
func TestRead(t *testing.T) {
	for _, c := range []struct {
		s    string
		want []goal.Goal
	}{
		{"", nil}, {"\n\n # wait\n", nil}, {"wait 95 60", []goal.Goal{of(1, 95, 60)}}, {"wait mean 30\n", []goal.Goal{of(1, 0, 30)}}, {"share 90#\n\n\ttransit  1 0\r\ntransit mean 1048576\nshare 0", []goal.Goal{of(3, 0, 90), of(2, 1, 0), of(2, 0, 1<<20), of(3, 0, 0)}}, {"wait100 5\nwait100 5", []goal.Goal{of(1, 100, 5), of(1, 100, 5)}},
	} {
		if got, bad := goal.Read(c.s); bad != (api.Problem{}) || !slices.Equal(got, c.want) {
			t.Errorf("Read(%q): %v, %v; want %v", c.s, got, bad, c.want)
		}
	}
}

// P59.2: what is wrong, the first of it.
func TestWrong(t *testing.T) {
	for _, s := range []string{
		"wait", "wait 95", "wait mean", "wait 95 60 1", "wait mean 60 60", "wait 60 mean", "wait mean mean", "wait 101 5", "wait 0 5", "wait 95 1048577", "wait median 5", "wait x 5", "wait wait 5", "wait 5 x",
		"transit", "transit 0 5", "transit 5", "transit 101 5", "transit mean 1048577", "transit mean 5 x",
		"share", "share 101", "share mean 5", "share 0 5", "share 5 5", "share x", "share mean", "share share", "share 5 x",
		"mean", "mean 5", "x", "5", "95 60", "5 wait", "waits 95 60", "carried 5", "0", "60 95 wait",
	} {
		if got, bad := goal.Read(s); len(got) != 0 || bad != (api.Problem{Code: api.ErrForm, Line: 1, Col: 1}) {
			t.Errorf("Read(%q): %v, %v", s, got, bad)
		}
		// At the first token of the first such line.
		more := "wait 5 5\n#\n\t " + s + "\nx"
		if got, bad := goal.Read(more); len(got) != 0 || bad != (api.Problem{Code: api.ErrForm, Line: 3, Col: 3}) {
			t.Errorf("Read(%q): %v, %v", more, got, bad)
		}
	}
	for _, c := range []struct {
		s    string
		want api.Problem
	}{
		{"wait -5 5", api.Problem{Code: api.ErrByte, Line: 1, Col: 6}}, {"x\nwait 05 5", api.Problem{Code: api.ErrNum, Line: 2, Col: 6}}, {"share 1073741825", api.Problem{Code: api.ErrNum, Line: 1, Col: 7}}, {"share 1073741824", api.Problem{Code: api.ErrForm, Line: 1, Col: 1}}, {"x" + strings.Repeat("\n", api.MaxText), api.Problem{Code: api.ErrSize, Line: 1, Col: 1}},
	} {
		if got, bad := goal.Read(c.s); len(got) != 0 || bad != c.want {
			t.Errorf("Read of %d bytes: %v, %v; want %v", len(c.s), got, bad, c.want)
		}
	}
}

// P59.1, P59.2: what was written is read as it was, and of mixed texts each line, by the bytes that Text writes.
func TestMixed(t *testing.T) {
	known := map[string]goal.Goal{}
	for _, o := range []goal.Of{1, 2, 3} {
		for p := range 102 {
			for _, most := range []int{0, 1, 60, 95, 100, 101, 1 << 20} {
				if g := of(o, p, most); goal.Right(g) {
					known[goal.Text(g)] = g
				}
			}
		}
	}
	pieces := []string{"wait", "transit", "share", "wait", "transit", "share", "x", "mean", "mean", "0", "1", "60", "95", "100", "101", "1048576", "1048577"}
	fine := 0
	for seed := range uint64(30000) {
		r := rand.New(rand.NewPCG(seed, 59))
		var l []goal.Goal
		var lines []string
		at := 0
		for range 1 + r.IntN(3) {
			var words []string
			for i := range r.IntN(5) {
				// A line most often begins with a word of its own, and goes on with others.
				from, upTo := []int{0, 6, 6, 0}[i], []int{7, 17, 17, 17}[i]
				words = append(words, pieces[from+r.IntN(upTo-from)])
			}
			line := strings.Join(words, " ")
			lines = append(lines, line)
			if g, ok := known[line+"\n"]; ok {
				l = append(l, g)
			} else if line != "" && at == 0 {
				at = len(lines)
			}
		}
		s := strings.Join(lines, "\n")
		got, bad := goal.Read(s)
		if at > 0 && (len(got) != 0 || bad != (api.Problem{Code: api.ErrForm, Line: at, Col: 1})) || at == 0 && (bad != (api.Problem{}) || !slices.Equal(got, l)) {
			t.Fatalf("Read(%q): %v, %v; want %v, line %d", s, got, bad, l, at)
		}
		if len(got) > 0 {
			fine++
			if again, bad := goal.Read(goal.Text(got...)); bad != (api.Problem{}) || !slices.Equal(again, got) {
				t.Fatalf("%v: %v, %v", got, again, bad)
			}
		}
	}
	if fine < 500 {
		t.Error(fine)
	}
}

// done: the trip of one who waited and rode so long.
func done(wait, ride int) api.Trip {
	return api.Trip{Arrive: 10, Board: 10 + wait, Alight: 10 + wait + ride}
}

func riding() api.Trip { return api.Trip{Arrive: 0, Board: 1000, Alight: -1} }

func waiting() api.Trip { return api.Trip{Arrive: 0, Car: -1, Board: -1, Alight: -1} }

// P59.3
func TestMet(t *testing.T) {
	l := []api.Trip{done(1, 40), riding(), done(3, 30), waiting(), done(2, 20), done(9, 10), riding()}
	for _, c := range []struct {
		g    goal.Goal
		want bool
	}{
		// Waits 1 3 2 9, transits 40 30 20 10; riding and waiting ones aside.
		{of(1, 50, 2), true}, {of(1, 50, 1), false}, {of(1, 51, 2), false}, {of(1, 51, 3), true}, {of(1, 75, 3), true}, {of(1, 76, 8), false}, {of(1, 100, 9), true}, {of(1, 100, 8), false}, {of(1, 1, 1), true}, {of(1, 1, 0), false},
		{of(2, 25, 10), true}, {of(2, 25, 9), false}, {of(2, 100, 40), true}, {of(2, 100, 39), false},
		// Means of 3.75 and 25.
		{of(1, 0, 4), true}, {of(1, 0, 3), false}, {of(2, 0, 25), true}, {of(2, 0, 24), false},
		// Four of seven: 57.1 of 100.
		{of(3, 0, 57), true}, {of(3, 0, 58), false}, {of(3, 0, 0), true}, {of(3, 0, 100), false},
	} {
		if got := goal.Met(c.g, l); got != c.want {
			t.Errorf("Met(%v): %v", c.g, got)
		}
	}
	// Where nobody is done, waits and transits are as they should be.
	for _, l := range [][]api.Trip{nil, {waiting()}, {riding(), waiting()}} {
		for _, g := range []goal.Goal{of(1, 95, 0), of(1, 0, 0), of(2, 1, 0), of(2, 0, 0), of(3, 0, 0)} {
			if !goal.Met(g, l) {
				t.Errorf("Met(%v, %v)", g, l)
			}
		}
		if got := goal.Met(of(3, 0, 1), l); got != (len(l) == 0) {
			t.Errorf("Met of a share, %v: %v", l, got)
		}
	}
	for _, c := range []struct {
		done, all, most int
		want            bool
	}{{9, 10, 90, true}, {9, 10, 91, false}, {10, 10, 100, true}, {1, 200, 1, false}, {2, 200, 1, true}, {199, 200, 99, true}, {199, 200, 100, false}, {1, 3, 33, true}, {1, 3, 34, false}} {
		l := append(slices.Repeat([]api.Trip{done(5, 5)}, c.done), slices.Repeat([]api.Trip{waiting()}, c.all-c.done)...)
		if got := goal.Met(of(3, 0, c.most), l); got != c.want {
			t.Errorf("Met of %v: %v", c, got)
		}
	}
}

// P59.3: by the document's words.
func TestMetMixed(t *testing.T) {
	for seed := range uint64(5000) {
		r := rand.New(rand.NewPCG(seed, 593))
		var l []api.Trip
		var waits, rides []int
		for range r.IntN(12) {
			switch r.IntN(4) {
			case 0:
				l = append(l, []api.Trip{riding(), waiting()}[r.IntN(2)])
			default:
				w, ride := r.IntN(9), r.IntN(9)
				l, waits, rides = append(l, done(w, ride)), append(waits, w), append(rides, ride)
			}
		}
		g := of(goal.Of(1+r.IntN(3)), 0, r.IntN(9))
		var want bool
		if g.Of == goal.Share {
			g.Most = r.IntN(101)
			want = len(l) == 0 || float64(len(waits))/float64(len(l)) >= float64(g.Most)/100
		} else {
			g.P = r.IntN(2) * r.IntN(101)
			numbers := waits
			if g.Of == goal.Transit {
				numbers = rides
			}
			small, sum := 0, 0
			for _, n := range numbers {
				sum += n
				if n <= g.Most {
					small++
				}
			}
			// The percentile is at most a number where as many as it needs are no greater than that.
			want = small*100 >= g.P*len(numbers)
			if g.P == 0 {
				want = sum <= g.Most*len(numbers)
			}
		}
		if got := goal.Met(g, l); got != want {
			t.Fatalf("Met(%v, %v): %v", g, l, got)
		}
	}
}

// P59.3
func TestFailed(t *testing.T) {
	l := []api.Trip{done(1, 40), done(3, 30), waiting()}
	for _, c := range []struct {
		goals []goal.Goal
		want  []int
	}{
		{nil, nil}, {[]goal.Goal{of(1, 0, 2)}, nil}, {[]goal.Goal{of(1, 0, 1)}, []int{0}},
		{[]goal.Goal{of(3, 0, 67), of(3, 0, 66), of(1, 100, 2), of(1, 100, 3), of(2, 0, 34), of(2, 0, 34)}, []int{0, 2, 4, 5}},
	} {
		if got := goal.Failed(c.goals, l); !slices.Equal(got, c.want) {
			t.Errorf("Failed(%v): %v; want %v", c.goals, got, c.want)
		}
	}
}

// P1: of any goals and trips it ends.
func TestEnds(t *testing.T) {
	trips := []api.Trip{{}, {Arrive: math.MinInt, Board: math.MaxInt, Alight: math.MaxInt}, {Arrive: math.MaxInt, Board: math.MinInt}, done(1, 1)}
	for _, o := range []goal.Of{-1, 0, 1, 2, 3, 4} {
		for _, p := range []int{math.MinInt, -1, 0, 101, math.MaxInt} {
			for _, most := range []int{math.MinInt, -1, math.MaxInt} {
				goal.Met(of(o, p, most), trips)
				goal.Failed([]goal.Goal{of(o, p, most)}, nil)
			}
		}
	}
}
