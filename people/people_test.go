package people_test

import (
	"math/rand/v2"
	"slices"
	"testing"

	"hoistway/api"
	"hoistway/people"
)

const most = 1 << 40

func one(id, tick, from, to int) api.Passenger {
	return api.Passenger{Id: id, Tick: tick, From: from, To: to}
}

// P62.1
func TestRight(t *testing.T) {
	for _, c := range []struct {
		l      []api.Passenger
		floors int
		want   bool
	}{
		{nil, 5, true}, {nil, 0, true}, {[]api.Passenger{}, -most, true},
		{[]api.Passenger{one(0, 0, 0, 1)}, 2, true}, {[]api.Passenger{one(0, most, 4, 0), one(1, most, 0, 4)}, 5, true}, {[]api.Passenger{one(0, 3, 1, 0), one(1, 3, 2, 1), one(2, 4, 0, 2)}, 3, true}, {[]api.Passenger{one(0, 0, most-1, 0)}, most, true},
		// Numbers that aren't 0, 1, 2 ..
		{[]api.Passenger{one(1, 0, 0, 1)}, 2, false}, {[]api.Passenger{one(-1, 0, 0, 1)}, 2, false}, {[]api.Passenger{one(0, 0, 0, 1), one(0, 0, 0, 1)}, 2, false}, {[]api.Passenger{one(0, 0, 0, 1), one(2, 0, 0, 1)}, 2, false},
		// Ticks below 0, or ahead of one ahead.
		{[]api.Passenger{one(0, -1, 0, 1)}, 2, false}, {[]api.Passenger{one(0, 5, 0, 1), one(1, 4, 0, 1)}, 2, false}, {[]api.Passenger{one(0, 5, 0, 1), one(1, 6, 0, 1), one(2, 5, 0, 1)}, 2, false},
		// Floors that there aren't, and one that is the same.
		{[]api.Passenger{one(0, 0, 0, 2)}, 2, false}, {[]api.Passenger{one(0, 0, 2, 0)}, 2, false}, {[]api.Passenger{one(0, 0, -1, 0)}, 2, false}, {[]api.Passenger{one(0, 0, 0, -1)}, 2, false}, {[]api.Passenger{one(0, 0, 1, 1)}, 2, false}, {[]api.Passenger{one(0, 0, 0, 1)}, 1, false}, {[]api.Passenger{one(0, 0, 0, 1)}, 0, false}, {[]api.Passenger{one(0, 0, 0, 1)}, -5, false}, {[]api.Passenger{one(0, 0, 0, 1), one(1, 0, 0, 0)}, 2, false},
	} {
		if got := people.Right(c.l, c.floors); got != c.want {
			t.Errorf("Right(%v, %d): %v", c.l, c.floors, got)
		}
	}
}

// P62.1
func TestMerge(t *testing.T) {
	a := []api.Passenger{one(0, 1, 0, 1), one(1, 3, 0, 2), one(2, 3, 0, 3)}
	b := []api.Passenger{one(0, 0, 9, 1), one(1, 3, 9, 2), one(2, 7, 9, 3)}
	for _, c := range []struct{ a, b, want []api.Passenger }{
		{nil, nil, nil}, {a, nil, a}, {nil, b, b},
		{a, b, []api.Passenger{one(0, 0, 9, 1), one(1, 1, 0, 1), one(2, 3, 0, 2), one(3, 3, 0, 3), one(4, 3, 9, 2), one(5, 7, 9, 3)}},
		{b, a, []api.Passenger{one(0, 0, 9, 1), one(1, 1, 0, 1), one(2, 3, 9, 2), one(3, 3, 0, 2), one(4, 3, 0, 3), one(5, 7, 9, 3)}},
		// Numbers are made anew, whatever they were; rows that aren't by ticks go on by their first ones.
		{[]api.Passenger{one(7, -5, 1, 2)}, nil, []api.Passenger{one(0, -5, 1, 2)}}, {nil, []api.Passenger{one(7, 5, 1, 2), one(7, 4, 1, 2)}, []api.Passenger{one(0, 5, 1, 2), one(1, 4, 1, 2)}},
		{[]api.Passenger{one(0, 9, 1, 1), one(0, 1, 1, 2)}, []api.Passenger{one(0, 5, 2, 1), one(0, 10, 2, 2)}, []api.Passenger{one(0, 5, 2, 1), one(1, 9, 1, 1), one(2, 1, 1, 2), one(3, 10, 2, 2)}},
	} {
		if got := people.Merge(c.a, c.b); !slices.Equal(got, c.want) {
			t.Errorf("Merge(%v, %v): %v; want %v", c.a, c.b, got, c.want)
		}
	}
}

// P62.2
func TestChanged(t *testing.T) {
	l := []api.Passenger{one(5, 10, 0, 2), one(5, -most, 4, 4), one(-most, most, most, -most)}
	for _, c := range []struct{ got, want []api.Passenger }{
		{people.Later(l, 3), []api.Passenger{one(5, 13, 0, 2), one(5, 3-most, 4, 4), one(-most, most+3, most, -most)}},
		{people.Later(l, -most), []api.Passenger{one(5, 10-most, 0, 2), one(5, -2*most, 4, 4), one(-most, 0, most, -most)}},
		{people.Mirror(l, 5), []api.Passenger{one(5, 10, 4, 2), one(5, -most, 0, 0), one(-most, most, 4-most, 4+most)}},
		{people.Mirror(l, -1), []api.Passenger{one(5, 10, -2, -4), one(5, -most, -6, -6), one(-most, most, -2-most, -2+most)}},
		{people.Back(l), []api.Passenger{one(5, 10, 2, 0), one(5, -most, 4, 4), one(-most, most, -most, most)}},
		{people.Later(nil, 5), nil}, {people.Mirror(nil, 5), nil}, {people.Back(nil), nil}, {people.Within(nil, api.Span{To: 5}), nil},
		{people.Within(l, api.Span{From: -most, To: most}), []api.Passenger{one(0, 10, 0, 2), one(1, -most, 4, 4)}},
		{people.Within(l, api.Span{From: -most + 1, To: most + 1}), []api.Passenger{one(0, 10, 0, 2), one(1, most, most, -most)}},
		{people.Within(l, api.Span{From: 10, To: 11}), []api.Passenger{one(0, 10, 0, 2)}}, {people.Within(l, api.Span{From: 10, To: 10}), nil}, {people.Within(l, api.Span{From: 11, To: 9}), nil}, {people.Within(l, api.Span{From: 9, To: 10}), nil},
	} {
		if !slices.Equal(c.got, c.want) {
			t.Errorf("%v; want %v", c.got, c.want)
		}
	}
}

// P62.2
func TestUp(t *testing.T) {
	for _, c := range []struct {
		l        []api.Passenger
		up, down int
	}{
		{nil, 0, 0}, {[]api.Passenger{one(0, 0, 0, 1)}, 1, 0}, {[]api.Passenger{one(0, 0, 1, 0)}, 0, 1}, {[]api.Passenger{one(0, 0, 1, 1)}, 0, 1}, {[]api.Passenger{one(0, 0, -most, most), one(0, 0, 3, 4), one(0, 0, 4, 3), one(0, 0, 3, 3), one(0, 0, 8, 9)}, 3, 2},
	} {
		if up, down := people.Up(c.l); up != c.up || down != c.down {
			t.Errorf("Up(%v): %d, %d", c.l, up, down)
		}
	}
}

// drawn: a row that is right.
func drawn(r *rand.Rand, floors int) []api.Passenger {
	var l []api.Passenger
	tick := 0
	for i := range r.IntN(8) {
		tick += r.IntN(3)
		from := r.IntN(floors)
		l = append(l, one(i, tick, from, (from+1+r.IntN(floors-1))%floors))
	}
	return l
}

// P62.3
func TestFollows(t *testing.T) {
	for seed := range uint64(3000) {
		r := rand.New(rand.NewPCG(seed, 62))
		floors := 2 + r.IntN(5)
		a, b := drawn(r, floors), drawn(r, floors)
		s := api.Span{From: r.IntN(10) - 2, To: r.IntN(14)}
		merged := people.Merge(a, b)
		for _, l := range [][]api.Passenger{merged, people.Mirror(a, floors), people.Back(a), people.Within(a, s), people.Within(merged, s)} {
			if !people.Right(l, floors) {
				t.Fatalf("of %v, %v, %d, %v: %v", a, b, floors, s, l)
			}
		}
		if got := people.Mirror(people.Mirror(a, floors), floors); !slices.Equal(got, a) {
			t.Fatalf("Mirror twice of %v: %v", a, got)
		}
		if got := people.Back(people.Back(a)); !slices.Equal(got, a) {
			t.Fatalf("Back twice of %v: %v", a, got)
		}
		// Merged, all of both are there: those of a tick of the first row ahead.
		if len(merged) != len(a)+len(b) {
			t.Fatal(merged)
		}
		var want []api.Passenger
		for tick := range 30 {
			want = append(want, people.Within(a, api.Span{From: tick, To: tick + 1})...)
			want = append(want, people.Within(b, api.Span{From: tick, To: tick + 1})...)
		}
		for i := range want {
			want[i].Id = i
		}
		if !slices.Equal(merged, want) {
			t.Fatalf("Merge(%v, %v): %v; want %v", a, b, merged, want)
		}
	}
}

// Rule 5: what is handed in isn't changed, and what is answered is new.
func TestNew(t *testing.T) {
	a := []api.Passenger{one(3, 1, 0, 1), one(3, 2, 1, 0)}
	b := []api.Passenger{one(9, 2, 0, 1)}
	wasA, wasB := slices.Clone(a), slices.Clone(b)
	for _, l := range [][]api.Passenger{people.Merge(a, b), people.Merge(a, nil), people.Merge(nil, a), people.Later(a, 0), people.Mirror(a, 1), people.Back(a), people.Within(a, api.Span{From: 0, To: 9})} {
		if !slices.Equal(a, wasA) || !slices.Equal(b, wasB) {
			t.Fatal(a, b)
		}
		clear(l)
		clear(l[:cap(l)])
		if !slices.Equal(a, wasA) || !slices.Equal(b, wasB) {
			t.Fatal(a, b)
		}
	}
}
