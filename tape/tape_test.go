package tape_test

import (
	"math"
	"math/rand/v2"
	"slices"
	"testing"

	"hoistway/api"
	"hoistway/sample"
	"hoistway/tape"
)

// log is a log, and its bytes as P37.1 tells them.
var (
	log = api.Log{
		Used:  5,
		Trips: []api.Trip{{Id: 0, Arrive: 1, From: 2, To: 3, Car: 4, Board: 300, Alight: 64}, {Id: 1, Arrive: -2, Car: -1, Board: -1, Alight: -1}},
		Legs:  [][]api.Leg{{{Tick: 0, Pos: 7, Dir: -1, Door: true}, {Tick: 9, Pos: 6, Dir: 1}}, {}, {{}}},
	}
	bytes = []byte{
		0x4c, 10,
		2, 0, 2, 4, 6, 8, 216, 4, 128, 1, 2, 3, 0, 0, 1, 1, 1,
		3, 2, 0, 14, 1, 1, 18, 12, 2, 0, 0, 1, 0, 0, 0, 0,
	}
)

func same(a, b api.Log) bool {
	return a.Used == b.Used && slices.Equal(a.Trips, b.Trips) && slices.EqualFunc(a.Legs, b.Legs, slices.Equal[[]api.Leg])
}

// P37.1
func TestPut(t *testing.T) {
	if got := tape.Put(log); !slices.Equal(got, bytes) {
		t.Errorf("%v; want %v", got, bytes)
	}
	for _, l := range []api.Log{{}, {Trips: []api.Trip{}, Legs: [][]api.Leg{}}} {
		if got := tape.Put(l); !slices.Equal(got, []byte{76, 0, 0, 0}) {
			t.Error(got)
		}
	}
	if got := tape.Put(api.Log{Used: -1, Legs: [][]api.Leg{nil}}); !slices.Equal(got, []byte{76, 1, 0, 1, 0}) || tape.Mark != 0x4c {
		t.Error(got)
	}
	if got := tape.Put(api.Log{Used: math.MinInt}); !slices.Equal(got, []byte{76, 255, 255, 255, 255, 255, 255, 255, 255, 255, 1, 0, 0}) {
		t.Error(got)
	}
}

// P37.2
func TestRead(t *testing.T) {
	if got, e := tape.Read(bytes); e != api.OK || !same(got, log) {
		t.Errorf("%v, %v", got, e)
	}
	if got, e := tape.Read([]byte{76, 0, 0, 0}); e != api.OK || !same(got, api.Log{}) {
		t.Errorf("%v, %v", got, e)
	}
}

// refused: are bytes no log's?
func refused(t *testing.T, name string, b []byte) {
	t.Helper()
	if got, e := tape.Read(b); e != api.ErrForm || got.Used != 0 || len(got.Trips) != 0 || len(got.Legs) != 0 {
		t.Errorf("%s: %v, %v", name, got, e)
	}
}

// P37.2: bytes that are no log's.
func TestWrong(t *testing.T) {
	for n := range bytes {
		refused(t, "bytes that end too early", bytes[:n])
	}
	refused(t, "nil", nil)
	refused(t, "a byte more", append(slices.Clone(bytes), 0))
	refused(t, "another mark", []byte{77, 0, 0, 0})
	refused(t, "no mark", []byte{0, 0, 0})
	refused(t, "a door of 2", []byte{76, 0, 0, 1, 1, 0, 0, 0, 2})
	refused(t, "a number in more bytes than it needs", []byte{76, 128, 0, 0, 0})
	refused(t, "how many, in more bytes than it needs", []byte{76, 0, 128, 0, 0})
	refused(t, "more trips than there are", []byte{76, 0, 1, 0})
	refused(t, "more cars than there are", []byte{76, 0, 0, 2, 0})
	refused(t, "more legs than there are", []byte{76, 0, 0, 1, 1})
	refused(t, "a number that is too great", []byte{76, 255, 255, 255, 255, 255, 255, 255, 255, 255, 2, 0, 0})
	most := []byte{255, 255, 255, 255, 255, 255, 255, 255, 255, 1}
	refused(t, "as many trips as a number can tell", append([]byte{76, 0}, append(most, 0)...))
	refused(t, "as many cars as a number can tell", append([]byte{76, 0, 0}, most...))
	refused(t, "as many legs as a number can tell", append([]byte{76, 0, 0, 1}, most...))
}

// P37.2: of drawn logs, and of bytes that are near theirs.
func TestDrawn(t *testing.T) {
	for seed := range uint64(3000) {
		r := rand.New(rand.NewPCG(seed, 37))
		l := api.Log{Used: r.IntN(500) - 100, Trips: sample.Trips(r.IntN, r.IntN(9), 9, 3, 1000)}
		for range r.IntN(4) {
			l.Legs = append(l.Legs, sample.Legs(r.IntN, r.IntN(9), 0, 200))
		}
		b := tape.Put(l)
		if got, e := tape.Read(b); e != api.OK || !same(got, l) {
			t.Fatalf("Read of Put of %v: %v, %v", l, got, e)
		}
		for range 20 {
			near := slices.Clone(b)
			near[r.IntN(len(near))] = byte(r.IntN(256))
			if r.IntN(3) == 0 {
				near = slices.Delete(near, 0, r.IntN(2))
			}
			got, e := tape.Read(near)
			if e == api.OK && !slices.Equal(tape.Put(got), near) {
				t.Fatalf("Read of %v: %v, whose Put is %v", near, got, tape.Put(got))
			}
			if e != api.OK {
				refused(t, "drawn", near)
			}
		}
	}
}

// Rule 5: what is handed in isn't changed, and what is answered is new.
func TestNew(t *testing.T) {
	b := slices.Clone(bytes)
	first, _ := tape.Read(b)
	if !slices.Equal(b, bytes) {
		t.Error("Read changed its bytes")
	}
	clear(b)
	second, _ := tape.Read(bytes)
	first.Trips[0].Id = 99
	first.Legs[0][0].Tick = 99
	if !same(second, log) {
		t.Error("what Read answered is shared")
	}
}
