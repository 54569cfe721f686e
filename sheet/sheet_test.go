package sheet_test

import (
	"math"
	"math/rand/v2"
	"slices"
	"strconv"
	"strings"
	"testing"

	"hoistway/api"
	"hoistway/csv"
	"hoistway/sheet"
)

const head = "id,arrive,from,to,car,board,alight\n"

func trip(n ...int) api.Trip {
	return api.Trip{Id: n[0], Arrive: n[1], From: n[2], To: n[3], Car: n[4], Board: n[5], Alight: n[6]}
}

// P57.1
func TestText(t *testing.T) {
	if got := sheet.Head(); !slices.Equal(got, []string{"id", "arrive", "from", "to", "car", "board", "alight"}) {
		t.Error(got)
	}
	for _, c := range []struct {
		l    []api.Trip
		want string
	}{
		{nil, head}, {[]api.Trip{}, head}, {[]api.Trip{{}}, head + "0,0,0,0,0,0,0\n"},
		{[]api.Trip{trip(7, 12, 3, 0, 1, 20, 31), trip(8, 13, 0, 5, -1, -1, -1)}, head + "7,12,3,0,1,20,31\n8,13,0,5,\"\",\"\",\"\"\n"},
		{[]api.Trip{trip(1, 2, 3, 4, 5, 6, -1), trip(1, 2, 3, 4, 5, -1, 7), trip(1, 2, 3, 4, -1, 6, 7)}, head + "1,2,3,4,5,6,\"\"\n1,2,3,4,5,\"\",7\n1,2,3,4,\"\",6,7\n"},
		// The others' -1 is a number as any other.
		{[]api.Trip{trip(-1, -1, -1, -1, -1, -1, -1)}, head + "-1,-1,-1,-1,\"\",\"\",\"\"\n"},
		{[]api.Trip{trip(-2, -2, -2, -2, -2, -2, -2)}, head + "-2,-2,-2,-2,-2,-2,-2\n"},
		{[]api.Trip{trip(math.MinInt, math.MaxInt, math.MinInt, math.MaxInt, math.MinInt, math.MaxInt, math.MinInt)}, head + "-9223372036854775808,9223372036854775807,-9223372036854775808,9223372036854775807,-9223372036854775808,9223372036854775807,-9223372036854775808\n"},
	} {
		if got := sheet.Text(c.l); got != c.want {
			t.Errorf("Text(%v): %q; want %q", c.l, got, c.want)
		}
		if got, e := sheet.Read(c.want); e != api.OK || !slices.Equal(got, c.l) {
			t.Errorf("Read(%q): %v, %d; want %v", c.want, got, int(e), c.l)
		}
	}
}

// P57.2: of no trips.
func TestWrong(t *testing.T) {
	row := "7,12,3,0,1,20,31\n"
	for _, s := range []string{
		"", "\n", row, head + head, row + head, head + "\n", "\n" + head, head[:len(head)-1], head + row[:len(row)-1], head + row + "7", head + " " + row, " " + head, "Id" + head[2:], "id,arrive,from,to,car,board\n", "id,arrive,from,to,car,board,alight,id\n", "arrive,id,from,to,car,board,alight\n", "\"id\"" + head[2:], strings.ReplaceAll(head, "\n", "\r\n"), head + strings.ReplaceAll(row, "\n", "\r\n"),
		// Too few numbers, or too many.
		head + "7\n", head + "7,12,3,0,1,20\n", head + "7,12,3,0,1,20,31,1\n", head + "7,12,3,0,1,20,31,\"\"\n", head + "\"\"\n", head + row + "7,12,3,0,1,20\n",
		// A number that there must be, and is not, or in another form.
		head + "\"\",12,3,0,1,20,31\n", head + "7,\"\",3,0,1,20,31\n", head + "7,12,\"\",0,1,20,31\n", head + "7,12,3,\"\",1,20,31\n", head + "7,12,3,0,,20,31\n", head + "07,12,3,0,1,20,31\n", head + "7,+12,3,0,1,20,31\n", head + "7,12,-0,0,1,20,31\n", head + "7,12,3,x,1,20,31\n", head + "7,12,3,0, 1,20,31\n", head + "7,12,3,0,1,2 0,31\n", head + "7,12,3,0,1,20,31.\n", head + "\"7\",12,3,0,1,20,31\n", head + "7,12,3,0,1,20,\"31\"\n", head + "7,12,3,0,1,20,\"x\"\n", head + "7,12,3,0,1,x,31\n", head + "7,12,3,0,1,20,\",\"\n",
		// None is an empty text, and no -1.
		head + "7,12,3,0,-1,20,31\n", head + "7,12,3,0,1,-1,31\n", head + "7,12,3,0,1,20,-1\n", head + row + "7,12,3,0,-1,-1,-1\n",
		// No number any more.
		head + "9223372036854775808,12,3,0,1,20,31\n", head + "7,12,3,0,1,20,-9223372036854775809\n", head + "7,12,3,0,18446744073709551615,20,31\n", head + "7,12,3,0,1,18446744073709551616,31\n",
	} {
		if got, e := sheet.Read(s); len(got) != 0 || e != api.ErrForm {
			t.Errorf("Read(%q): %v, %d", s, got, int(e))
		}
	}
}

func someTrips(r *rand.Rand) []api.Trip {
	var l []api.Trip
	for range r.IntN(5) {
		var n []int
		for range 7 {
			n = append(n, []int{-1, -1, 0, r.IntN(200) - 100, r.Int(), -r.Int()}[r.IntN(6)])
		}
		l = append(l, trip(n...))
	}
	return l
}

// cells: by the document's words.
func cells(t api.Trip) []string {
	l := []string{strconv.Itoa(t.Id), strconv.Itoa(t.Arrive), strconv.Itoa(t.From), strconv.Itoa(t.To)}
	for _, n := range []int{t.Car, t.Board, t.Alight} {
		if n == -1 {
			l = append(l, "")
		} else {
			l = append(l, strconv.Itoa(n))
		}
	}
	return l
}

// P57.1, P57.2: there and back, and of texts with a byte changed just those that are of trips.
func TestMixed(t *testing.T) {
	for seed := range uint64(5000) {
		r := rand.New(rand.NewPCG(seed, 57))
		l := someTrips(r)
		rows := [][]string{sheet.Head()}
		for _, x := range l {
			rows = append(rows, cells(x))
		}
		s := sheet.Text(l)
		if s != csv.Text(rows) {
			t.Fatalf("Text(%v): %q", l, s)
		}
		if got, e := sheet.Read(s); e != api.OK || !slices.Equal(got, l) {
			t.Fatalf("Read(%q): %v, %d; want %v", s, got, int(e), l)
		}
		at := r.IntN(len(s))
		other := s[:at] + []string{"", "0", "1", "-", "\"\"", ",", "\n", "x"}[r.IntN(8)] + s[at+r.IntN(2):]
		if got, e := sheet.Read(other); e == api.OK && sheet.Text(got) != other || e != api.OK && (e != api.ErrForm || len(got) != 0) {
			t.Fatalf("Read(%q): %v, %d", other, got, int(e))
		}
	}
}

// Rule 5: what is answered is new.
func TestNew(t *testing.T) {
	clear(sheet.Head())
	if got := sheet.Text(nil); got != head {
		t.Errorf("%q", got)
	}
}
