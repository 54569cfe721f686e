package parse_test

import (
	"math/rand/v2"
	"reflect"
	"slices"
	"strconv"
	"strings"
	"testing"

	"hoistway/api"
	"hoistway/lexer"
	"hoistway/parse"
	"hoistway/vet"
)

// P26.1
func TestNames(t *testing.T) {
	if got := parse.Lines(); !slices.Equal(got, []string{"building", "cars", "doors", "traffic", "dispatcher", "horizon", "bins"}) {
		t.Error(got)
	}
	for word, want := range map[string]string{
		"building": "floors gap", "cars": "cars capacity", "doors": "open dwell close transfer", "traffic": "ticks rate", "horizon": "horizon", "bins": "bins width",
		"dispatcher": "", "": "", "floors": "", "car": "", "carss": "", "Cars": "", " cars": "", "cars ": "", "uppeak": "", "collective": "", "1": "",
	} {
		got := parse.Names(word)
		if !slices.Equal(got, strings.Fields(want)) || want == "" && got != nil {
			t.Errorf("Names(%q): %v; want %q", word, got, want)
		}
	}
}

// P26.1
func TestWords(t *testing.T) {
	for word, want := range map[string]api.Template{
		"uppeak": api.UpPeak, "lunch": api.Lunch, "downpeak": api.DownPeak, "interfloor": api.Interfloor,
		"": 0, "peak": 0, "Lunch": 0, "lunch ": 0, "collective": 0, "1": 0, "traffic": 0,
	} {
		if got := parse.Template(word); got != want {
			t.Errorf("Template(%q): %d; want %d", word, got, want)
		}
	}
	for word, want := range map[string]api.Dispatcher{
		"collective": api.Collective, "sectors": api.Sectors, "soonest": api.Soonest, "destination": api.Destination,
		"": 0, "sector": 0, "Soonest": 0, " soonest": 0, "uppeak": 0, "1": 0, "dispatcher": 0,
	} {
		if got := parse.Dispatcher(word); got != want {
			t.Errorf("Dispatcher(%q): %d; want %d", word, got, want)
		}
	}
}

// Rule 5: what is answered is new.
func TestNew(t *testing.T) {
	for _, word := range parse.Lines() {
		if l := parse.Names(word); l != nil {
			want := slices.Clone(l)
			clear(l)
			if got := parse.Names(word); !slices.Equal(got, want) {
				t.Errorf("Names(%q): %v", word, got)
			}
		}
	}
	clear(parse.Lines())
	if got := parse.Lines(); got[0] != "building" {
		t.Error(got)
	}
	a, _ := parse.Text(whole())
	a.Segments[0] = api.Segment{}
	if b, _ := parse.Text(whole()); b.Segments[0] != (api.Segment{Kind: api.UpPeak, Ticks: 20, Rate: 0}) {
		t.Error(b)
	}
}

func lines() []string {
	return []string{"building 5 2", "cars 2 3", "doors 2 3 4 1", "traffic uppeak 20 0", "dispatcher soonest", "horizon 90", "bins 4 5"}
}

func whole() string { return strings.Join(lines(), "\n") + "\n" }

func wanted() api.Scenario {
	return api.Scenario{
		Floors: 5, Gap: 2, Cars: 2, Capacity: 3, Open: 2, Dwell: 3, Close: 4, Transfer: 1,
		Segments:   []api.Segment{{Kind: api.UpPeak, Ticks: 20, Rate: 0}},
		Dispatcher: api.Soonest, Horizon: 90, Bins: 4, Width: 5,
	}
}

// read: does a text tell a scenario?
func read(t *testing.T, s string, want api.Scenario) {
	t.Helper()
	if got, bad := parse.Text(s); bad != (api.Problem{}) || !reflect.DeepEqual(got, want) {
		t.Errorf("Text(%q): %v, %v; want %v", s, got, bad, want)
	}
}

// wrong: is this wrong with a text, and there?
func wrong(t *testing.T, s string, code api.Errno, line, col int) {
	t.Helper()
	if got, bad := parse.Text(s); bad != (api.Problem{Code: code, Line: line, Col: col}) || !reflect.DeepEqual(got, api.Scenario{}) {
		t.Errorf("Text(%q): %v, %v; want %d at %d, %d", s, got, bad, int(code), line, col)
	}
}

// P26.2
func TestText(t *testing.T) {
	read(t, whole(), wanted())
	read(t, strings.TrimSuffix(whole(), "\n"), wanted())
	read(t, "# a house\n\n"+strings.ReplaceAll(whole(), "\n", " # so\r\n \t\n\n"), wanted())
	read(t, strings.ReplaceAll(whole(), " ", "\t  "), wanted())
	// Tokens needn't have blanks between.
	read(t, strings.ReplaceAll(strings.ReplaceAll(whole(), "building 5", "building5"), "uppeak 20", "uppeak20"), wanted())
	for seed := range uint64(100) {
		l := lines()
		rand.New(rand.NewPCG(seed, 26)).Shuffle(len(l), func(i, k int) { l[i], l[k] = l[k], l[i] })
		read(t, strings.Join(l, "\n"), wanted())
	}
}

// P26.2: up to MaxSegments lines of traffic, in order, wherever they stand.
func TestTraffic(t *testing.T) {
	l, want := lines(), wanted()
	words := []string{"lunch", "downpeak", "interfloor", "uppeak", "lunch", "uppeak", "interfloor"}
	kinds := []api.Template{2, 3, 4, 1, 2, 1, 4}
	for i, word := range words {
		l = append(l, "traffic "+word+" "+strconv.Itoa(i+1)+" "+strconv.Itoa(4000-i))
		want.Segments = append(want.Segments, api.Segment{Kind: kinds[i], Ticks: i + 1, Rate: 4000 - i})
		read(t, strings.Join(l, "\n"), want)
	}
	ahead := append(slices.Clone(l[7:]), l[:7]...)
	want.Segments = append(slices.Clone(want.Segments[1:]), want.Segments[0])
	read(t, strings.Join(ahead, "\n"), want)
	for _, ninth := range []string{"traffic uppeak 1 1", " traffic", "traffic 1 1", "traffic uppeak 0 1", "traffic uppeak 1 1 1"} {
		col := 1 + len(ninth) - len(strings.TrimSpace(ninth))
		wrong(t, strings.Join(append(l, ninth), "\n"), api.ErrSize, 15, col)
	}
}

// P26.2: each dispatcher, each number at its bounds, and one past them.
func TestBounds(t *testing.T) {
	for word, d := range map[string]api.Dispatcher{"collective": 1, "sectors": 2, "soonest": 3, "destination": 4} {
		want := wanted()
		want.Dispatcher = d
		read(t, strings.ReplaceAll(whole(), "soonest", word), want)
	}
	s := wanted()
	for _, c := range []struct {
		line            int
		before, behind  string
		at              *int
		least, greatest int
	}{
		{0, "building ", " 2", &s.Floors, 2, 128}, {0, "building 5 ", "", &s.Gap, 1, 16},
		{1, "cars ", " 3", &s.Cars, 1, 16}, {1, "cars 2 ", "", &s.Capacity, 1, 64},
		{2, "doors ", " 3 4 1", &s.Open, 1, 64}, {2, "doors 2 ", " 4 1", &s.Dwell, 1, 64}, {2, "doors 2 3 ", " 1", &s.Close, 1, 64}, {2, "doors 2 3 4 ", "", &s.Transfer, 1, 64},
		{3, "traffic uppeak ", " 0", &s.Segments[0].Ticks, 1, 1 << 20}, {3, "traffic uppeak 20 ", "", &s.Segments[0].Rate, 0, 4000},
		{5, "horizon ", "", &s.Horizon, 1, 1 << 20}, {6, "bins ", " 5", &s.Bins, 1, 64}, {6, "bins 4 ", "", &s.Width, 1, 4096},
	} {
		was := *c.at
		for _, n := range []int{c.least, c.greatest, c.least - 1, c.greatest + 1, 1 << 30} {
			if n < 0 {
				continue
			}
			l := lines()
			l[c.line] = c.before + strconv.Itoa(n) + c.behind
			if n < c.least || n > c.greatest {
				wrong(t, strings.Join(l, "\n"), api.ErrBound, c.line+1, len(c.before)+1)
				continue
			}
			*c.at = n
			read(t, strings.Join(l, "\n"), s)
		}
		*c.at = was
	}
}

// P26.2: what is wrong, the first of it.
func TestWrong(t *testing.T) {
	// The lexer's comes ahead of all else, wherever it is.
	wrong(t, "cars 2\n\n -", api.ErrByte, 3, 2)
	wrong(t, "nothing\n01", api.ErrNum, 2, 1)
	wrong(t, strings.Repeat("\n", api.MaxText)+"x", api.ErrSize, 1, 1)
	wrong(t, "cars 2 3 é", api.ErrByte, 1, 10)
	// The first token.
	wrong(t, "x", api.ErrWord, 1, 1)
	wrong(t, "\n # 1\n  2 cars", api.ErrWord, 3, 3)
	wrong(t, "uppeak 1 1", api.ErrWord, 1, 1)
	wrong(t, "cars 2 3\ncar 2 3", api.ErrWord, 2, 1)
	wrong(t, "floors 2", api.ErrWord, 1, 1)
	wrong(t, "dispatchers soonest", api.ErrWord, 1, 1)
	wrong(t, "7", api.ErrWord, 1, 1)
	wrong(t, "0 0", api.ErrWord, 1, 1)
	// Twice: at the first token, whatever comes behind it.
	for i, l := range lines() {
		if i == 3 {
			continue
		}
		for _, twice := range []string{l, "\t" + l, strings.Fields(l)[0], strings.Fields(l)[0] + " x", l + " 1"} {
			col := 1 + strings.Count(twice, "\t")
			wrong(t, whole()+twice, api.ErrTwice, 8, col)
			wrong(t, l+"\n"+twice+"\nx", api.ErrTwice, 2, col)
		}
	}
	// A line that ends too early, at its end.
	wrong(t, "cars 2", api.ErrCount, 1, 7)
	wrong(t, "cars 2\nx", api.ErrCount, 1, 7)
	wrong(t, "cars", api.ErrCount, 1, 5)
	wrong(t, "cars # 2 3\n", api.ErrCount, 1, 11)
	wrong(t, "cars 2  \t\r\n3", api.ErrCount, 1, 11)
	wrong(t, "\nbuilding 2", api.ErrCount, 2, 11)
	wrong(t, "building", api.ErrCount, 1, 9)
	wrong(t, "doors", api.ErrCount, 1, 6)
	wrong(t, "doors 1", api.ErrCount, 1, 8)
	wrong(t, "doors 1 1", api.ErrCount, 1, 10)
	wrong(t, "doors 1 1 1", api.ErrCount, 1, 12)
	wrong(t, "traffic", api.ErrCount, 1, 8)
	wrong(t, "traffic lunch", api.ErrCount, 1, 14)
	wrong(t, "traffic lunch 1", api.ErrCount, 1, 16)
	wrong(t, "dispatcher", api.ErrCount, 1, 11)
	wrong(t, "horizon\n5", api.ErrCount, 1, 8)
	wrong(t, "bins 1\n", api.ErrCount, 1, 7)
	// A number where a word is to be, or the other way round, or no such word.
	wrong(t, "traffic 1 1", api.ErrWord, 1, 9)
	wrong(t, "traffic 20 1 1", api.ErrWord, 1, 9)
	wrong(t, "traffic up 1 1", api.ErrWord, 1, 9)
	wrong(t, "traffic soonest 1 1", api.ErrWord, 1, 9)
	wrong(t, "traffic traffic 1 1", api.ErrWord, 1, 9)
	wrong(t, "traffic lunch lunch 1", api.ErrWord, 1, 15)
	wrong(t, "traffic lunch 1 lunch", api.ErrWord, 1, 17)
	wrong(t, "dispatcher 1", api.ErrWord, 1, 12)
	wrong(t, "dispatcher lunch", api.ErrWord, 1, 12)
	wrong(t, "dispatcher near 1", api.ErrWord, 1, 12)
	wrong(t, "cars x 3", api.ErrWord, 1, 6)
	wrong(t, "cars 2 x", api.ErrWord, 1, 8)
	wrong(t, "building building 2", api.ErrWord, 1, 10)
	wrong(t, "horizon x", api.ErrWord, 1, 9)
	// The first token at which something is wrong, of a line, and of several.
	wrong(t, "cars 0 x", api.ErrBound, 1, 6)
	wrong(t, "cars x 0", api.ErrWord, 1, 6)
	wrong(t, "cars 0", api.ErrBound, 1, 6)
	wrong(t, "cars 1 0 1", api.ErrBound, 1, 8)
	wrong(t, "cars 1 x 1", api.ErrWord, 1, 8)
	wrong(t, "traffic lunch 0 4001", api.ErrBound, 1, 15)
	wrong(t, "traffic lunch 1 4001 1", api.ErrBound, 1, 17)
	wrong(t, "cars 17 1\nx", api.ErrBound, 1, 6)
	wrong(t, "x\ncars 17 1", api.ErrWord, 1, 1)
	// A token too many: the first one.
	wrong(t, "cars 2 3 4", api.ErrCount, 1, 10)
	wrong(t, "cars 2 3 x 4\nx", api.ErrCount, 1, 10)
	wrong(t, "cars 2 3 0", api.ErrCount, 1, 10)
	wrong(t, "dispatcher soonest soonest", api.ErrCount, 1, 20)
	wrong(t, "traffic lunch 1 1 1", api.ErrCount, 1, 19)
	wrong(t, whole()+"horizon", api.ErrTwice, 8, 1)
}

// P26.2: a line isn't there: at the last token.
func TestLack(t *testing.T) {
	wrong(t, "", api.ErrLack, 1, 1)
	wrong(t, "\n\n", api.ErrLack, 2, 1)
	wrong(t, "# cars", api.ErrLack, 1, 7)
	wrong(t, "cars 2 3", api.ErrLack, 1, 9)
	wrong(t, "cars 2 3\n", api.ErrLack, 1, 9)
	wrong(t, "cars 2 3\n\n  ", api.ErrLack, 2, 1)
	for i := range lines() {
		l := slices.Delete(lines(), i, i+1)
		wrong(t, strings.Join(l, "\n"), api.ErrLack, 6, len(l[5])+1)
		wrong(t, strings.Join(l, "\n")+" \n#", api.ErrLack, 6, len(l[5])+2)
		wrong(t, strings.Join(l, "\n")+"\nx", api.ErrWord, 7, 1)
	}
}

// forms: what lines have, by their first words: w a template's word, d a dispatcher's, else a number's name.
func forms() map[string]string {
	return map[string]string{
		"building": "floors gap", "cars": "cars capacity", "doors": "open dwell close transfer", "traffic": "w ticks rate", "dispatcher": "d", "horizon": "horizon", "bins": "bins width",
	}
}

// plainToken: what is wrong with a token, by the document's words.
func plainToken(token api.Token, field string) api.Errno {
	word := func(of string, l ...string) api.Errno {
		if token.Kind != api.TokenWord || !slices.Contains(l, of) {
			return api.ErrWord
		}
		return api.OK
	}
	switch {
	case token.Kind == api.TokenEnd:
		return api.ErrCount
	case field == "w":
		return word(token.Text, "uppeak", "lunch", "downpeak", "interfloor")
	case field == "d":
		return word(token.Text, "collective", "sectors", "soonest", "destination")
	case token.Kind != api.TokenNum:
		return api.ErrWord
	case !vet.In(field, token.Num):
		return api.ErrBound
	}
	return api.OK
}

// plainLine: what is wrong with a line of tokens (the last one its end), by the document's words.
func plainLine(l []api.Token, many map[string]int) (api.Errno, api.Token) {
	first := l[0]
	form, ok := forms()[first.Text]
	switch {
	case !ok:
		return api.ErrWord, first
	case first.Text != "traffic" && many[first.Text] > 0:
		return api.ErrTwice, first
	case many[first.Text] >= 8:
		return api.ErrSize, first
	}
	many[first.Text]++
	fields := strings.Fields(form)
	for i, field := range fields {
		if e := plainToken(l[1+i], field); e != api.OK {
			return e, l[1+i]
		}
	}
	if len(l) > len(fields)+2 {
		return api.ErrCount, l[len(fields)+1]
	}
	return api.OK, api.Token{}
}

// plain: what is wrong with a text, by the document's words.
func plain(s string) api.Problem {
	tokens, bad := lexer.Scan(s)
	if bad != (api.Problem{}) {
		return bad
	}
	many := map[string]int{}
	var line []api.Token
	for _, token := range tokens {
		line = append(line, token)
		if token.Kind != api.TokenEnd {
			continue
		}
		if len(line) > 1 {
			if e, at := plainLine(line, many); e != api.OK {
				return api.Problem{Code: e, Line: at.Line, Col: at.Col}
			}
		}
		line = nil
	}
	if len(many) < 7 {
		last := tokens[len(tokens)-1]
		return api.Problem{Code: api.ErrLack, Line: last.Line, Col: last.Col}
	}
	return api.Problem{}
}

// P26.2: texts with a few pieces put in, left out, changed.
func TestMixed(t *testing.T) {
	pieces := []string{" ", "\n", "\n", "0", "1", "9", "17", " 2 ", "cars", " bins ", "lunch", "sectors", "traffic uppeak 5 5\n", "\ntraffic lunch 1 1", "#", "-", "horizon 5\n", "x"}
	fine, codes := 0, map[api.Errno]int{}
	for seed := range uint64(30000) {
		r := rand.New(rand.NewPCG(seed, 26))
		s := whole()
		for range r.IntN(4) {
			at := r.IntN(len(s) + 1)
			upTo := min(len(s), at+r.IntN(4)*r.IntN(8))
			s = s[:at] + pieces[r.IntN(len(pieces))] + s[upTo:]
		}
		got, bad := parse.Text(s)
		if want := plain(s); bad != want {
			t.Fatalf("Text(%q): %v; want %v", s, bad, want)
		}
		codes[bad.Code]++
		if bad.Code == api.OK {
			fine++
			if e := vet.Check(got); e != api.OK {
				t.Fatalf("Text(%q): %v, which may not be: %d", s, got, int(e))
			}
		} else if !reflect.DeepEqual(got, api.Scenario{}) {
			t.Fatalf("Text(%q): %v beside %v", s, got, bad)
		}
	}
	if fine < 1000 || len(codes) < 8 {
		t.Error(fine, codes)
	}
}
