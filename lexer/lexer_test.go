package lexer_test

import (
	"math"
	"math/rand/v2"
	"slices"
	"strconv"
	"strings"
	"testing"

	"hoistway/api"
	"hoistway/lexer"
)

// P19.1
func TestBytes(t *testing.T) {
	for n := range 256 {
		c := byte(n)
		if got := lexer.Letter(c); got != strings.Contains("abcdefghijklmnopqrstuvwxyz", string(rune(c))) {
			t.Errorf("Letter(%d): %v", c, got)
		}
		if got := lexer.Digit(c); got != strings.Contains("0123456789", string(rune(c))) {
			t.Errorf("Digit(%d): %v", c, got)
		}
		if got := lexer.Blank(c); got != (n == 32 || n == 9 || n == 13) {
			t.Errorf("Blank(%d): %v", c, got)
		}
	}
}

func word(text string, line, col int) api.Token {
	return api.Token{Kind: api.TokenWord, Text: text, Line: line, Col: col}
}

func number(text string, line, col int) api.Token {
	n, err := strconv.Atoi(text)
	if err != nil {
		panic(err)
	}
	return api.Token{Kind: api.TokenNum, Text: text, Num: n, Line: line, Col: col}
}

func end(line, col int) api.Token { return api.Token{Kind: api.TokenEnd, Line: line, Col: col} }

// P19.2
func TestScan(t *testing.T) {
	if lexer.Most != 1073741824 {
		t.Error(lexer.Most)
	}
	for _, c := range []struct {
		s    string
		want []api.Token
	}{
		{"cars 2", []api.Token{word("cars", 1, 1), number("2", 1, 6), end(1, 7)}},
		{"cars 2\n", []api.Token{word("cars", 1, 1), number("2", 1, 6), end(1, 7)}},
		{"", []api.Token{end(1, 1)}}, {"\n", []api.Token{end(1, 1)}}, {"\n\n", []api.Token{end(1, 1), end(2, 1)}}, {" ", []api.Token{end(1, 2)}}, {"\t\r ", []api.Token{end(1, 4)}},
		// Behind a last line's end there is no further one, whatever counts for nothing there.
		{"\n ", []api.Token{end(1, 1)}}, {"\n\r\t #x", []api.Token{end(1, 1)}}, {"a\n#", []api.Token{word("a", 1, 1), end(1, 2)}}, {"a\n\n  ", []api.Token{word("a", 1, 1), end(1, 2), end(2, 1)}},
		{"#", []api.Token{end(1, 2)}}, {"# cars 2 Ä\x00-", []api.Token{end(1, 14)}}, {"#\n", []api.Token{end(1, 2)}}, {"a#b\nc", []api.Token{word("a", 1, 1), end(1, 4), word("c", 2, 1), end(2, 2)}}, {"1 # 2\n # 3\n4#", []api.Token{number("1", 1, 1), end(1, 6), end(2, 5), number("4", 3, 1), end(3, 3)}}, {"##\n#\na", []api.Token{end(1, 3), end(2, 2), word("a", 3, 1), end(3, 2)}},
		// Words end where there is no letter, numbers where there is no digit.
		{"ab12cd", []api.Token{word("ab", 1, 1), number("12", 1, 3), word("cd", 1, 5), end(1, 7)}}, {"12ab", []api.Token{number("12", 1, 1), word("ab", 1, 3), end(1, 5)}}, {"0a0", []api.Token{number("0", 1, 1), word("a", 1, 2), number("0", 1, 3), end(1, 4)}}, {"a b", []api.Token{word("a", 1, 1), word("b", 1, 3), end(1, 4)}}, {"1 2", []api.Token{number("1", 1, 1), number("2", 1, 3), end(1, 4)}},
		{" a\t1\r\n\tzz\r", []api.Token{word("a", 1, 2), number("1", 1, 4), end(1, 6), word("zz", 2, 2), end(2, 5)}},
		{"0", []api.Token{number("0", 1, 1), end(1, 2)}}, {"0 0", []api.Token{number("0", 1, 1), number("0", 1, 3), end(1, 4)}}, {"10 900", []api.Token{number("10", 1, 1), number("900", 1, 4), end(1, 7)}}, {"1073741824", []api.Token{number("1073741824", 1, 1), end(1, 11)}}, {"1073741823", []api.Token{number("1073741823", 1, 1), end(1, 11)}},
		{"abcdefghijklmnopqrstuvwxyz 1234567890", nil},
	} {
		got, bad := lexer.Scan(c.s)
		if c.want == nil {
			if len(got) != 0 || bad != (api.Problem{Code: api.ErrNum, Line: 1, Col: 28}) {
				t.Errorf("Scan(%q): %v, %v", c.s, got, bad)
			}
			continue
		}
		if bad != (api.Problem{}) || !slices.Equal(got, c.want) {
			t.Errorf("Scan(%q): %v, %v; want %v", c.s, got, bad, c.want)
		}
	}
}

// P19.2: what is wrong, the first of it.
func TestScanWrong(t *testing.T) {
	for _, c := range []struct {
		s    string
		want api.Problem
	}{
		{"cars\n 01", api.Problem{Code: api.ErrNum, Line: 2, Col: 2}},
		{"00", api.Problem{Code: api.ErrNum, Line: 1, Col: 1}}, {"a00", api.Problem{Code: api.ErrNum, Line: 1, Col: 2}}, {"1 00 #", api.Problem{Code: api.ErrNum, Line: 1, Col: 3}}, {"01a", api.Problem{Code: api.ErrNum, Line: 1, Col: 1}},
		{"1073741825", api.Problem{Code: api.ErrNum, Line: 1, Col: 1}}, {"2147483648", api.Problem{Code: api.ErrNum, Line: 1, Col: 1}}, {"x 10737418240\n", api.Problem{Code: api.ErrNum, Line: 1, Col: 3}}, {"18446744073709551616", api.Problem{Code: api.ErrNum, Line: 1, Col: 1}}, {"18446744073709551617", api.Problem{Code: api.ErrNum, Line: 1, Col: 1}}, {"\n" + strings.Repeat("9", 5000), api.Problem{Code: api.ErrNum, Line: 2, Col: 1}}, {"4294967296" + strings.Repeat("0", 300), api.Problem{Code: api.ErrNum, Line: 1, Col: 1}},
		{"-1", api.Problem{Code: api.ErrByte, Line: 1, Col: 1}}, {"a\n b C", api.Problem{Code: api.ErrByte, Line: 2, Col: 4}}, {"carS", api.Problem{Code: api.ErrByte, Line: 1, Col: 4}}, {"1.5", api.Problem{Code: api.ErrByte, Line: 1, Col: 2}}, {"a\x00", api.Problem{Code: api.ErrByte, Line: 1, Col: 2}}, {"aé", api.Problem{Code: api.ErrByte, Line: 1, Col: 2}}, {"\u00a0", api.Problem{Code: api.ErrByte, Line: 1, Col: 1}}, {"\n\n\v", api.Problem{Code: api.ErrByte, Line: 3, Col: 1}}, {"# é\n\té", api.Problem{Code: api.ErrByte, Line: 2, Col: 2}},
		// The first of several, of one line and of two.
		{"- 01", api.Problem{Code: api.ErrByte, Line: 1, Col: 1}}, {"01 -", api.Problem{Code: api.ErrNum, Line: 1, Col: 1}}, {"01-", api.Problem{Code: api.ErrNum, Line: 1, Col: 1}}, {"a 01\n-", api.Problem{Code: api.ErrNum, Line: 1, Col: 3}}, {"a -\n01", api.Problem{Code: api.ErrByte, Line: 1, Col: 3}}, {"-\n-", api.Problem{Code: api.ErrByte, Line: 1, Col: 1}},
	} {
		if got, bad := lexer.Scan(c.s); len(got) != 0 || bad != c.want {
			t.Errorf("Scan(%q): %v, %v; want %v", c.s, got, bad, c.want)
		}
	}
	// Of all bytes alone.
	for n := range 256 {
		c := byte(n)
		s := string([]byte{'a', ' ', c})
		fine := lexer.Letter(c) || lexer.Digit(c) || lexer.Blank(c) || c == '#' || c == '\n'
		got, bad := lexer.Scan(s)
		if want := (api.Problem{Code: api.ErrByte, Line: 1, Col: 3}); fine && bad != (api.Problem{}) || !fine && (bad != want || len(got) != 0) {
			t.Errorf("Scan(%q): %v, %v", s, got, bad)
		}
	}
}

// P19.2: ErrSize comes ahead of all else that is wrong.
func TestScanSize(t *testing.T) {
	most := strings.Repeat("a ", api.MaxText/2)
	if got, bad := lexer.Scan(most); bad != (api.Problem{}) || len(got) != api.MaxText/2+1 || got[len(got)-1] != end(1, api.MaxText+1) || got[len(got)-2] != word("a", 1, api.MaxText-1) {
		t.Errorf("Scan of MaxText bytes: %d, %v", len(got), bad)
	}
	if got, bad := lexer.Scan(strings.Repeat("\n", api.MaxText)); bad != (api.Problem{}) || len(got) != api.MaxText || got[len(got)-1] != end(api.MaxText, 1) {
		t.Errorf("Scan of MaxText lines: %d, %v", len(got), bad)
	}
	if got, bad := lexer.Scan(most[1:] + "-"); len(got) != 0 || bad != (api.Problem{Code: api.ErrByte, Line: 1, Col: api.MaxText}) {
		t.Errorf("Scan of MaxText bytes: %d, %v", len(got), bad)
	}
	size := api.Problem{Code: api.ErrSize, Line: 1, Col: 1}
	for _, s := range []string{most + " ", most + "-", "-" + most, "\n01" + most, "#" + most, strings.Repeat("\n", api.MaxText+1), strings.Repeat("é", api.MaxText), strings.Repeat(" ", 1<<20)} {
		if got, bad := lexer.Scan(s); len(got) != 0 || bad != size {
			t.Errorf("Scan of %d bytes: %d, %v", len(s), len(got), bad)
		}
	}
}

// plainPlace: by the document's words, byte by byte.
func plainPlace(s string, at int) (int, int) {
	line, col := 1, 1
	for i := 0; i < at && i < len(s); i++ {
		col++
		if s[i] == '\n' {
			line, col = line+1, 1
		}
	}
	return line, col
}

// plainScan: by the document's words, byte by byte.
func plainScan(s string) ([]api.Token, api.Problem) {
	var l []api.Token
	for i := 0; i < len(s); {
		line, col := plainPlace(s, i)
		k := i + 1
		switch c := s[i]; {
		case c == '\n':
			l = append(l, end(line, col))
		case c == '#':
			for k < len(s) && s[k] != '\n' {
				k++
			}
		case c >= 'a' && c <= 'z':
			for k < len(s) && s[k] >= 'a' && s[k] <= 'z' {
				k++
			}
			l = append(l, word(s[i:k], line, col))
		case c >= '0' && c <= '9':
			for k < len(s) && s[k] >= '0' && s[k] <= '9' {
				k++
			}
			n, err := strconv.ParseUint(s[i:k], 10, 62)
			if err != nil || n > 1<<30 || c == '0' && k > i+1 {
				return nil, api.Problem{Code: api.ErrNum, Line: line, Col: col}
			}
			l = append(l, number(s[i:k], line, col))
		case c != ' ' && c != 9 && c != 13:
			return nil, api.Problem{Code: api.ErrByte, Line: line, Col: col}
		}
		i = k
	}
	if len(l) == 0 || l[len(l)-1].Kind != api.TokenEnd {
		l = append(l, end(plainPlace(s, len(s))))
	}
	return l, api.Problem{}
}

// P19.2, P19.3: texts of few bytes, mixed.
func TestMixed(t *testing.T) {
	pieces := []string{"a", "zz", "0", "1", "12", "1073741824", "9", " ", "\t", "\r", "\n", "\n", "#", "-", "Z"}
	for seed := range uint64(20000) {
		r := rand.New(rand.NewPCG(seed, 19))
		s := ""
		few := 11 + r.IntN(len(pieces)-10)
		for range r.IntN(12) {
			s += pieces[r.IntN(few)]
		}
		got, bad := lexer.Scan(s)
		want, wrong := plainScan(s)
		if bad != wrong || !slices.Equal(got, want) {
			t.Fatalf("Scan(%q): %v, %v; want %v, %v", s, got, bad, want, wrong)
		}
		for at := -2; at <= len(s)+2; at++ {
			line, col := lexer.Place(s, at)
			if l, c := plainPlace(s, max(0, min(at, len(s)))); line != l || col != c {
				t.Fatalf("Place(%q, %d): %d, %d; want %d, %d", s, at, line, col, l, c)
			}
		}
	}
}

// P19.3
func TestPlace(t *testing.T) {
	long := strings.Repeat("é\n", 100000)
	for _, c := range []struct {
		s             string
		at, line, col int
	}{
		{"", 0, 1, 1}, {"", 5, 1, 1}, {"", -5, 1, 1}, {"cars 2", 0, 1, 1}, {"cars 2", 5, 1, 6}, {"cars 2", 6, 1, 7}, {"cars 2", 7, 1, 7}, {"cars 2", math.MaxInt, 1, 7}, {"cars 2", math.MinInt, 1, 1}, {"cars 2", -1, 1, 1},
		{"a\nb", 1, 1, 2}, {"a\nb", 2, 2, 1}, {"a\nb", 3, 2, 2}, {"\n", 0, 1, 1}, {"\n", 1, 2, 1}, {"\n\n", 1, 2, 1}, {"\n\n", 2, 3, 1}, {"a\n", 2, 2, 1}, {"\r\n\t#", 1, 1, 2}, {"\r\n\t#", 3, 2, 2}, {"éa", 2, 1, 3}, {"-\x00", 1, 1, 2},
		// Of texts that are too long to be scanned, too.
		{long, 3, 2, 1}, {long, 300000, 100001, 1}, {long, 299999, 100000, 3}, {long, math.MaxInt, 100001, 1},
	} {
		if line, col := lexer.Place(c.s, c.at); line != c.line || col != c.col {
			t.Errorf("Place(%.10q, %d): %d, %d; want %d, %d", c.s, c.at, line, col, c.line, c.col)
		}
	}
}

// Rule 5: what is answered is new.
func TestNew(t *testing.T) {
	a, _ := lexer.Scan("cars 2")
	b, _ := lexer.Scan("cars 2")
	a[0].Text, a[1].Num = "x", 7
	if !slices.Equal(b, []api.Token{word("cars", 1, 1), number("2", 1, 6), end(1, 7)}) {
		t.Error(b)
	}
}
