package csv_test

import (
	"slices"
	"strings"
	"testing"

	"hoistway/api"
	"hoistway/csv"
)

func equal(a, b [][]string) bool { return slices.EqualFunc(a, b, slices.Equal[[]string]) }

// cells: texts, and how they stand in a row.
func cells() map[string]string {
	return map[string]string{
		"a": "a", "abc def": "abc def", " ": " ", "\t": "\t", "-1": "-1", "n/a": "n/a", ";": ";", "'": "'", "ä日本": "ä日本", "\xff\xfe": "\xff\xfe", "\x00": "\x00", "a\x0bb": "a\x0bb", "\u2028": "\u2028", "\ufffd": "\ufffd", "\\": "\\",
		"": `""`, ",": `","`, "x,y": `"x,y"`, `"`: `""""`, `""`: `""""""`, `a"b`: `"a""b"`, `"a"`: `"""a"""`, "\n": "\"\n\"", "\r": "\"\r\"", "a\r\nb": "\"a\r\nb\"", "a\rb": "\"a\rb\"", `,"`: `","""`,
		"\xe2,": "\"\xe2,\"", "\xff\"": "\"\xff\"\"\"", "日\n": "\"日\n\"", "a,": `"a,"`, ",a": `",a"`, `"",""`: `""""","""""`, "end\n": "\"end\n\"",
	}
}

// P53.1
func TestCell(t *testing.T) {
	for s, want := range cells() {
		if got := csv.Cell(s); got != want {
			t.Errorf("Cell(%q): %q; want %q", s, got, want)
		}
	}
	// Of all single bytes just four are quoted.
	for c := range 256 {
		s := string([]byte{byte(c)})
		want := s
		switch s {
		case `"`:
			want = `""""`
		case ",", "\n", "\r":
			want = `"` + s + `"`
		}
		if got := csv.Cell(s); got != want {
			t.Errorf("Cell(%q): %q", s, got)
		}
	}
}

// P53.1
func TestRow(t *testing.T) {
	for _, c := range []struct {
		l    []string
		want string
	}{
		{[]string{"a", "x,y"}, "a,\"x,y\"\n"}, {[]string{"a"}, "a\n"}, {[]string{""}, "\"\"\n"}, {[]string{"", ""}, "\"\",\"\"\n"}, {nil, "\n"}, {[]string{}, "\n"}, {[]string{"a", "b", "c d"}, "a,b,c d\n"}, {[]string{`q"`, "\n"}, "\"q\"\"\",\"\n\"\n"},
	} {
		as := slices.Clone(c.l)
		if got := csv.Row(c.l...); got != c.want || !slices.Equal(c.l, as) {
			t.Errorf("Row(%q): %q; want %q", as, got, c.want)
		}
	}
}

// P53.1
func TestText(t *testing.T) {
	for _, c := range []struct {
		rows [][]string
		want string
	}{
		{nil, ""}, {[][]string{}, ""}, {[][]string{{"a", "b"}}, "a,b\n"}, {[][]string{{"a", "b"}, {"c"}, {""}}, "a,b\nc\n\"\"\n"}, {[][]string{{}, {"a"}, nil}, "\na\n\n"}, {[][]string{{"a\nb", ","}, {"x"}}, "\"a\nb\",\",\"\nx\n"},
	} {
		if got := csv.Text(c.rows); got != c.want {
			t.Errorf("Text(%q): %q; want %q", c.rows, got, c.want)
		}
	}
}

// P53.2
func TestRead(t *testing.T) {
	for _, c := range []struct {
		s    string
		want [][]string
	}{
		{"", nil}, {"a\n", [][]string{{"a"}}}, {"a,\"x,y\"\n", [][]string{{"a", "x,y"}}}, {"\"\"\n", [][]string{{""}}}, {"\"\",\"\"\n\"\"\n", [][]string{{"", ""}, {""}}}, {"a,b\nc\n", [][]string{{"a", "b"}, {"c"}}},
		{"\"a\nb\"\n", [][]string{{"a\nb"}}}, {"\"\r\"\n", [][]string{{"\r"}}}, {"\"\"\"\"\n", [][]string{{`"`}}}, {"\"\"\"a\"\"\",b\n", [][]string{{`"a"`, "b"}}}, {"\"a,\"\"\nb\",\",\"\nc\n", [][]string{{"a,\"\nb", ","}, {"c"}}}, {" , \n", [][]string{{" ", " "}}},
		{"\xff,\xfe\n", [][]string{{"\xff", "\xfe"}}},
	} {
		if got, e := csv.Read(c.s); e != api.OK || !equal(got, c.want) {
			t.Errorf("Read(%q): %q, %d; want %q", c.s, got, int(e), c.want)
		}
	}
}

// P53.2: texts that no rows have.
func TestReadWrong(t *testing.T) {
	for _, s := range []string{
		"\n", "a", "a,b", "a\nb", "\n\n", "a\n\n", "\na\n", ",\n", "a,\n", ",a\n", "a,,b\n", "a,", ",", "a\n,", "a\n,\n",
		"\"\"", "\"\",", "\"", "\"\n", "\"\"\"", "\"\"\"\n", "\"a", "\"a\n", "a\"\n", "a\"b\n", "a\"\"b\n", "a\"b\"\n", "\"x,y\"", "\"x,y\"z\n", "z\"x,y\"\n", "\"x,y\" \n", " \"x,y\"\n", "\"x,\"y\"\n", "\"x,y\"\"\n", "\"x\"y,\"\n", "\"x,\"\"\n",
		// In quotation marks, and needn't be.
		"\"a\"\n", "\"a b\"\n", "a,\"b\"\n", "\"a\",b\n", "\" \"\n", "\"日\"\n",
		// Of other ends of rows.
		"a\r\n", "a\r", "\r\n", "\r", "a\rb\n", "a,b\r\nc,d\r\n", "\"\"\r\n", "\"x,y\"\r\n",
		"a,b\n\"\"\nc", "a\n\"", "x,y\n\"x,y\"\n\"z\"\n", "\x00", "日", "\xff", "'a,b'", "\"a,b\n",
	} {
		if got, e := csv.Read(s); len(got) != 0 || e != api.ErrForm {
			t.Errorf("Read(%q): %q, %d", s, got, int(e))
		}
	}
}

// P53.2, P53.3: any text of few letters is either read as the rows whose text it is, or isn't the text of any.
func TestReadOfAll(t *testing.T) {
	letters := "a\",\n\r"
	known := map[string][][]string{}
	for _, rows := range shortRows() {
		known[csv.Text(rows)] = rows
	}
	var walk func(s string, left int)
	walk = func(s string, left int) {
		got, e := csv.Read(s)
		rows, ok := known[s]
		switch {
		case e == api.OK && csv.Text(got) != s, e != api.OK && (e != api.ErrForm || len(got) != 0), ok && (e != api.OK || !equal(got, rows)):
			t.Errorf("Read(%q): %q, %d; want %q", s, got, int(e), rows)
		}
		for _, row := range got {
			if len(row) == 0 {
				t.Errorf("Read(%q): a row of nothing", s)
			}
		}
		if left > 0 {
			for i := range letters {
				walk(s+letters[i:i+1], left-1)
			}
		}
	}
	walk("", 7)
}

// shortRows: up to three rows of up to two short texts each, none of them empty.
func shortRows() [][][]string {
	texts := []string{"", "a", ",", `"`, "\n", "\r", "aa", `a"`, ",\n", `""`}
	var l [][]string
	for _, a := range texts {
		l = append(l, []string{a})
		for _, b := range texts {
			l = append(l, []string{a, b})
		}
	}
	all := [][][]string{nil}
	for i, a := range l {
		all = append(all, [][]string{a})
		for k, b := range l {
			all = append(all, [][]string{a, b}, [][]string{a, b, l[(i*7+k*11)%len(l)]})
		}
	}
	return all
}

// P53.3
func TestWhatIsWrittenIsRead(t *testing.T) {
	for _, rows := range shortRows() {
		if got, e := csv.Read(csv.Text(rows)); e != api.OK || !equal(got, rows) {
			t.Errorf("Read(%q): %q, %d; want %q", csv.Text(rows), got, int(e), rows)
		}
	}
	var row []string
	for s := range cells() {
		row = append(row, s)
	}
	rows := [][]string{row, {strings.Repeat("long,\"", 100000)}, row[:1], {strings.Repeat("plain", 100000), ""}}
	if got, e := csv.Read(csv.Text(rows)); e != api.OK || !equal(got, rows) {
		t.Errorf("Read of many cells: %d", int(e))
	}
}

// Rule 5: no two rows share anything.
func TestNew(t *testing.T) {
	got, _ := csv.Read("a,b\nc,d\n")
	got[0] = append(got[0], "x")
	got[0][1] = "y"
	if again, e := csv.Read("a,b\nc,d\n"); e != api.OK || !equal(got, [][]string{{"a", "y", "x"}, {"c", "d"}}) || !equal(again, [][]string{{"a", "b"}, {"c", "d"}}) {
		t.Error(got, again)
	}
}
