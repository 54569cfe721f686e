package cols_test

import (
	"fmt"
	"math"
	"slices"
	"strings"
	"testing"

	"hoistway/cols"
)

// P16.1
func TestWidths(t *testing.T) {
	for _, c := range []struct {
		rows [][]string
		want []int
	}{
		{nil, nil}, {[][]string{}, nil}, {[][]string{{}, nil}, nil}, {[][]string{{"a", "10"}, {"bcd", "5"}}, []int{3, 2}}, {[][]string{{""}}, []int{0}}, {[][]string{{"", "", "x"}}, []int{0, 0, 1}},
		{[][]string{{"a"}, {"b", "cc"}, {}, {"ddd", "e", "ffff"}}, []int{3, 2, 4}}, {[][]string{{"aaaa", "b", "c"}, {"a"}}, []int{4, 1, 1}}, {[][]string{{"ä", "日本"}, {"a", "bb"}}, []int{2, 6}}, {[][]string{{" a ", "\xff"}}, []int{3, 1}},
		{[][]string{{strings.Repeat("x", 70000)}, {"y"}}, []int{70000}},
	} {
		if got := cols.Widths(c.rows); !slices.Equal(got, c.want) {
			t.Errorf("Widths(%q): %v; want %v", c.rows, got, c.want)
		}
	}
}

// P16.1
func TestLine(t *testing.T) {
	for _, c := range []struct {
		widths []int
		row    []string
		want   string
	}{
		{[]int{3, 2}, []string{"a", "10"}, "a    10"}, {[]int{3, 2}, []string{"bcd", "5"}, "bcd   5"}, {[]int{1, 1}, []string{"a", "b"}, "a  b"}, {[]int{1, 1, 5, 2}, []string{"a", "b", "c", "d"}, "a  b      c   d"},
		// Nothing, and blanks, at the end.
		{[]int{3, 2}, nil, ""}, {nil, nil, ""}, {nil, []string{}, ""}, {[]int{5}, []string{"a"}, "a"}, {[]int{5}, []string{""}, ""}, {[]int{5, 5}, []string{"a", ""}, "a"}, {[]int{5, 5}, []string{"", ""}, ""}, {[]int{5, 5, 5}, []string{"", "x", ""}, "           x"},
		{[]int{5}, []string{"a  "}, "a"}, {[]int{1, 3}, []string{"a", "b "}, "a   b"}, {[]int{1, 3}, []string{"a", "   "}, "a"}, {[]int{3, 1}, []string{"   ", " "}, ""}, {[]int{1, 1, 1}, []string{"a", " ", "b"}, "a     b"},
		// Blanks ahead and within stay.
		{[]int{4, 4}, []string{" a b", " c"}, " a b     c"}, {[]int{0, 0}, []string{"", "x"}, "  x"}, {[]int{2, 0}, []string{"", "x"}, "    x"}, {[]int{3, 2, 1}, []string{"a ", "b ", "c"}, "a    b   c"},
		// No column says how wide.
		{nil, []string{"a", "b", "ccc"}, "a  b  ccc"}, {[]int{3}, []string{"a", "b", "c"}, "a    b  c"}, {nil, []string{"", "b"}, "  b"}, {[]int{}, []string{"abc"}, "abc"},
		// More columns than texts, and texts that are too wide.
		{[]int{3, 2, 9}, []string{"a"}, "a"}, {[]int{3, 2, 9}, []string{"a", "b"}, "a     b"}, {[]int{1, 1}, []string{"abc", "def"}, "abc  def"}, {[]int{0, 0, 4}, []string{"abc", "def", "g"}, "abc  def     g"},
		// Wide by less than nothing.
		{[]int{-1, -5}, []string{"a", "b"}, "a  b"}, {[]int{math.MinInt, math.MinInt, 3}, []string{"a", "b", "c"}, "a  b    c"}, {[]int{-1}, []string{""}, ""},
		// Only blanks are left out at the end, and bytes are counted.
		{[]int{3, 3}, []string{"a", "b\t"}, "a     b\t"}, {[]int{3, 3}, []string{"a", "b\n"}, "a     b\n"}, {[]int{1, 3}, []string{"a", "b\u00a0"}, "a  b\u00a0"}, {[]int{3, 4}, []string{"ä", "日"}, "ä    日"}, {[]int{2, 2}, []string{"\xff", "\xfe"}, "\xff    \xfe"},
	} {
		widths, row := slices.Clone(c.widths), slices.Clone(c.row)
		if got := cols.Line(c.widths, c.row); got != c.want || !slices.Equal(c.widths, widths) || !slices.Equal(c.row, row) {
			t.Errorf("Line(%v, %q): %q; want %q", widths, row, got, c.want)
		}
	}
}

// P16.1: blanks at the end are left out, however many they are.
func TestLineOfMuchNothing(t *testing.T) {
	for _, width := range []int{1 << 20, 1 << 40, math.MaxInt - 1, math.MaxInt} {
		for _, c := range []struct {
			widths []int
			row    []string
			want   string
		}{{[]int{width}, []string{"a"}, "a"}, {[]int{width, width, width}, []string{"", "", " "}, ""}, {[]int{1, width, width}, []string{"a", "", ""}, "a"}, {[]int{1, 2, width}, []string{"a", "b", ""}, "a   b"}} {
			if got := cols.Line(c.widths, c.row); got != c.want {
				t.Errorf("Line(%v, %q): %.100q", c.widths, c.row, got)
			}
		}
	}
}

// line: by the document's words, of columns that all say how wide they are.
func line(widths []int, row []string) string {
	s := ""
	for i, text := range row {
		if i == 0 {
			s += fmt.Sprintf("%-*s", widths[i], text)
		} else {
			s += "  " + fmt.Sprintf("%*s", widths[i], text)
		}
	}
	return strings.TrimRight(s, " ")
}

// P16.1: all rows of two to four short texts.
func TestLineOfAll(t *testing.T) {
	texts := []string{"", " ", "a", "bb", "c ", " d"}
	widths := []int{2, 3, 0, 5}
	var rows [][]string
	for _, a := range texts {
		for _, b := range texts {
			rows = append(rows, []string{a, b})
			for _, c := range texts {
				rows = append(rows, []string{a, b, c})
				for _, d := range texts {
					rows = append(rows, []string{a, b, c, d})
				}
			}
		}
	}
	for _, row := range rows {
		if got := cols.Line(widths, row); got != line(widths, row) {
			t.Errorf("Line(%v, %q): %q; want %q", widths, row, got, line(widths, row))
		}
	}
	want := ""
	for _, row := range rows {
		want += line(cols.Widths(rows), row) + "\n"
	}
	if got := cols.Text(rows); got != want {
		t.Errorf("Text: %q", got)
	}
}

// P16.1
func TestText(t *testing.T) {
	for _, c := range []struct {
		rows [][]string
		want string
	}{
		{[][]string{{"a", "10"}, {"bcd", "5"}}, "a    10\nbcd   5\n"}, {nil, ""}, {[][]string{}, ""}, {[][]string{{}}, "\n"}, {[][]string{nil, {"a"}, {}}, "\na\n\n"}, {[][]string{{""}, {"", ""}}, "\n\n"},
		{[][]string{{"ticks", "wait", "transit"}, {"0-9", "3"}, {"10+", "12", "100"}}, "ticks  wait  transit\n0-9       3\n10+      12      100\n"}, {[][]string{{"a", ""}, {"", "b"}}, "a\n   b\n"}, {[][]string{{"only"}}, "only\n"},
	} {
		if got := cols.Text(c.rows); got != c.want {
			t.Errorf("Text(%q): %q; want %q", c.rows, got, c.want)
		}
	}
}

// P16.2
func TestCells(t *testing.T) {
	for _, c := range []struct {
		line string
		want []string
	}{
		{"", nil}, {" ", nil}, {"    ", nil}, {"a", []string{"a"}}, {"a    10", []string{"a", "10"}}, {"  a b  ", []string{"a", "b"}}, {" abc", []string{"abc"}}, {"abc ", []string{"abc"}},
		// Nothing but a blank is between.
		{"a\tb", []string{"a\tb"}}, {"a\nb c", []string{"a\nb", "c"}}, {"\t \n \r", []string{"\t", "\n", "\r"}}, {"a\u00a0b", []string{"a\u00a0b"}}, {"a\u2003b \u3000", []string{"a\u2003b", "\u3000"}}, {"\xff \xfe\x80", []string{"\xff", "\xfe\x80"}}, {"ä 日本", []string{"ä", "日本"}}, {"a\x00 b", []string{"a\x00", "b"}},
	} {
		if got := cols.Cells(c.line); !slices.Equal(got, c.want) {
			t.Errorf("Cells(%q): %q; want %q", c.line, got, c.want)
		}
	}
}

// P16.3
func TestCellsOfLines(t *testing.T) {
	texts := []string{"a", "10", "n/a", "x,y", "\t", "日本", "\xff", "longer-than-most"}
	for _, widths := range [][]int{nil, {0}, {1, 2, 3}, {20, 20, 20, 20}, {-1, -1}, {70000, 1, 66000}} {
		for n := range 5 {
			for at := range texts {
				var row []string
				for i := range n {
					row = append(row, texts[(at*3+i*5)%len(texts)])
				}
				if got := cols.Cells(cols.Line(widths, row)); !slices.Equal(got, row) {
					t.Errorf("Cells of Line(%v, %q): %q", widths, row, got)
				}
			}
		}
	}
}
