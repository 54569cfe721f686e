// Package digits is layer 2: see shared/doc/02-digits.md.
package digits

import (
	"strconv"
	"strings"

	"hoistway/api"
	"hoistway/nums"
)

const Places = 18

// Text: a number in decimal digits.
func Text(n int64) string { return strconv.FormatInt(n, 10) }

// Of: a number, likewise.
func Of(n int) string { return Text(int64(n)) }

// Read: the number of a text. ErrForm; ErrRange: it is none any more.
func Read(s string) (int64, api.Errno) {
	digits, below := strings.CutPrefix(s, "-")
	if !plain(digits) || below && digits == "0" {
		return 0, api.ErrForm
	}
	// Counted down from 0, as there is one number more below 0 than above.
	n, e := counted(digits)
	if e == api.OK && !below {
		n, e = nums.Sub(0, n)
	}
	return n, e
}

// plain: is a text of digits alone, one at least, without noughts ahead?
func plain(s string) bool {
	for i := range len(s) {
		if s[i] < '0' || s[i] > '9' {
			return false
		}
	}
	return s == "0" || s != "" && s[0] != '0'
}

// counted: the number of digits, below 0. ErrRange: there is none.
func counted(digits string) (int64, api.Errno) {
	n := int64(0)
	for i := range len(digits) {
		tens, e := nums.Mul(n, 10)
		if e != api.OK {
			return 0, e
		}
		n, e = nums.Sub(tens, int64(digits[i]-'0'))
		if e != api.OK {
			return 0, e
		}
	}
	return n, api.OK
}

// Pad: a text with blanks in front, to be so wide.
func Pad(s string, width int) string { return filled(s, min(width, api.MaxText), ' ') }

// filled: a text with so many of a byte in front that it has a length.
func filled(s string, length int, c byte) string {
	if len(s) >= length {
		return s
	}
	b := make([]byte, 0, length)
	for range length - len(s) {
		b = append(b, c)
	}
	return string(append(b, s...))
}

// Fixed: a number with its last digits behind a point (places cut to 0 to Places).
func Fixed(n int64, places int) string {
	places = max(0, min(places, Places))
	digits := filled(strconv.FormatUint(nums.Size(n), 10), places+1, '0')
	whole := len(digits) - places
	text := digits[:whole]
	if places > 0 {
		text += "." + digits[whole:]
	}
	if n < 0 {
		text = "-" + text
	}
	return text
}
