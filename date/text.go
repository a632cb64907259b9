package date

import "strconv"

// form is a text of the form of a date, in which 0 stands for any digit.
const form = "0000-00-00"

func hasForm(s string) bool {
	if len(s) != len(form) {
		return false
	}
	for i := range len(form) {
		if form[i] == '0' && !isDigit(s[i]) || form[i] != '0' && s[i] != form[i] {
			return false
		}
	}
	return true
}

func isDigit(c byte) bool {
	return '0' <= c && c <= '9'
}

// number returns the number that is written in digits.
func number(s string) int {
	n := 0
	for i := range len(s) {
		n = 10*n + int(s[i]-'0')
	}
	return n
}

// text needs no zeros before the year, as all years of days have 4 digits.
func text(y, m, d int) string {
	return strconv.Itoa(y) + "-" + twoDigits(m) + "-" + twoDigits(d)
}

func twoDigits(n int) string {
	if n < 10 {
		return "0" + strconv.Itoa(n)
	}
	return strconv.Itoa(n)
}
