package calendar

import (
	"strconv"

	"arrears/api"
)

// ParseDate reads YYYY-MM-DD.
func ParseDate(text string) (int, bool) {
	if len(text) != len("YYYY-MM-DD") || text[4] != '-' || text[7] != '-' {
		return 0, false
	}
	year, yearOK := digits(text[:4])
	month, monthOK := digits(text[5:7])
	day, dayOK := digits(text[8:])
	if !yearOK || !monthOK || !dayOK {
		return 0, false
	}
	return Number(api.Date{Year: year, Month: month, Day: day})
}

// FormatDate tells a day as YYYY-MM-DD.
func FormatDate(day int) (string, bool) {
	date, ok := Civil(day)
	if !ok {
		return "", false
	}
	// What is added keeps the leading zeros, and is cut off.
	year := strconv.Itoa(10000 + date.Year)[1:]
	month := strconv.Itoa(100 + date.Month)[1:]
	return year + "-" + month + "-" + strconv.Itoa(100 + date.Day)[1:], true
}

// digits reads a short text of digits alone: strconv would take a sign too.
func digits(text string) (int, bool) {
	number := 0
	for i := range len(text) {
		c := text[i]
		if c < '0' || c > '9' {
			return 0, false
		}
		number = number*10 + int(c-'0')
	}
	return number, true
}
