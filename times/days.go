package times

const (
	firstYear = 1970
	lastYear  = 2199
	allDays   = 84006
	thursday  = 4
)

// Days of the months of a year that is no leap year, by their numbers.
var monthDays = [...]int{0, 31, 28, 31, 30, 31, 30, 31, 31, 30, 31, 30, 31}

func isLeap(y int) bool { return y%4 == 0 && y%100 != 0 || y%400 == 0 }

func daysOfYear(y int) int {
	if isLeap(y) {
		return 366
	}
	return 365
}

func daysOfMonth(y, m int) int {
	if m == 2 && isLeap(y) {
		return 29
	}
	return monthDays[m]
}

func isDate(y, m, d int) bool {
	return y >= firstYear && y <= lastYear && m >= 1 && m <= 12 && d >= 1 && d <= daysOfMonth(y, m)
}

// Days is how many days a date lies behind January 1, 1970.
func Days(y, m, d int) (int, bool) {
	if !isDate(y, m, d) {
		return 0, false
	}
	days := d - 1
	for year := firstYear; year < y; year++ {
		days += daysOfYear(year)
	}
	for month := 1; month < m; month++ {
		days += daysOfMonth(y, month)
	}
	return days, true
}

// Civil is the date that lies so many days behind January 1, 1970.
func Civil(days int) (y, m, d int, ok bool) {
	if days < 0 || days >= allDays {
		return 0, 0, 0, false
	}
	y, m = firstYear, 1
	for days >= daysOfYear(y) {
		days -= daysOfYear(y)
		y++
	}
	for days >= daysOfMonth(y, m) {
		days -= daysOfMonth(y, m)
		m++
	}
	return y, m, days + 1, true
}

// Week is the day of the week so many days behind January 1, 1970, from 0 (Sunday) on.
func Week(days int) int {
	// The rest first: a day near the greatest int leaves no room to add to it.
	return (days%7 + 7 + thursday) % 7
}
