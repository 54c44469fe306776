package tests

import (
	"fmt"
	"math"
	"strings"
	"testing"
	"time"

	"loop.example/g00902/impl"
)

var notDays = []int{
	-1, impl.MaxDay + 1, -2, impl.MaxDay + 2, -impl.MaxDay, -365, impl.MaxDay + 365, 2 * impl.MaxDay,
	1 << 32, -1 << 32, 1 << 62, -1 << 62, math.MaxInt, math.MaxInt - 1, math.MaxInt/4 + 1, math.MinInt, math.MinInt + 1, math.MinInt / 4,
}

// monthsOutOfRange are pairs of a year and a month of which at least one is out of range.
var monthsOutOfRange = [][2]int{
	{1999, 1}, {1999, 12}, {2100, 1}, {2100, 12}, {2000, 0}, {2000, 13}, {2000, -1}, {2099, 0}, {2099, 13}, {2050, -12}, {2050, 25},
	{0, 1}, {-1, 1}, {1, 1}, {-2000, 1}, {1996, 2}, {2104, 2}, {0, 0}, {99, 12}, {1 << 32, 1}, {1<<32 + 2000, 1}, {2000, 1<<32 + 1},
	{math.MaxInt, 1}, {math.MinInt, 1}, {2000, math.MaxInt}, {2000, math.MinInt}, {math.MaxInt, math.MaxInt}, {math.MinInt, math.MinInt},
}

// modelTime is the day in the calendar of the package time.
func modelTime(day int) time.Time { return time.Date(2000, 1, 1+day, 0, 0, 0, 0, time.UTC) }

// modelDate is the date of a day.
func modelDate(day int) impl.Date {
	year, month, dayOfMonth := modelTime(day).Date()
	return impl.Date{Year: year, Month: int(month), Day: dayOfMonth}
}

// modelWeekday numbers the weekdays from Monday.
func modelWeekday(day int) int { return (int(modelTime(day).Weekday()) + 6) % 7 }

// modelLength is the number of days of a month.
func modelLength(year int, month int) int {
	return time.Date(year, time.Month(month)+1, 0, 0, 0, 0, 0, time.UTC).Day()
}

// dayAt is the day of a date that must be valid.
func dayAt(t *testing.T, year int, month int, dayOfMonth int) int {
	t.Helper()
	day, ok := impl.DayOf(impl.Date{Year: year, Month: month, Day: dayOfMonth})
	if !ok {
		t.Fatalf("no date: %d-%d-%d", year, month, dayOfMonth)
	}
	return day
}

func TestDaysAndDatesCorrespond(t *testing.T) {
	for day := 0; day <= impl.MaxDay; day++ {
		want := modelDate(day)
		d, ok := impl.DateOf(day)
		if !ok || d != want {
			t.Fatalf("DateOf(%d) = %v, %v", day, d, ok)
		}
		if !impl.IsValidDate(d) {
			t.Fatalf("IsValidDate(%v) = false", d)
		}
		if back, ok := impl.DayOf(d); !ok || back != day {
			t.Fatalf("DayOf(%v) = %d, %v", d, back, ok)
		}
	}
}

func TestDayOfAtNamedDates(t *testing.T) {
	for d, want := range map[impl.Date]int{
		{Year: 2000, Month: 1, Day: 1}: 0, {Year: 2000, Month: 1, Day: 31}: 30, {Year: 2000, Month: 2, Day: 29}: 59, {Year: 2000, Month: 3, Day: 1}: 60,
		{Year: 2000, Month: 12, Day: 31}: 365, {Year: 2001, Month: 1, Day: 1}: 366, {Year: 2001, Month: 2, Day: 28}: 424, {Year: 2001, Month: 3, Day: 1}: 425,
		{Year: 2003, Month: 12, Day: 31}: 1460, {Year: 2004, Month: 1, Day: 1}: 1461, {Year: 2004, Month: 2, Day: 29}: 1520,
		{Year: 2099, Month: 12, Day: 31}: impl.MaxDay, {Year: 2099, Month: 12, Day: 30}: impl.MaxDay - 1, {Year: 2099, Month: 1, Day: 1}: impl.MaxDay - 364,
	} {
		if got, ok := impl.DayOf(d); !ok || got != want {
			t.Errorf("DayOf(%v) = %d, %v", d, got, ok)
		}
		if got, ok := impl.DateOf(want); !ok || got != d {
			t.Errorf("DateOf(%d) = %v, %v", want, got, ok)
		}
	}
}

func TestDatesAroundTheRangeAreValidOnlyWithinIt(t *testing.T) {
	valid := 0
	for year := 1994; year <= 2106; year++ {
		for month := -1; month <= 14; month++ {
			for dayOfMonth := -1; dayOfMonth <= 33; dayOfMonth++ {
				d := impl.Date{Year: year, Month: month, Day: dayOfMonth}
				want := year >= 2000 && year <= 2099 && month >= 1 && month <= 12 && dayOfMonth >= 1 && dayOfMonth <= modelLength(year, month)
				if impl.IsValidDate(d) != want {
					t.Fatalf("IsValidDate(%v) = %v", d, !want)
				}
				day, ok := impl.DayOf(d)
				if ok != want || !ok && day != 0 {
					t.Fatalf("DayOf(%v) = %d, %v", d, day, ok)
				}
				if ok {
					valid++
				}
			}
		}
	}
	if valid != impl.MaxDay+1 {
		t.Error("valid dates", valid)
	}
}

func TestInvalidDatesAreRejected(t *testing.T) {
	invalid := []impl.Date{
		{}, {Year: 2000}, {Year: 2000, Month: 1}, {Year: 2000, Month: 1, Day: 32}, {Year: 2000, Month: 4, Day: 31}, {Year: 2000, Month: 2, Day: 30},
		{Year: 2001, Month: 2, Day: 29}, {Year: 2098, Month: 2, Day: 29}, {Year: 2099, Month: 2, Day: 29}, {Year: 2096, Month: 2, Day: 30},
		{Year: 1999, Month: 12, Day: 31}, {Year: 2100, Month: 1, Day: 1}, {Year: 2099, Month: 12, Day: 32}, {Year: 2000, Month: 1, Day: -1},
		{Year: 2000, Month: 1, Day: math.MaxInt}, {Year: 2000, Month: 1, Day: math.MinInt}, {Year: 2000, Month: 1, Day: 1<<32 + 1},
	}
	for _, pair := range monthsOutOfRange {
		invalid = append(invalid, impl.Date{Year: pair[0], Month: pair[1], Day: 1}, impl.Date{Year: pair[0], Month: pair[1], Day: math.MinInt})
	}
	for _, d := range invalid {
		if impl.IsValidDate(d) {
			t.Errorf("IsValidDate(%v) = true", d)
		}
		if got, ok := impl.DayOf(d); ok || got != 0 {
			t.Errorf("DayOf(%v) = %d, %v", d, got, ok)
		}
	}
}

func TestNumbersThatAreNoDaysAreRejected(t *testing.T) {
	for _, day := range notDays {
		if d, ok := impl.DateOf(day); ok || d != (impl.Date{}) {
			t.Errorf("DateOf(%d) = %v, %v", day, d, ok)
		}
		if weekday, ok := impl.Weekday(day); ok || weekday != 0 {
			t.Errorf("Weekday(%d) = %d, %v", day, weekday, ok)
		}
		if end, ok := impl.IsMonthEnd(day); ok || end {
			t.Errorf("IsMonthEnd(%d) = %v, %v", day, end, ok)
		}
		if s, ok := impl.FormatDate(day); ok || s != "" {
			t.Errorf("FormatDate(%d) = %q, %v", day, s, ok)
		}
		for _, months := range []int{0, 1, -1, 12, -12, 1200, -1200, 1201, -1201} {
			if got, ok := impl.AddMonths(day, months); ok || got != 0 {
				t.Errorf("AddMonths(%d, %d) = %d, %v", day, months, got, ok)
			}
		}
	}
}

func TestWeekday(t *testing.T) {
	for day, want := range []int{5, 6, 0, 1, 2, 3, 4, 5, 6} {
		if got, ok := impl.Weekday(day); !ok || got != want {
			t.Errorf("Weekday(%d) = %d, %v", day, got, ok)
		}
	}
	if got, ok := impl.Weekday(impl.MaxDay); !ok || got != 3 {
		t.Errorf("Weekday(MaxDay) = %d, %v", got, ok)
	}
	for day := 0; day <= impl.MaxDay; day++ {
		if got, ok := impl.Weekday(day); !ok || got != modelWeekday(day) {
			t.Fatalf("Weekday(%d) = %d, %v", day, got, ok)
		}
	}
}

func TestDaysInMonth(t *testing.T) {
	for month, want := range []int{31, 28, 31, 30, 31, 30, 31, 31, 30, 31, 30, 31} {
		if got, ok := impl.DaysInMonth(2001, month+1); !ok || got != want {
			t.Errorf("DaysInMonth(2001, %d) = %d, %v", month+1, got, ok)
		}
	}
	for year, want := range map[int]int{2000: 29, 2001: 28, 2002: 28, 2003: 28, 2004: 29, 2010: 28, 2048: 29, 2095: 28, 2096: 29, 2098: 28, 2099: 28} {
		if got, ok := impl.DaysInMonth(year, 2); !ok || got != want {
			t.Errorf("DaysInMonth(%d, 2) = %d, %v", year, got, ok)
		}
	}
	total := 0
	for year := 2000; year <= 2099; year++ {
		for month := 1; month <= 12; month++ {
			got, ok := impl.DaysInMonth(year, month)
			if !ok || got != modelLength(year, month) {
				t.Fatalf("DaysInMonth(%d, %d) = %d, %v", year, month, got, ok)
			}
			total += got
		}
	}
	if total != impl.MaxDay+1 {
		t.Error("days of all months", total)
	}
	for _, pair := range monthsOutOfRange {
		if got, ok := impl.DaysInMonth(pair[0], pair[1]); ok || got != 0 {
			t.Errorf("DaysInMonth(%v) = %d, %v", pair, got, ok)
		}
	}
}

func TestAddMonths(t *testing.T) {
	for _, c := range []struct {
		from   string
		months int
		want   string
	}{
		{"2001-01-31", 1, "2001-02-28"}, {"2004-01-31", 1, "2004-02-29"}, {"2000-01-31", 1, "2000-02-29"}, {"2001-01-29", 1, "2001-02-28"},
		{"2004-01-29", 1, "2004-02-29"}, {"2001-01-28", 1, "2001-02-28"}, {"2001-01-31", 2, "2001-03-31"}, {"2001-01-31", 3, "2001-04-30"},
		{"2001-03-31", -1, "2001-02-28"}, {"2004-03-31", -1, "2004-02-29"}, {"2001-05-31", -1, "2001-04-30"}, {"2001-05-31", 1, "2001-06-30"},
		{"2001-02-28", 1, "2001-03-28"}, {"2001-02-28", -1, "2001-01-28"}, {"2004-02-29", 12, "2005-02-28"}, {"2004-02-29", 48, "2008-02-29"},
		{"2004-02-29", -48, "2000-02-29"}, {"2004-02-29", -12, "2003-02-28"}, {"2001-12-31", 1, "2002-01-31"}, {"2001-12-31", 2, "2002-02-28"},
		{"2002-01-31", -1, "2001-12-31"}, {"2002-01-15", -13, "2000-12-15"}, {"2001-11-30", 3, "2002-02-28"}, {"2001-08-31", 1, "2001-09-30"},
		{"2001-07-31", 1, "2001-08-31"}, {"2001-06-15", 0, "2001-06-15"}, {"2001-01-31", 0, "2001-01-31"}, {"2001-12-01", 12, "2002-12-01"},
		{"2000-01-01", 0, "2000-01-01"}, {"2099-12-31", 0, "2099-12-31"}, {"2000-01-01", 1199, "2099-12-01"}, {"2099-12-31", -1199, "2000-01-31"},
		{"2000-01-31", 1199, "2099-12-31"}, {"2000-02-01", -1, "2000-01-01"}, {"2099-11-30", 1, "2099-12-30"}, {"2099-01-31", 11, "2099-12-31"},
	} {
		day, ok := impl.ParseDate(c.from)
		if !ok {
			t.Fatal("no date", c.from)
		}
		got, ok := impl.AddMonths(day, c.months)
		if s, _ := impl.FormatDate(got); !ok || s != c.want {
			t.Errorf("%d months after %s: %s, %v", c.months, c.from, s, ok)
		}
	}
}

func TestAddMonthsRejects(t *testing.T) {
	middle := dayAt(t, 2050, 6, 15)
	for _, c := range [][2]int{
		{0, -1}, {30, -1}, {0, 1200}, {0, -1200}, {0, 1201}, {0, -1201}, {30, 1200}, {impl.MaxDay, 1}, {impl.MaxDay - 30, 1}, {impl.MaxDay, 12},
		{impl.MaxDay, -1200}, {impl.MaxDay, 1200}, {impl.MaxDay, -1201}, {impl.MaxDay, 1201}, {365, -12}, {366, -13}, {impl.MaxDay - 365, 13},
		{middle, 595}, {middle, -606}, {middle, 1200}, {middle, -1200}, {middle, 1201}, {middle, -1201},
		{middle, 1 << 32}, {middle, -1 << 32}, {middle, math.MaxInt}, {middle, math.MinInt}, {0, math.MaxInt}, {impl.MaxDay, math.MinInt}, {0, math.MinInt},
	} {
		if got, ok := impl.AddMonths(c[0], c[1]); ok || got != 0 {
			t.Errorf("AddMonths(%d, %d) = %d, %v", c[0], c[1], got, ok)
		}
	}
	for _, c := range [][2]int{{middle, 594}, {middle, -605}} {
		if got, ok := impl.AddMonths(c[0], c[1]); !ok || modelDate(got).Day != 15 {
			t.Errorf("AddMonths(%d, %d) = %d, %v", c[0], c[1], got, ok)
		}
	}
}

// checkAddedMonths walks month by month and compares what AddMonths returns with what it finds.
func checkAddedMonths(t *testing.T, day int, months int) {
	t.Helper()
	from := modelDate(day)
	year, month := from.Year, from.Month
	for range max(months, 0) {
		if month++; month > 12 {
			year, month = year+1, 1
		}
	}
	for range max(-months, 0) {
		if month--; month < 1 {
			year, month = year-1, 12
		}
	}
	got, ok := impl.AddMonths(day, months)
	if year < 2000 || year > 2099 {
		if ok || got != 0 {
			t.Fatalf("AddMonths(%d, %d) = %d, %v", day, months, got, ok)
		}
		return
	}
	want := impl.Date{Year: year, Month: month, Day: min(from.Day, modelLength(year, month))}
	if !ok || modelDate(got) != want {
		t.Fatalf("AddMonths(%d, %d) = %d, %v", day, months, got, ok)
	}
}

func TestAddMonthsKeepsTheDayOfTheMonthWherePossible(t *testing.T) {
	for day := 0; day <= impl.MaxDay; day++ {
		for _, months := range []int{-13, -12, -1, 0, 1, 2, 11, 12} {
			checkAddedMonths(t, day, months)
		}
	}
	for _, start := range []int{dayAt(t, 2000, 1, 1), dayAt(t, 2048, 1, 27), dayAt(t, 2051, 12, 27), dayAt(t, 2099, 12, 27)} {
		for day := start; day < start+5; day++ {
			for months := -1200; months <= 1200; months++ {
				checkAddedMonths(t, day, months)
			}
		}
	}
}

func TestIsMonthEnd(t *testing.T) {
	ends := 0
	for day := 0; day <= impl.MaxDay; day++ {
		end, ok := impl.IsMonthEnd(day)
		if want := modelTime(day+1).Day() == 1; !ok || end != want {
			t.Fatalf("IsMonthEnd(%d) = %v, %v", day, end, ok)
		}
		if end {
			ends++
		}
	}
	if ends != 1200 {
		t.Error("ends of months", ends)
	}
	for _, c := range []struct {
		year, month, day int
		want             bool
	}{
		{2000, 1, 1, false}, {2000, 1, 31, true}, {2000, 2, 28, false}, {2000, 2, 29, true}, {2001, 2, 28, true}, {2001, 4, 30, true},
		{2001, 5, 30, false}, {2001, 12, 31, true}, {2099, 12, 30, false}, {2099, 12, 31, true},
	} {
		if got, ok := impl.IsMonthEnd(dayAt(t, c.year, c.month, c.day)); !ok || got != c.want {
			t.Errorf("IsMonthEnd(%d-%d-%d) = %v, %v", c.year, c.month, c.day, got, ok)
		}
	}
}

func TestNthWeekday(t *testing.T) {
	for _, c := range []struct {
		year, month, weekday, n int
		want                    int
	}{
		{2000, 1, 0, 1, 2}, {2000, 1, 5, 1, 0}, {2000, 1, 6, 1, 1}, {2000, 1, 4, 1, 6}, {2000, 1, 0, 2, 9}, {2000, 1, 0, 3, 16}, {2000, 1, 0, 4, 23},
		{2000, 1, 0, 5, 30}, {2000, 1, 0, -1, 30}, {2000, 1, 5, 5, 28}, {2000, 1, 4, 4, 27}, {2000, 1, 4, -1, 27},
		{2099, 12, 3, -1, impl.MaxDay}, {2099, 12, 3, 5, impl.MaxDay}, {2099, 12, 4, -1, impl.MaxDay - 6}, {2099, 12, 4, 4, impl.MaxDay - 6},
		{2000, 2, 1, 5, 59}, {2000, 2, 1, -1, 59},
	} {
		if got, ok := impl.NthWeekday(c.year, c.month, c.weekday, c.n); !ok || got != c.want {
			t.Errorf("NthWeekday(%d, %d, %d, %d) = %d, %v", c.year, c.month, c.weekday, c.n, got, ok)
		}
	}
}

// checkWeekdaysOfMonth compares NthWeekday with a walk over the days of the month from start on.
func checkWeekdaysOfMonth(t *testing.T, year int, month int, start int) {
	t.Helper()
	var found [7][]int
	for day := start; day < start+modelLength(year, month); day++ {
		weekday := modelWeekday(day)
		found[weekday] = append(found[weekday], day)
	}
	for weekday, days := range found {
		for n := -7; n <= 8; n++ {
			want, exists := 0, false
			switch {
			case n == -1:
				want, exists = days[len(days)-1], true
			case n >= 1 && n <= len(days):
				want, exists = days[n-1], true
			}
			if got, ok := impl.NthWeekday(year, month, weekday, n); ok != exists || got != want {
				t.Fatalf("NthWeekday(%d, %d, %d, %d) = %d, %v", year, month, weekday, n, got, ok)
			}
		}
	}
}

func TestNthWeekdayOfEveryMonth(t *testing.T) {
	start := 0
	for year := 2000; year <= 2099; year++ {
		for month := 1; month <= 12; month++ {
			checkWeekdaysOfMonth(t, year, month, start)
			start += modelLength(year, month)
		}
	}
}

func TestNthWeekdayRejects(t *testing.T) {
	cases := [][4]int{
		{2001, 2, 0, 5}, {2001, 2, 6, 5}, {2000, 1, 2, 5}, {2000, 1, 4, 5}, {2099, 12, 4, 5}, {2000, 2, 0, 5},
		{2000, 1, 0, 0}, {2000, 1, 0, -2}, {2000, 1, 0, 6}, {2000, 1, 0, -5}, {2000, 1, 0, 7}, {2000, 1, 0, math.MaxInt}, {2000, 1, 0, math.MinInt},
		{2000, 1, 0, 1<<32 + 1}, {2000, 1, -1, 1}, {2000, 1, 7, 1}, {2000, 1, -1, -1}, {2000, 1, 7, -1}, {2000, 1, -1, 5}, {2000, 1, 7, 5},
		{2000, 1, -7, 1}, {2000, 1, 14, 1}, {2000, 1, math.MaxInt, 1}, {2000, 1, math.MinInt, 1}, {2000, 1, 1<<32 + 1, 1},
	}
	for _, pair := range monthsOutOfRange {
		for _, n := range []int{1, 4, 5, -1, 0} {
			cases = append(cases, [4]int{pair[0], pair[1], 0, n}, [4]int{pair[0], pair[1], 6, n}, [4]int{pair[0], pair[1], 7, n})
		}
	}
	for _, c := range cases {
		if got, ok := impl.NthWeekday(c[0], c[1], c[2], c[3]); ok || got != 0 {
			t.Errorf("NthWeekday(%v) = %d, %v", c, got, ok)
		}
	}
}

func TestFormatDateAndParseDateRoundTrip(t *testing.T) {
	for day := 0; day <= impl.MaxDay; day++ {
		s, ok := impl.FormatDate(day)
		if !ok || s != modelTime(day).Format("2006-01-02") {
			t.Fatalf("FormatDate(%d) = %q, %v", day, s, ok)
		}
		if back, ok := impl.ParseDate(s); !ok || back != day {
			t.Fatalf("ParseDate(%q) = %d, %v", s, back, ok)
		}
	}
}

func TestFormatDate(t *testing.T) {
	for day, want := range map[int]string{
		0: "2000-01-01", 8: "2000-01-09", 9: "2000-01-10", 59: "2000-02-29", 60: "2000-03-01", 365: "2000-12-31", 366: "2001-01-01", impl.MaxDay: "2099-12-31",
	} {
		if got, ok := impl.FormatDate(day); !ok || got != want {
			t.Errorf("FormatDate(%d) = %q, %v", day, got, ok)
		}
		if got, ok := impl.ParseDate(want); !ok || got != day {
			t.Errorf("ParseDate(%q) = %d, %v", want, got, ok)
		}
	}
}

func TestParseDateRejects(t *testing.T) {
	for _, s := range []string{
		"", "-", "--", "2000", "2000-", "2000-01", "2000-01-", "2000-01-0", "000-01-01", "00-01-01", "-01-01", "2000--01", "2000-01--", "----------",
		"2000-1-01", "2000-01-1", "2000-1-1", "2000-1-001", "2000-001-1", "2000-001-01", "2000-01-001", "02000-01-01", "20000-01-1", "200-001-01",
		"2000-01-010", "2000-01-01-", "-2000-01-01", "2000-01-01 ", " 2000-01-01", "2000-01- 1", "2000- 1-01", " 200-01-01", "2000-01-1 ", "2000-01-01\n",
		"2000-01-01\x00", "\x002000-01-01", "2000/01/01", "2000.01.01", "2000-01/01", "2000/01-01", "2000 01 01", "2000_01_01", "20000101", "2000101001",
		"2000+01+01", "2000-+1-01", "2000-01-+1", "+200-01-01", "2000--1-01", "2000-01--1", "-200-01-01", "2000-0x-01", "2000-01-0x", "200x-01-01",
		"2000-1_-01", "2_00-01-01", "0x7d-01-01", "2e03-01-01", "2000-01-1e", "2000-Jan-01", "01-01-2000", "2000-01-01T00:00", "abcd-ef-gh",
		"2000-00-01", "2000-13-01", "2000-99-01", "2000-01-00", "2000-01-32", "2000-01-99", "2000-02-30", "2001-02-29", "2099-02-29", "2000-04-31",
		"2000-06-31", "2000-09-31", "2000-11-31", "1999-12-31", "1999-01-01", "2100-01-01", "2100-12-31", "0000-00-00", "0000-01-01", "9999-12-31",
		"2000-01-\u0661", "200\uff10-01-01", "2000\u201001-01", "2000\u221201\u221201", "\xff\xff\xff\xff-01-01", "2000-\xff\xff-01", "2000-\u0661-01",
		strings.Repeat("0", 5000) + "2000-01-01", "2000-01-01" + strings.Repeat("0", 5000), strings.Repeat("2000-01-01", 2), "9223372036854775807-01-01",
	} {
		if got, ok := impl.ParseDate(s); ok || got != 0 {
			t.Errorf("ParseDate(%.40q) = %d, %v", s, got, ok)
		}
	}
}

// checkParsed compares ParseDate with a table of the texts of all days.
func checkParsed(t *testing.T, texts map[string]int, s string) {
	t.Helper()
	want, is := texts[s]
	if got, ok := impl.ParseDate(s); ok != is || got != want {
		t.Fatalf("ParseDate(%q) = %d, %v", s, got, ok)
	}
}

func TestParseDateAcceptsOnlyWhatFormatDateGives(t *testing.T) {
	texts := map[string]int{}
	for day := 0; day <= impl.MaxDay; day++ {
		texts[modelTime(day).Format("2006-01-02")] = day
	}
	for _, s := range []string{"2000-01-01", "2004-02-29", "2001-02-28", "2019-10-31", "2096-11-30", "2099-12-31"} {
		for i := range len(s) {
			checkParsed(t, texts, s[:i]+s[i+1:])
			for b := range 256 {
				changed := string([]byte{byte(b)})
				checkParsed(t, texts, s[:i]+changed+s[i+1:])
				checkParsed(t, texts, s[:i]+changed+s[i:])
				checkParsed(t, texts, s+changed)
			}
		}
	}
	for year := 1990; year <= 2110; year++ {
		for month := range 20 {
			for dayOfMonth := range 40 {
				checkParsed(t, texts, fmt.Sprintf("%04d-%02d-%02d", year, month, dayOfMonth))
				checkParsed(t, texts, fmt.Sprintf("%d-%d-%d", year, month, dayOfMonth))
			}
		}
	}
}
