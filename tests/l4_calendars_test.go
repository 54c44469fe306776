package tests

import (
	"math"
	"math/big"
	"slices"
	"testing"

	"loop.example/g00902/impl"
)

var allRolls = []int{impl.RollFollowing, impl.RollModified, impl.RollPreceding, impl.RollModifiedPreceding}

var allCounts = []int{impl.CountActual360, impl.CountActual365, impl.CountThirty360, impl.CountActual}

// notConventions are neither conventions of rolling nor of counting.
var notConventions = []int{0, 5, -1, -4, 6, 1<<32 + 1, 1<<32 + 4, math.MaxInt, math.MinInt}

// daysFrom returns count days from first on, each step days after the one before.
func daysFrom(first int, step int, count int) []int {
	days := make([]int, count)
	for i := range days {
		days[i] = first + i*step
	}
	return days
}

// usual is the calendar of the document's example.
func usual() impl.Calendar { return impl.Calendar{Weekend: []int{5, 6}} }

// onlyMondays leaves one business day a week, less the holidays.
func onlyMondays(holidays ...int) impl.Calendar {
	return impl.Calendar{Weekend: []int{1, 2, 3, 4, 5, 6}, Holidays: holidays}
}

// validCalendars returns calendars with ordinary and with extreme lists; several leave a whole
// month or an end of the range without business days.
func validCalendars() map[string]impl.Calendar {
	april, february := 91, 397
	return map[string]impl.Calendar{
		"empty":                     {},
		"empty lists":               {Weekend: []int{}, Holidays: []int{}},
		"usual":                     usual(),
		"monday and sunday":         {Weekend: []int{0, 6}},
		"friday":                    {Weekend: []int{4}, Holidays: []int{0, 59, 60, 365, 366, impl.MaxDay}},
		"only mondays":              onlyMondays(),
		"only sundays":              {Weekend: []int{0, 1, 2, 3, 4, 5}, Holidays: []int{1}},
		"no monday at the start":    onlyMondays(daysFrom(2, 7, 40)...),
		"no monday in January 2000": onlyMondays(daysFrom(2, 7, 5)...),
		"no monday at the end":      onlyMondays(daysFrom(impl.MaxDay-3-39*7, 7, 40)...),
		"no monday in between":      onlyMondays(daysFrom(2+7*1000, 7, 40)...),
		"no January 2000":           {Holidays: daysFrom(0, 1, 31)},
		"no first 40 days":          {Holidays: daysFrom(0, 1, 40)},
		"no December 2099":          {Holidays: daysFrom(impl.MaxDay-30, 1, 31)},
		"no last 40 days":           {Holidays: daysFrom(impl.MaxDay-39, 1, 40)},
		"no April 2000":             {Weekend: []int{5, 6}, Holidays: daysFrom(april, 1, 30)},
		"long Easter":               {Weekend: []int{5, 6}, Holidays: []int{april + 20, april + 23, april + 30}},
		"one first of a month":      {Holidays: daysFrom(february+1, 1, 27)},
		"one last of a month":       {Holidays: daysFrom(february, 1, 27)},
		"first day alone":           {Holidays: daysFrom(1, 1, 30)},
		"last day alone":            {Holidays: daysFrom(impl.MaxDay-30, 1, 30)},
		"both ends":                 {Holidays: []int{0, 1, impl.MaxDay - 1, impl.MaxDay}},
	}
}

// invalidCalendars returns calendars of which one list or both break a rule.
func invalidCalendars() map[string]impl.Calendar {
	week := []int{0, 1, 2, 3, 4, 5, 6}
	return map[string]impl.Calendar{
		"weekend out of order":         {Weekend: []int{6, 5}},
		"weekend with a weekday twice": {Weekend: []int{5, 5}},
		"late weekday twice":           {Weekend: []int{0, 3, 6, 6}},
		"weekday -1":                   {Weekend: []int{-1}},
		"weekday -1 before 0":          {Weekend: []int{-1, 0}},
		"weekday 7":                    {Weekend: []int{7}},
		"weekday 7 after 6":            {Weekend: []int{6, 7}},
		"7 weekdays":                   {Weekend: week},
		"7 weekdays with one twice":    {Weekend: []int{0, 1, 2, 3, 4, 5, 5}},
		"least weekday":                {Weekend: []int{math.MinInt}},
		"greatest weekday":             {Weekend: []int{math.MaxInt}},
		"weekday beyond 32 bits":       {Weekend: []int{1<<32 + 5}},
		"holidays out of order":        {Holidays: []int{2, 1}},
		"last holiday out of order":    {Holidays: []int{1, 2, 4, 3}},
		"holiday twice":                {Weekend: []int{5, 6}, Holidays: []int{7, 7}},
		"holiday 0 twice":              {Holidays: []int{0, 0}},
		"last day twice":               {Holidays: []int{impl.MaxDay, impl.MaxDay}},
		"holiday -1":                   {Holidays: []int{-1}},
		"holiday -1 before 0":          {Holidays: []int{-1, 0}},
		"holiday beyond the range":     {Holidays: []int{impl.MaxDay + 1}},
		"last holiday beyond it":       {Holidays: []int{0, impl.MaxDay, impl.MaxDay + 1}},
		"least holiday":                {Holidays: []int{math.MinInt}},
		"greatest holiday":             {Holidays: []int{math.MaxInt}},
		"too many holidays":            {Holidays: daysFrom(0, 1, impl.MaxHolidays+1)},
		"too many late holidays":       {Holidays: daysFrom(impl.MaxDay-40, 1, impl.MaxHolidays+1)},
		"far too many holidays":        {Holidays: daysFrom(0, 3, 5000)},
		"both lists too long":          {Weekend: week, Holidays: daysFrom(0, 1, impl.MaxHolidays+1)},
	}
}

// modelCalendar holds for every day whether it is a business day and the number of its month.
type modelCalendar struct {
	open  []bool
	month []int
}

func newModel(c impl.Calendar) modelCalendar {
	m := modelCalendar{open: make([]bool, impl.MaxDay+1), month: make([]int, impl.MaxDay+1)}
	for day := range m.open {
		m.open[day] = !slices.Contains(c.Weekend, modelWeekday(day)) && !slices.Contains(c.Holidays, day)
		date := modelDate(day)
		m.month[day] = date.Year*12 + date.Month
	}
	return m
}

// next is the first business day after day, or -1.
func (m modelCalendar) next(day int) int {
	for day++; day <= impl.MaxDay; day++ {
		if m.open[day] {
			return day
		}
	}
	return -1
}

// previous is the last business day before day, or -1.
func (m modelCalendar) previous(day int) int {
	for day--; day >= 0; day-- {
		if m.open[day] {
			return day
		}
	}
	return -1
}

// roll follows the wording of the document and returns -1 for a day that does not exist.
func (m modelCalendar) roll(day int, convention int) int {
	if m.open[day] {
		return day
	}
	next, previous := m.next(day), m.previous(day)
	switch convention {
	case impl.RollFollowing:
		return next
	case impl.RollPreceding:
		return previous
	case impl.RollModified:
		if next >= 0 && m.month[next] == m.month[day] {
			return next
		}
		return previous
	}
	if previous >= 0 && m.month[previous] == m.month[day] {
		return previous
	}
	return next
}

// checkDay compares a day and its bool with the day that is wanted, or with a failure for -1.
func checkDay(t *testing.T, got int, ok bool, want int, call string, arguments ...any) {
	t.Helper()
	if ok != (want >= 0) || got != max(want, 0) {
		t.Fatalf("%s%v = %d, %v, not %d", call, arguments, got, ok, want)
	}
}

func TestCalendarsWithinTheRulesAreValid(t *testing.T) {
	valid := validCalendars()
	valid["each limit"] = impl.Calendar{Weekend: []int{1, 2, 3, 4, 5, 6}, Holidays: daysFrom(0, 1, impl.MaxHolidays)}
	valid["first and last"] = impl.Calendar{Weekend: []int{0, 6}, Holidays: []int{0, impl.MaxDay}}
	for name, c := range valid {
		if !impl.IsValidCalendar(c) {
			t.Errorf("IsValidCalendar(%s) = false", name)
		}
	}
	for weekday := range 7 {
		if !impl.IsValidCalendar(impl.Calendar{Weekend: []int{weekday}}) {
			t.Errorf("weekday %d", weekday)
		}
	}
}

func TestWeekendsAreValidOnlyInOrder(t *testing.T) {
	lists := [][]int{{}}
	for i := 0; i < len(lists); i++ {
		list := lists[i]
		want := len(list) <= 6
		for j, weekday := range list {
			want = want && 0 <= weekday && weekday <= 6 && (j == 0 || list[j-1] < weekday)
		}
		if got := impl.IsValidCalendar(impl.Calendar{Weekend: list}); got != want {
			t.Fatalf("IsValidCalendar of weekend %v = %v", list, got)
		}
		if len(list) < 4 {
			for weekday := -1; weekday <= 7; weekday++ {
				lists = append(lists, append(slices.Clone(list), weekday))
			}
		}
	}
	for missing := range 7 {
		six := slices.Delete([]int{0, 1, 2, 3, 4, 5, 6}, missing, missing+1)
		if !impl.IsValidCalendar(impl.Calendar{Weekend: six}) {
			t.Errorf("weekend %v", six)
		}
	}
}

// checkRejected calls every function of the chapter, except IsValidCalendar, with a calendar and
// a day of which one is invalid.
func checkRejected(t *testing.T, name string, c impl.Calendar, day int) {
	t.Helper()
	if open, ok := impl.IsBusinessDay(c, day); ok || open {
		t.Errorf("IsBusinessDay(%s, %d) = %v, %v", name, day, open, ok)
	}
	for _, convention := range slices.Concat(allRolls, notConventions) {
		if got, ok := impl.RollDay(c, day, convention); ok || got != 0 {
			t.Errorf("RollDay(%s, %d, %d) = %d, %v", name, day, convention, got, ok)
		}
	}
	for _, n := range []int{0, 1, -1, 1000, -1000, 1001, -1001} {
		if got, ok := impl.AddBusinessDays(c, day, n); ok || got != 0 {
			t.Errorf("AddBusinessDays(%s, %d, %d) = %d, %v", name, day, n, got, ok)
		}
	}
	for _, other := range []int{0, 500, impl.MaxDay, day} {
		if got, ok := impl.CountBusinessDays(c, day, other); ok || got != 0 {
			t.Errorf("CountBusinessDays(%s, %d, %d) = %d, %v", name, day, other, got, ok)
		}
		if got, ok := impl.CountBusinessDays(c, other, day); ok || got != 0 {
			t.Errorf("CountBusinessDays(%s, %d, %d) = %d, %v", name, other, day, got, ok)
		}
	}
	if got, ok := impl.LastBusinessDay(c, day); ok || got != 0 {
		t.Errorf("LastBusinessDay(%s, %d) = %d, %v", name, day, got, ok)
	}
}

// isZeroCalendar reports whether both lists are empty.
func isZeroCalendar(c impl.Calendar) bool { return len(c.Weekend) == 0 && len(c.Holidays) == 0 }

func TestInvalidCalendarsAreRejected(t *testing.T) {
	for name, c := range invalidCalendars() {
		if impl.IsValidCalendar(c) {
			t.Errorf("IsValidCalendar(%s) = true", name)
		}
		for _, day := range []int{0, 2, 91, 500, impl.MaxDay, -1, impl.MaxDay + 1} {
			checkRejected(t, name, c, day)
		}
		for _, pair := range [][2]impl.Calendar{{c, usual()}, {usual(), c}, {c, {}}, {{}, c}, {c, c}} {
			if joined, ok := impl.JoinCalendars(pair[0], pair[1]); ok || !isZeroCalendar(joined) {
				t.Errorf("JoinCalendars with %s = %v, %v", name, joined, ok)
			}
		}
	}
}

func TestDaysOutsideTheRangeAreRejected(t *testing.T) {
	for name, c := range validCalendars() {
		for _, day := range notDays {
			checkRejected(t, name, c, day)
		}
	}
}

func TestIsBusinessDay(t *testing.T) {
	for name, c := range validCalendars() {
		m := newModel(c)
		for day := range m.open {
			if got, ok := impl.IsBusinessDay(c, day); !ok || got != m.open[day] {
				t.Fatalf("IsBusinessDay(%s, %d) = %v, %v", name, day, got, ok)
			}
		}
	}
}

func TestRollDay(t *testing.T) {
	april := dayAt(t, 2000, 4, 1)
	may := dayAt(t, 2000, 5, 1)
	calendars := validCalendars()
	last := impl.MaxDay
	for _, c := range []struct {
		calendar string
		day      int
		want     [4]int // in the order of allRolls, with -1 for a failure
	}{
		{"usual", 0, [4]int{2, 2, -1, 2}}, {"usual", 1, [4]int{2, 2, -1, 2}}, {"usual", 2, [4]int{2, 2, 2, 2}}, {"usual", 7, [4]int{9, 9, 6, 6}},
		{"usual", 8, [4]int{9, 9, 6, 6}}, {"usual", last, [4]int{last, last, last, last}}, {"empty", 0, [4]int{0, 0, 0, 0}},
		{"empty", last, [4]int{last, last, last, last}},
		{"usual", april, [4]int{april + 2, april + 2, april - 1, april + 2}}, {"usual", april + 29, [4]int{may, april + 27, april + 27, april + 27}},
		{"usual", april + 28, [4]int{may, april + 27, april + 27, april + 27}}, {"usual", may, [4]int{may, may, may, may}},
		{"long Easter", april + 20, [4]int{april + 24, april + 24, april + 19, april + 19}},
		{"long Easter", april + 28, [4]int{may + 1, april + 27, april + 27, april + 27}}, {"long Easter", may, [4]int{may + 1, may + 1, april + 27, may + 1}},
		{"no April 2000", april, [4]int{may, april - 1, april - 1, may}}, {"no April 2000", april + 14, [4]int{may, april - 1, april - 1, may}},
		{"no April 2000", april + 29, [4]int{may, april - 1, april - 1, may}},
		{"no January 2000", 0, [4]int{31, -1, -1, 31}}, {"no January 2000", 30, [4]int{31, -1, -1, 31}}, {"no January 2000", 31, [4]int{31, 31, 31, 31}},
		{"no first 40 days", 35, [4]int{40, 40, -1, 40}}, {"no first 40 days", 39, [4]int{40, 40, -1, 40}}, {"no first 40 days", 5, [4]int{40, -1, -1, 40}},
		{"no December 2099", last, [4]int{-1, last - 31, last - 31, -1}}, {"no December 2099", last - 30, [4]int{-1, last - 31, last - 31, -1}},
		{"no last 40 days", last, [4]int{-1, last - 40, last - 40, -1}}, {"no last 40 days", last - 35, [4]int{-1, last - 40, last - 40, last - 40}},
		{"one first of a month", 424, [4]int{425, 397, 397, 397}}, {"one last of a month", 397, [4]int{424, 424, 396, 424}},
		{"first day alone", 30, [4]int{31, 0, 0, 0}}, {"first day alone", 1, [4]int{31, 0, 0, 0}},
		{"last day alone", last - 30, [4]int{last, last, last - 31, last}}, {"last day alone", last - 1, [4]int{last, last, last - 31, last}},
		{"both ends", 0, [4]int{2, 2, -1, 2}}, {"both ends", 1, [4]int{2, 2, -1, 2}}, {"both ends", last, [4]int{-1, last - 2, last - 2, last - 2}},
		{"both ends", last - 1, [4]int{-1, last - 2, last - 2, last - 2}},
		{"no monday in January 2000", 0, [4]int{37, -1, -1, 37}}, {"no monday in January 2000", 36, [4]int{37, 37, -1, 37}},
		{"no monday at the start", 0, [4]int{282, -1, -1, 282}}, {"no monday at the start", 281, [4]int{282, 282, -1, 282}},
		{"no monday at the end", last, [4]int{-1, last - 283, last - 283, -1}},
	} {
		for i, convention := range allRolls {
			got, ok := impl.RollDay(calendars[c.calendar], c.day, convention)
			checkDay(t, got, ok, c.want[i], "RollDay", c.calendar, c.day, convention)
		}
	}
}

func TestARolledDayIsTheNearestOfItsConvention(t *testing.T) {
	for name, c := range validCalendars() {
		m := newModel(c)
		for day := range m.open {
			for _, convention := range allRolls {
				got, ok := impl.RollDay(c, day, convention)
				checkDay(t, got, ok, m.roll(day, convention), "RollDay", name, day, convention)
			}
		}
	}
}

func TestRollDayRejectsOtherConventions(t *testing.T) {
	for name, c := range validCalendars() {
		for _, convention := range notConventions {
			for _, day := range []int{0, 1, 2, 7, 91, impl.MaxDay - 1, impl.MaxDay} {
				got, ok := impl.RollDay(c, day, convention)
				checkDay(t, got, ok, -1, "RollDay", name, day, convention)
			}
		}
	}
}

func TestAddBusinessDays(t *testing.T) {
	last := impl.MaxDay
	calendars := validCalendars()
	for _, c := range []struct {
		calendar string
		day, n   int
		want     int
	}{
		{"usual", 0, 6, 9}, {"usual", 9, -1, 6}, {"usual", 0, 0, 0}, {"usual", 2, 0, 2}, {"usual", 0, 1, 2}, {"usual", 1, 1, 2}, {"usual", 2, 1, 3},
		{"usual", 6, 1, 9}, {"usual", 7, 1, 9}, {"usual", 8, -1, 6}, {"usual", 7, -1, 6}, {"usual", 0, -1, -1}, {"usual", 2, -1, -1}, {"usual", 3, -1, 2},
		{"usual", 9, -5, 2}, {"usual", 9, -6, -1}, {"usual", last, 1, -1}, {"usual", last, 0, last}, {"usual", last, -1, last - 1},
		{"usual", last - 1, 1, last}, {"usual", last - 1, 2, -1}, {"usual", 2, 1000, 1402}, {"usual", 1402, -1000, 2}, {"usual", 1400, -1000, 2}, {"usual", 1399, -1000, -1},
		{"usual", 0, 1000, 1399}, {"usual", 0, 999, 1398}, {"usual", last - 1400, 1000, last}, {"usual", last - 1399, 1000, -1},
		{"empty", 0, 1000, 1000}, {"empty", 1000, -1000, 0}, {"empty", 999, -1000, -1}, {"empty", last - 1000, 1000, last},
		{"empty", last - 999, 1000, -1}, {"empty", last, -1000, last - 1000}, {"empty", 0, -1, -1}, {"empty", last, 1, -1}, {"empty", 0, 0, 0},
		{"only mondays", 0, 1000, 6995}, {"only mondays", 2, 1000, 7002}, {"only mondays", 7002, -1000, 2}, {"only mondays", 6996, -1000, 2}, {"only mondays", 6995, -1000, -1},
		{"no first 40 days", 5, 1, 40}, {"no first 40 days", 5, 0, 5}, {"no first 40 days", 40, -1, -1}, {"no first 40 days", 41, -1, 40},
		{"no last 40 days", last, -1, last - 40}, {"no last 40 days", last - 40, 1, -1}, {"no last 40 days", last, 1, -1}, {"no last 40 days", last, 0, last},
		{"no monday at the end", last - 283, 1, -1}, {"no monday at the end", last, -1, last - 283},
		{"usual", 5000, 1001, -1}, {"usual", 5000, -1001, -1}, {"empty", 5000, 1001, -1}, {"empty", 5000, -1001, -1},
		{"empty", 5000, math.MaxInt, -1}, {"empty", 5000, math.MinInt, -1}, {"empty", 5000, 1<<32 + 1, -1}, {"empty", 5000, -1 << 32, -1},
		{"empty", 5000, 1 << 32, -1}, {"empty", 5000, math.MinInt + 1, -1},
	} {
		got, ok := impl.AddBusinessDays(calendars[c.calendar], c.day, c.n)
		checkDay(t, got, ok, c.want, "AddBusinessDays", c.calendar, c.day, c.n)
	}
}

// modelAdded counts along the list of the business days, and returns -1 beyond its ends.
func modelAdded(days []int, day int, n int) int {
	place, found := slices.BinarySearch(days, day)
	switch {
	case n == 0:
		return day
	case n < 0:
		place += n
	case found:
		place += n
	default:
		place += n - 1
	}
	if place < 0 || place >= len(days) {
		return -1
	}
	return days[place]
}

func TestAddBusinessDaysCountsBusinessDays(t *testing.T) {
	starts := slices.Concat(daysFrom(0, 1, 50), daysFrom(85, 1, 45), daysFrom(1390, 1, 20), daysFrom(6990, 1, 15), daysFrom(7000, 997, 29),
		daysFrom(impl.MaxDay-7010, 1, 20), daysFrom(impl.MaxDay-1410, 1, 20), daysFrom(impl.MaxDay-49, 1, 50))
	for name, c := range validCalendars() {
		days := []int{}
		for day, open := range newModel(c).open {
			if open {
				days = append(days, day)
			}
		}
		for _, day := range starts {
			for _, n := range []int{0, 1, -1, 2, -2, 5, -5, 21, -21, 250, -250, 999, -999, 1000, -1000} {
				got, ok := impl.AddBusinessDays(c, day, n)
				checkDay(t, got, ok, modelAdded(days, day, n), "AddBusinessDays", name, day, n)
			}
		}
	}
}

func TestCountBusinessDays(t *testing.T) {
	last := impl.MaxDay
	calendars := validCalendars()
	for _, c := range []struct {
		calendar string
		from, to int
		want     int
	}{
		{"usual", 0, 9, 5}, {"usual", 0, 0, 0}, {"usual", 2, 2, 0}, {"usual", last, last, 0}, {"usual", 2, 3, 1}, {"usual", 0, 1, 0}, {"usual", 0, 2, 0},
		{"usual", 0, 3, 1}, {"usual", 6, 9, 1}, {"usual", 7, 9, 0}, {"usual", 6, 10, 2}, {"usual", 2, 9, 5}, {"usual", 2, 16, 10}, {"usual", last - 1, last, 1},
		{"empty", 0, last, last}, {"empty", last - 1, last, 1}, {"empty", 5, 6, 1}, {"only mondays", 0, 700, 100}, {"only mondays", 0, 3, 1},
		{"only mondays", 3, 9, 0}, {"usual", 0, last, 26088}, {"no first 40 days", 0, 40, 0}, {"no first 40 days", 0, 41, 1},
		{"no last 40 days", last - 40, last, 1}, {"no last 40 days", last - 39, last, 0}, {"both ends", 0, last, last - 3}, {"no April 2000", 91, 121, 0},
		{"usual", 1, 0, -1}, {"usual", 9, 0, -1}, {"usual", last, last - 1, -1}, {"usual", last, 0, -1}, {"empty", 3, 2, -1},
	} {
		got, ok := impl.CountBusinessDays(calendars[c.calendar], c.from, c.to)
		checkDay(t, got, ok, c.want, "CountBusinessDays", c.calendar, c.from, c.to)
	}
}

func TestCountBusinessDaysLeavesOutItsEnd(t *testing.T) {
	bounds := slices.Concat(daysFrom(0, 1, 12), daysFrom(30, 1, 12), []int{91, 121, 282, 366, 7002, 20000}, daysFrom(impl.MaxDay-41, 1, 42))
	for name, c := range validCalendars() {
		before := []int{0}
		for day, open := range newModel(c).open {
			before = append(before, before[day])
			if open {
				before[day+1]++
			}
		}
		for _, from := range bounds {
			for _, to := range bounds {
				want := -1
				if from <= to {
					want = before[to] - before[from]
				}
				// Long ranges take long to count; a few of them are enough.
				if to-from > 5000 && from%10 != 0 {
					continue
				}
				got, ok := impl.CountBusinessDays(c, from, to)
				checkDay(t, got, ok, want, "CountBusinessDays", name, from, to)
			}
		}
	}
}

func TestLastBusinessDay(t *testing.T) {
	last := impl.MaxDay
	april := dayAt(t, 2000, 4, 1)
	calendars := validCalendars()
	for _, c := range []struct {
		calendar string
		day      int
		want     int
	}{
		{"usual", april, april + 27}, {"usual", april + 27, april + 27}, {"usual", april + 29, april + 27}, {"usual", 0, 30}, {"usual", 30, 30},
		{"usual", 31, 59}, {"usual", last, last}, {"usual", last - 30, last}, {"empty", 0, 30}, {"empty", last, last}, {"empty", 31, 59}, {"empty", 400, 424},
		{"no April 2000", april, -1}, {"no April 2000", april + 15, -1}, {"no April 2000", april + 29, -1}, {"no April 2000", april - 1, april - 1},
		{"no January 2000", 0, -1}, {"no January 2000", 30, -1}, {"no January 2000", 31, 59}, {"no first 40 days", 35, 59},
		{"no December 2099", last, -1}, {"no December 2099", last - 30, -1}, {"no December 2099", last - 31, last - 31},
		{"no last 40 days", last, -1}, {"no last 40 days", last - 35, last - 40}, {"both ends", last, last - 2}, {"both ends", last - 30, last - 2},
		{"no monday in January 2000", 12, -1}, {"no monday at the end", last, -1}, {"no monday at the end", last - 200, -1}, {"only mondays", 0, 30},
		{"one first of a month", 397, 397}, {"one first of a month", 424, 397}, {"one last of a month", 397, 424}, {"one last of a month", 424, 424},
	} {
		got, ok := impl.LastBusinessDay(calendars[c.calendar], c.day)
		checkDay(t, got, ok, c.want, "LastBusinessDay", c.calendar, c.day)
	}
}

func TestLastBusinessDayOfEveryMonth(t *testing.T) {
	for name, c := range validCalendars() {
		m := newModel(c)
		lastOf := map[int]int{}
		for day, open := range m.open {
			if open {
				lastOf[m.month[day]] = day
			}
		}
		for day := range m.open {
			want, found := lastOf[m.month[day]]
			if !found {
				want = -1
			}
			got, ok := impl.LastBusinessDay(c, day)
			checkDay(t, got, ok, want, "LastBusinessDay", name, day)
		}
	}
}

func TestJoinCalendars(t *testing.T) {
	forty := daysFrom(0, 1, impl.MaxHolidays)
	for _, c := range []struct{ a, b, want impl.Calendar }{
		{impl.Calendar{}, impl.Calendar{}, impl.Calendar{}},
		{usual(), impl.Calendar{}, usual()},
		{usual(), usual(), usual()},
		{usual(), impl.Calendar{Weekend: []int{4, 5}, Holidays: []int{3}}, impl.Calendar{Weekend: []int{4, 5, 6}, Holidays: []int{3}}},
		{impl.Calendar{Holidays: []int{1, 5, 9}}, impl.Calendar{Holidays: []int{0, 5, 7, 9, 12}}, impl.Calendar{Holidays: []int{0, 1, 5, 7, 9, 12}}},
		{impl.Calendar{Weekend: []int{0, 2, 4}}, impl.Calendar{Weekend: []int{1, 3, 4}}, impl.Calendar{Weekend: []int{0, 1, 2, 3, 4}}},
		{impl.Calendar{Weekend: []int{0, 1, 2}}, impl.Calendar{Weekend: []int{3, 4, 5}}, impl.Calendar{Weekend: []int{0, 1, 2, 3, 4, 5}}},
		{impl.Calendar{Weekend: []int{0, 6}, Holidays: []int{0, impl.MaxDay}}, impl.Calendar{Holidays: []int{impl.MaxDay}}, impl.Calendar{Weekend: []int{0, 6}, Holidays: []int{0, impl.MaxDay}}},
		// A holiday stays one where it falls on the weekend of the other calendar.
		{usual(), impl.Calendar{Holidays: []int{0}}, impl.Calendar{Weekend: []int{5, 6}, Holidays: []int{0}}},
		{impl.Calendar{Holidays: forty}, impl.Calendar{Holidays: forty}, impl.Calendar{Holidays: forty}},
		{impl.Calendar{Holidays: forty}, impl.Calendar{}, impl.Calendar{Holidays: forty}},
		{impl.Calendar{Holidays: forty[:25]}, impl.Calendar{Holidays: forty[15:]}, impl.Calendar{Holidays: forty}},
		{impl.Calendar{Holidays: daysFrom(0, 2, 20)}, impl.Calendar{Holidays: daysFrom(1, 2, 20)}, impl.Calendar{Holidays: forty}},
	} {
		for _, pair := range [][2]impl.Calendar{{c.a, c.b}, {c.b, c.a}} {
			got, ok := impl.JoinCalendars(pair[0], pair[1])
			if !ok || !slices.Equal(got.Weekend, c.want.Weekend) || !slices.Equal(got.Holidays, c.want.Holidays) {
				t.Errorf("JoinCalendars(%v) = %v, %v", pair, got, ok)
			}
		}
	}
}

func TestJoinCalendarsRejectsTooLongLists(t *testing.T) {
	forty := daysFrom(0, 1, impl.MaxHolidays)
	for _, c := range [][2]impl.Calendar{
		{{Weekend: []int{0, 1, 2, 3}}, {Weekend: []int{4, 5, 6}}},
		{{Weekend: []int{0, 1, 2, 3, 4, 5}}, {Weekend: []int{6}}},
		{{Weekend: []int{0, 1, 2, 3, 4, 5}}, {Weekend: []int{1, 2, 3, 4, 5, 6}}},
		{{Weekend: []int{0, 2, 4, 6}, Holidays: []int{1}}, {Weekend: []int{1, 3, 5}, Holidays: []int{2}}},
		{{Holidays: forty}, {Holidays: []int{impl.MaxHolidays}}},
		{{Holidays: forty}, {Weekend: []int{5}, Holidays: []int{0, 39, 40}}},
		{{Holidays: daysFrom(0, 2, 21)}, {Holidays: daysFrom(1, 2, 20)}},
		{{Holidays: forty}, {Holidays: daysFrom(impl.MaxDay-39, 1, 40)}},
		{{Weekend: []int{0, 1, 2, 3}, Holidays: forty}, {Weekend: []int{4, 5, 6}, Holidays: []int{40}}},
	} {
		for _, pair := range [][2]impl.Calendar{{c[0], c[1]}, {c[1], c[0]}} {
			if got, ok := impl.JoinCalendars(pair[0], pair[1]); ok || !isZeroCalendar(got) {
				t.Errorf("JoinCalendars(%v) = %v, %v", pair, got, ok)
			}
		}
	}
}

func TestJoinedCalendarsAreOpenWhereBothAre(t *testing.T) {
	joins := 0
	calendars := validCalendars()
	for nameA, a := range calendars {
		for nameB, b := range calendars {
			weekdays, days := map[int]bool{}, map[int]bool{}
			for _, c := range []impl.Calendar{a, b} {
				for _, weekday := range c.Weekend {
					weekdays[weekday] = true
				}
				for _, day := range c.Holidays {
					days[day] = true
				}
			}
			joined, ok := impl.JoinCalendars(a, b)
			if want := len(weekdays) < 7 && len(days) <= impl.MaxHolidays; ok != want {
				t.Fatalf("JoinCalendars(%s, %s) = %v, %v", nameA, nameB, joined, ok)
			}
			if !ok {
				continue
			}
			joins++
			if !impl.IsValidCalendar(joined) || len(joined.Weekend) != len(weekdays) || len(joined.Holidays) != len(days) {
				t.Fatalf("JoinCalendars(%s, %s) = %v", nameA, nameB, joined)
			}
			for day := 0; day <= impl.MaxDay; day++ {
				openA, _ := impl.IsBusinessDay(a, day)
				openB, _ := impl.IsBusinessDay(b, day)
				if open, ok := impl.IsBusinessDay(joined, day); !ok || open != (openA && openB) {
					t.Fatalf("day %d of %s and %s joined: %v, %v", day, nameA, nameB, open, ok)
				}
			}
		}
	}
	if joins < 100 {
		t.Error("calendars joined", joins)
	}
}

// spacious returns a calendar whose lists have elements beyond their lengths, and all elements
// of these lists.
func spacious(c impl.Calendar) (impl.Calendar, []int, []int) {
	weekend := append(slices.Clone(c.Weekend), 3, -1, 3)
	holidays := append(slices.Clone(c.Holidays), 1, -1, impl.MaxDay+1)
	return impl.Calendar{Weekend: weekend[:len(c.Weekend)], Holidays: holidays[:len(c.Holidays)]}, weekend, holidays
}

func TestCalendarsAreNotChanged(t *testing.T) {
	calendars := validCalendars()
	for name, c := range invalidCalendars() {
		calendars[name] = c
	}
	for name, c := range calendars {
		given, weekend, holidays := spacious(c)
		weekendBefore, holidaysBefore := slices.Clone(weekend), slices.Clone(holidays)
		if impl.IsValidCalendar(given) != impl.IsValidCalendar(c) {
			t.Errorf("elements of %s beyond the lengths of its lists were read", name)
		}
		for _, day := range []int{-1, 0, 1, 100, impl.MaxDay, impl.MaxDay + 1} {
			open, _ := impl.IsBusinessDay(given, day)
			if want, _ := impl.IsBusinessDay(c, day); open != want {
				t.Errorf("IsBusinessDay(%s, %d) = %v", name, day, open)
			}
			for _, convention := range allRolls {
				impl.RollDay(given, day, convention)
			}
			impl.AddBusinessDays(given, day, 20)
			impl.AddBusinessDays(given, day, -20)
			impl.CountBusinessDays(given, 0, day)
			impl.LastBusinessDay(given, day)
		}
		for _, other := range []impl.Calendar{{}, usual(), onlyMondays(1, 2, 3), given} {
			impl.JoinCalendars(given, other)
			impl.JoinCalendars(other, given)
		}
		if !slices.Equal(weekend, weekendBefore) || !slices.Equal(holidays, holidaysBefore) {
			t.Errorf("%s was changed: %v, %v", name, weekend, holidays)
		}
	}
}

func TestJoinedCalendarsShareNoMemory(t *testing.T) {
	for _, pair := range [][2]impl.Calendar{
		{{Weekend: []int{5, 6}, Holidays: []int{3, 4}}, {}},
		{{Weekend: []int{5, 6}, Holidays: []int{3, 4}}, {Weekend: []int{5, 6}, Holidays: []int{3, 4}}},
		{{Weekend: []int{5}, Holidays: []int{3}}, {Weekend: []int{6}, Holidays: []int{4}}},
	} {
		a, weekendA, holidaysA := spacious(pair[0])
		b, weekendB, holidaysB := spacious(pair[1])
		for _, order := range [][2]impl.Calendar{{a, b}, {b, a}} {
			joined, ok := impl.JoinCalendars(order[0], order[1])
			if !ok || len(joined.Weekend) != 2 || len(joined.Holidays) != 2 {
				t.Fatalf("JoinCalendars(%v) = %v, %v", order, joined, ok)
			}
			before := slices.Concat(weekendA, holidaysA, weekendB, holidaysB)
			whole := joined.Weekend[:cap(joined.Weekend)]
			for i := range whole {
				whole[i] = 99
			}
			if !slices.Equal(joined.Holidays, []int{3, 4}) {
				t.Errorf("the lists of a joined calendar share memory: %v", joined)
			}
			whole = joined.Holidays[:cap(joined.Holidays)]
			for i := range whole {
				whole[i] = 99
			}
			if !slices.Equal(slices.Concat(weekendA, holidaysA, weekendB, holidaysB), before) {
				t.Errorf("a joined calendar shares memory with %v", order)
			}
		}
	}
}

func TestDayCount(t *testing.T) {
	for _, c := range []struct {
		from, to string
		want     [4]impl.Fraction // in the order of allCounts
	}{
		{"2001-01-31", "2001-03-01", [4]impl.Fraction{{Num: 29, Den: 360}, {Num: 29, Den: 365}, {Num: 31, Den: 360}, {Num: 29, Den: 365}}},
		{"2000-12-31", "2001-01-02", [4]impl.Fraction{{Num: 1, Den: 180}, {Num: 2, Den: 365}, {Num: 1, Den: 180}, {Num: 731, Den: 133590}}},
		{"2000-01-01", "2000-01-01", [4]impl.Fraction{{Num: 0, Den: 1}, {Num: 0, Den: 1}, {Num: 0, Den: 1}, {Num: 0, Den: 1}}},
		{"2001-01-31", "2001-01-31", [4]impl.Fraction{{Num: 0, Den: 1}, {Num: 0, Den: 1}, {Num: 0, Den: 1}, {Num: 0, Den: 1}}},
		{"2099-12-31", "2099-12-31", [4]impl.Fraction{{Num: 0, Den: 1}, {Num: 0, Den: 1}, {Num: 0, Den: 1}, {Num: 0, Den: 1}}},
		{"2000-01-01", "2000-03-31", [4]impl.Fraction{{Num: 1, Den: 4}, {Num: 18, Den: 73}, {Num: 89, Den: 360}, {Num: 15, Den: 61}}},
		{"2001-01-30", "2001-01-31", [4]impl.Fraction{{Num: 1, Den: 360}, {Num: 1, Den: 365}, {Num: 0, Den: 1}, {Num: 1, Den: 365}}},
		{"2001-01-29", "2001-01-31", [4]impl.Fraction{{Num: 1, Den: 180}, {Num: 2, Den: 365}, {Num: 1, Den: 360}, {Num: 2, Den: 365}}},
		{"2001-01-31", "2001-02-01", [4]impl.Fraction{{Num: 1, Den: 360}, {Num: 1, Den: 365}, {Num: 1, Den: 360}, {Num: 1, Den: 365}}},
		{"2001-01-31", "2001-03-31", [4]impl.Fraction{{Num: 59, Den: 360}, {Num: 59, Den: 365}, {Num: 1, Den: 6}, {Num: 59, Den: 365}}},
		{"2001-01-30", "2001-03-31", [4]impl.Fraction{{Num: 1, Den: 6}, {Num: 12, Den: 73}, {Num: 1, Den: 6}, {Num: 12, Den: 73}}},
		{"2001-02-28", "2001-03-01", [4]impl.Fraction{{Num: 1, Den: 360}, {Num: 1, Den: 365}, {Num: 1, Den: 120}, {Num: 1, Den: 365}}},
		{"2000-02-28", "2000-03-01", [4]impl.Fraction{{Num: 1, Den: 180}, {Num: 2, Den: 365}, {Num: 1, Den: 120}, {Num: 1, Den: 183}}},
		{"2000-02-29", "2000-03-01", [4]impl.Fraction{{Num: 1, Den: 360}, {Num: 1, Den: 365}, {Num: 1, Den: 180}, {Num: 1, Den: 366}}},
		{"2001-02-28", "2001-03-31", [4]impl.Fraction{{Num: 31, Den: 360}, {Num: 31, Den: 365}, {Num: 4, Den: 45}, {Num: 31, Den: 365}}},
		{"2000-01-01", "2001-01-01", [4]impl.Fraction{{Num: 61, Den: 60}, {Num: 366, Den: 365}, {Num: 1, Den: 1}, {Num: 1, Den: 1}}},
		{"2001-01-01", "2002-01-01", [4]impl.Fraction{{Num: 73, Den: 72}, {Num: 1, Den: 1}, {Num: 1, Den: 1}, {Num: 1, Den: 1}}},
		{"2000-01-01", "2004-01-01", [4]impl.Fraction{{Num: 487, Den: 120}, {Num: 1461, Den: 365}, {Num: 4, Den: 1}, {Num: 4, Den: 1}}},
		{"2003-07-01", "2004-07-01", [4]impl.Fraction{{Num: 61, Den: 60}, {Num: 366, Den: 365}, {Num: 1, Den: 1}, {Num: 66887, Den: 66795}}},
		{"2003-12-31", "2004-01-01", [4]impl.Fraction{{Num: 1, Den: 360}, {Num: 1, Den: 365}, {Num: 1, Den: 360}, {Num: 1, Den: 365}}},
		{"2004-12-31", "2005-01-01", [4]impl.Fraction{{Num: 1, Den: 360}, {Num: 1, Den: 365}, {Num: 1, Den: 360}, {Num: 1, Den: 366}}},
		{"2000-01-01", "2099-12-31", [4]impl.Fraction{{Num: 9131, Den: 90}, {Num: 36524, Den: 365}, {Num: 35999, Den: 360}, {Num: 36499, Den: 365}}},
	} {
		from, ok1 := impl.ParseDate(c.from)
		to, ok2 := impl.ParseDate(c.to)
		if !ok1 || !ok2 {
			t.Fatal("no dates", c.from, c.to)
		}
		for i, convention := range allCounts {
			if got, ok := impl.DayCount(from, to, convention); !ok || got != c.want[i] {
				t.Errorf("DayCount(%s, %s, %d) = %v, %v", c.from, c.to, convention, got, ok)
			}
		}
	}
}

// modelCount follows the wording of the document with rational numbers.
func modelCount(from int, to int, convention int) *big.Rat {
	switch convention {
	case impl.CountActual360:
		return big.NewRat(int64(to-from), 360)
	case impl.CountActual365:
		return big.NewRat(int64(to-from), 365)
	case impl.CountThirty360:
		first, second := modelDate(from), modelDate(to)
		for _, d := range []*impl.Date{&first, &second} {
			if d.Day == 31 {
				d.Day = 30
			}
		}
		return big.NewRat(int64(360*(second.Year-first.Year)+30*(second.Month-first.Month)+(second.Day-first.Day)), 360)
	}
	sum := new(big.Rat)
	for from < to {
		year := modelTime(from).Year()
		days := 0
		for from < to && modelTime(from).Year() == year {
			from, days = from+1, days+1
		}
		length := 365
		if modelLength(year, 2) == 29 {
			length = 366
		}
		sum.Add(sum, big.NewRat(int64(days), int64(length)))
	}
	return sum
}

// checkCount compares DayCount with modelCount for every convention.
func checkCount(t *testing.T, from int, to int) {
	t.Helper()
	for _, convention := range allCounts {
		want, valid := modelFraction(modelCount(from, to, convention))
		if got, ok := impl.DayCount(from, to, convention); !valid || !ok || got != want {
			t.Fatalf("DayCount(%d, %d, %d) = %v, %v, not %v", from, to, convention, got, ok, want)
		}
	}
}

func TestDayCountIsExact(t *testing.T) {
	for _, first := range []int{0, dayAt(t, 2000, 12, 1), dayAt(t, 2003, 12, 25), impl.MaxDay - 69} {
		for from := first; from < first+70; from++ {
			for to := from; to < first+70; to++ {
				checkCount(t, from, to)
			}
		}
	}
	for _, from := range []int{0, 1, 58, 59, 60, 365, 366, 1460, 1461, 18262, 20000} {
		for _, to := range []int{365, 366, 367, 731, 1460, 1461, 1520, 1826, 18261, 20000, impl.MaxDay - 365, impl.MaxDay - 364, impl.MaxDay - 1, impl.MaxDay} {
			if from <= to {
				checkCount(t, from, to)
			}
		}
	}
}

func TestDayCountRejects(t *testing.T) {
	for _, convention := range slices.Concat(allCounts, notConventions) {
		pairs := [][2]int{{1, 0}, {366, 365}, {impl.MaxDay, 0}, {impl.MaxDay, impl.MaxDay - 1}, {-2, -1}, {impl.MaxDay + 1, impl.MaxDay + 2}}
		for _, day := range notDays {
			pairs = append(pairs, [2]int{day, 100}, [2]int{100, day}, [2]int{day, day}, [2]int{0, day}, [2]int{day, impl.MaxDay})
		}
		for _, pair := range pairs {
			if got, ok := impl.DayCount(pair[0], pair[1], convention); ok || got != (impl.Fraction{}) {
				t.Errorf("DayCount(%v, %d) = %v, %v", pair, convention, got, ok)
			}
		}
	}
	for _, convention := range notConventions {
		for _, pair := range [][2]int{{0, 0}, {0, 1}, {0, 360}, {5, 500}, {impl.MaxDay, impl.MaxDay}, {0, impl.MaxDay}} {
			if got, ok := impl.DayCount(pair[0], pair[1], convention); ok || got != (impl.Fraction{}) {
				t.Errorf("DayCount(%v, %d) = %v, %v", pair, convention, got, ok)
			}
		}
	}
}
