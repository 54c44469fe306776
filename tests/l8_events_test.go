package tests

import (
	"maps"
	"math"
	"math/rand"
	"slices"
	"strconv"
	"strings"
	"testing"

	"loop.example/g00902/impl"
)

// partyCounts are the numbers of parties that a contract may have.
var partyCounts = []int{2, 3, impl.MaxParties}

// notPartyCounts are numbers of parties that no contract has.
var notPartyCounts = []int{0, 1, impl.MaxParties + 1, -1, -2, 100, 1<<32 + 2, math.MinInt, math.MaxInt}

// modelCompare decides by the first field in which two events differ.
func modelCompare(a impl.Event, b impl.Event) int {
	less := false
	switch {
	case a == b:
		return 0
	case a.Day != b.Day:
		less = a.Day < b.Day
	case a.Party != b.Party:
		less = a.Party < b.Party
	case a.Action != b.Action:
		less = impl.LessString(a.Action, b.Action)
	default:
		less = a.Amount < b.Amount
	}
	if less {
		return -1
	}
	return 1
}

// modelSorted returns the events in ascending order: each one is put behind those that are not
// greater.
func modelSorted(list []impl.Event) []impl.Event {
	sorted := []impl.Event{}
	for _, e := range list {
		at := len(sorted)
		for at > 0 && modelCompare(sorted[at-1], e) > 0 {
			at--
		}
		sorted = slices.Insert(sorted, at, e)
	}
	return sorted
}

// timesOf counts how often each event is in a list.
func timesOf(lists ...[]impl.Event) map[impl.Event]int {
	times := map[impl.Event]int{}
	for _, list := range lists {
		for _, e := range list {
			times[e]++
		}
	}
	return times
}

// modelCountActions returns the number and the Amounts of the events with a Party and an Action.
func modelCountActions(list []impl.Event, party int, action string) (int, int) {
	count, sum := 0, 0
	for e, times := range timesOf(list) {
		if e.Party == party && e.Action == action {
			count += times
			sum += times * e.Amount
		}
	}
	return count, sum
}

// modelEventDays returns the Days of a list.
func modelEventDays(list []impl.Event) []int {
	days := map[int]bool{}
	for _, e := range list {
		days[e.Day] = true
	}
	return slices.Sorted(maps.Keys(days))
}

// modelBetween returns the events of a list with a Day in from..to.
func modelBetween(list []impl.Event, from int, to int) []impl.Event {
	between := []impl.Event{}
	for _, e := range list {
		if e.Day >= from && e.Day <= to {
			between = append(between, e)
		}
	}
	return between
}

// shiftedBy returns the events, days later, whether there are such days or not.
func shiftedBy(list []impl.Event, days int) []impl.Event {
	shifted := slices.Clone(list)
	for i := range shifted {
		shifted[i].Day += days
	}
	return shifted
}

// checkEventsAre checks the events that a call returned.
func checkEventsAre(t *testing.T, call string, got []impl.Event, ok bool, want []impl.Event) {
	t.Helper()
	if !ok || !slices.Equal(got, want) {
		t.Errorf("%s = %+v, %v, not %+v", call, got, ok, want)
	}
}

// checkNoEventsAre checks that a call returned no events.
func checkNoEventsAre(t *testing.T, call string, got []impl.Event, ok bool) {
	t.Helper()
	if ok || len(got) > 0 {
		t.Errorf("%s = %+v, %v", call, got, ok)
	}
}

// checkSorted checks the order of valid events, that none of them is lost, and that they are an
// event list if and only if they are in order.
func checkSorted(t *testing.T, list []impl.Event, parties int) {
	t.Helper()
	want := modelSorted(list)
	got, ok := impl.SortEvents(list, parties)
	checkEventsAre(t, "SortEvents", got, ok, want)
	if !maps.Equal(timesOf(got), timesOf(list)) || !impl.IsValidEvents(got, parties) {
		t.Errorf("SortEvents(%+v) = %+v", list, got)
	}
	again, ok := impl.SortEvents(got, parties)
	checkEventsAre(t, "SortEvents of sorted events", again, ok, want)
	if valid := impl.IsValidEvents(list, parties); valid != slices.Equal(list, want) {
		t.Errorf("IsValidEvents(%+v) = %v", list, valid)
	}
}

// checkIsList checks what the functions that take one event list return for a valid one.
func checkIsList(t *testing.T, list []impl.Event, parties int) {
	t.Helper()
	if !impl.IsValidEvents(list, parties) {
		t.Errorf("IsValidEvents(%+v, %d) = false", list, parties)
	}
	checkSorted(t, list, parties)
	for _, other := range [][]impl.Event{nil, {}} {
		got, ok := impl.MergeEvents(list, other, parties)
		checkEventsAre(t, "MergeEvents with none", got, ok, list)
		got, ok = impl.MergeEvents(other, list, parties)
		checkEventsAre(t, "MergeEvents of none", got, ok, list)
	}
	got, ok := impl.EventsBetween(list, parties, 0, impl.MaxDay)
	checkEventsAre(t, "EventsBetween all days", got, ok, list)
	got, ok = impl.ShiftEvents(list, parties, 0)
	checkEventsAre(t, "ShiftEvents by 0", got, ok, list)
	for _, e := range append(slices.Clone(list), impl.Event{Party: 1, Action: "nothing"}) {
		checkCounted(t, list, parties, e.Party, e.Action)
	}
	checkDays(t, list, parties)
}

// checkCounted checks the number and the Amounts of the events of an event list with a Party and
// an Action.
func checkCounted(t *testing.T, list []impl.Event, parties int, party int, action string) {
	t.Helper()
	want, wantSum := modelCountActions(list, party, action)
	if count, sum, ok := impl.CountActions(list, parties, party, action); !ok || count != want || sum != wantSum {
		t.Errorf("CountActions(%+v, %d, %d, %.20q) = %d, %d, %v, not %d, %d", list, parties, party, action, count, sum, ok, want, wantSum)
	}
}

// checkDays checks the Days of an event list.
func checkDays(t *testing.T, list []impl.Event, parties int) {
	t.Helper()
	if days, ok := impl.EventDays(list, parties); !ok || !slices.Equal(days, modelEventDays(list)) {
		t.Errorf("EventDays(%+v, %d) = %v, %v", list, parties, days, ok)
	}
}

// checkIsNoList checks that every function that takes an event list rejects this one.
func checkIsNoList(t *testing.T, name string, list []impl.Event, parties int) {
	t.Helper()
	if impl.IsValidEvents(list, parties) {
		t.Errorf("IsValidEvents(%.60s, %d) = true", name, parties)
	}
	right := []impl.Event{{Day: 3, Party: 1, Action: "act"}}
	for _, other := range [][]impl.Event{nil, right, list} {
		got, ok := impl.MergeEvents(list, other, parties)
		checkNoEventsAre(t, "MergeEvents of "+name, got, ok)
		got, ok = impl.MergeEvents(other, list, parties)
		checkNoEventsAre(t, "MergeEvents with "+name, got, ok)
	}
	for _, days := range [][2]int{{0, impl.MaxDay}, {9, 3}, {math.MinInt, math.MaxInt}} {
		got, ok := impl.EventsBetween(list, parties, days[0], days[1])
		checkNoEventsAre(t, "EventsBetween of "+name, got, ok)
	}
	for _, days := range []int{0, 1, -1, 100, -100} {
		got, ok := impl.ShiftEvents(list, parties, days)
		checkNoEventsAre(t, "ShiftEvents of "+name, got, ok)
	}
	for _, e := range append(slices.Clone(list[:min(9, len(list))]), impl.Event{Party: 0, Action: "act"}) {
		if count, sum, ok := impl.CountActions(list, parties, e.Party, e.Action); ok || count != 0 || sum != 0 {
			t.Errorf("CountActions(%.60s, %d) = %d, %d, %v", name, parties, count, sum, ok)
		}
	}
	if days, ok := impl.EventDays(list, parties); ok || len(days) > 0 {
		t.Errorf("EventDays(%.60s, %d) = %v, %v", name, parties, days, ok)
	}
}

// checkUnsortable checks that events are no event list and cannot be sorted to one.
func checkUnsortable(t *testing.T, name string, list []impl.Event, parties int) {
	t.Helper()
	checkIsNoList(t, name, list, parties)
	got, ok := impl.SortEvents(list, parties)
	checkNoEventsAre(t, "SortEvents of "+name, got, ok)
}

// randomEvents are valid events in any order, of which many are equal or alike in some fields.
func randomEvents(random *rand.Rand, count int, parties int, days ...int) []impl.Event {
	list := make([]impl.Event, count)
	for i := range list {
		list[i] = impl.Event{
			Day:    days[random.Intn(len(days))],
			Party:  random.Intn(parties),
			Action: []string{"a", "ab", "b"}[random.Intn(3)],
			Amount: []int{0, 1, impl.MaxPrice}[random.Intn(3)],
		}
	}
	return list
}

// sameEvents is an event as often as count.
func sameEvents(count int) []impl.Event {
	return slices.Repeat([]impl.Event{{Day: 9, Party: 1, Action: "act", Amount: 5}}, count)
}

// dailyEvents are events of count days from first.
func dailyEvents(first int, count int) []impl.Event {
	list := make([]impl.Event, count)
	for i := range list {
		list[i] = impl.Event{Day: first + i, Party: i % 2, Action: "act", Amount: i}
	}
	return list
}

func TestEventsAreComparedByTheirFirstDifference(t *testing.T) {
	list := ascendingEvents()
	for i, a := range list {
		for k, b := range list {
			want := 0
			if i < k {
				want = -1
			} else if i > k {
				want = 1
			}
			if got := impl.CompareEvents(a, b); got != want {
				t.Fatalf("CompareEvents(%+v, %+v) = %d", a, b, got)
			}
		}
	}
}

func TestAnyEventsAreCompared(t *testing.T) {
	list := []impl.Event{{}}
	for _, day := range []int{math.MinInt, -1, impl.MaxDay + 1, math.MaxInt} {
		for _, party := range []int{math.MinInt, -1, 0, math.MaxInt} {
			for _, action := range []string{"", "\x00", "A", "a", "a\x00", "abcdefghi", "true", "\xff"} {
				for _, amount := range []int{math.MinInt, math.MinInt + 1, -1, 0, impl.MaxPrice + 1, math.MaxInt} {
					list = append(list, impl.Event{Day: day, Party: party, Action: action, Amount: amount})
				}
			}
		}
	}
	for _, a := range list {
		for _, b := range list {
			if got := impl.CompareEvents(a, b); got != modelCompare(a, b) {
				t.Fatalf("CompareEvents(%+v, %+v) = %d", a, b, got)
			}
		}
	}
}

func TestActionsAreComparedByByte(t *testing.T) {
	long := strings.Repeat("a", 1000000)
	for _, x := range []struct {
		a, b string
		want int
	}{
		{"pay", "pay", 0}, {"", "", 0}, {"pa", "pay", -1}, {"pay", "pa", 1}, {"", "a", -1}, {"pay", "paz", -1}, {"pay9", "paya", -1}, {"pb", "pay", 1},
		{"Z", "a", -1}, {"z", "\x80", -1}, {"é", "z", 1}, {"\xff", "ÿ", 1}, {long, long + "a", -1}, {long + "b", long + "a", 1}, {long, "b", -1}, {long, strings.Clone(long), 0},
	} {
		if got := impl.CompareEvents(impl.Event{Action: x.a, Amount: 9}, impl.Event{Action: x.b, Amount: 9}); got != x.want {
			t.Errorf("CompareEvents of %.20q and %.20q = %d", x.a, x.b, got)
		}
		if got := impl.CompareEvents(impl.Event{Action: x.b, Amount: -9}, impl.Event{Action: x.a, Amount: -9}); got != -x.want {
			t.Errorf("CompareEvents of %.20q and %.20q = %d", x.b, x.a, got)
		}
	}
}

func TestEarlierFieldsDecide(t *testing.T) {
	a := impl.Event{Day: 5, Party: 2, Action: "m", Amount: 50}
	for name, b := range map[string]impl.Event{
		"Day":    {Day: 6, Party: 0, Action: "a", Amount: 0},
		"Party":  {Day: 5, Party: 3, Action: "a", Amount: 0},
		"Action": {Day: 5, Party: 2, Action: "ma", Amount: 0},
		"Amount": {Day: 5, Party: 2, Action: "m", Amount: 51},
	} {
		if impl.CompareEvents(a, b) != -1 || impl.CompareEvents(b, a) != 1 {
			t.Errorf("%s: CompareEvents = %d, %d", name, impl.CompareEvents(a, b), impl.CompareEvents(b, a))
		}
		checkIsList(t, []impl.Event{a, b}, impl.MaxParties)
		checkIsNoList(t, name, []impl.Event{b, a}, impl.MaxParties)
		got, ok := impl.SortEvents([]impl.Event{b, a, b}, impl.MaxParties)
		checkEventsAre(t, name, got, ok, []impl.Event{a, b, b})
		got, ok = impl.MergeEvents([]impl.Event{b}, []impl.Event{a}, impl.MaxParties)
		checkEventsAre(t, name, got, ok, []impl.Event{a, b})
	}
}

func TestNumbersOfEventsOfLists(t *testing.T) {
	for _, parties := range partyCounts {
		for count := range impl.MaxEvents + 3 {
			for name, list := range map[string][]impl.Event{"same": sameEvents(count), "daily": dailyEvents(0, count)} {
				if count <= impl.MaxEvents {
					checkIsList(t, list, parties)
				} else {
					checkUnsortable(t, name+" "+strconv.Itoa(count), list, parties)
				}
			}
		}
		checkIsList(t, nil, parties)
		checkUnsortable(t, "a million", make([]impl.Event, 1000000), parties)
		checkUnsortable(t, "a million valid ones", sameEvents(1000000), parties)
	}
}

func TestNumbersOfPartiesOfLists(t *testing.T) {
	for _, parties := range notPartyCounts {
		for name, list := range map[string][]impl.Event{"nil": nil, "empty": {}, "one": {{Action: "act"}}, "two": {{Action: "act"}, {Action: "act"}}} {
			checkUnsortable(t, name, list, parties)
		}
	}
	for _, parties := range partyCounts {
		for party := -1; party <= impl.MaxParties+1; party++ {
			list := []impl.Event{{Day: 2, Party: party, Action: "act"}}
			if 0 <= party && party < parties {
				checkIsList(t, list, parties)
			} else {
				checkUnsortable(t, "party "+strconv.Itoa(party), list, parties)
			}
		}
	}
}

// oddEvents are events that are valid for no number of parties, and differ from a valid one in
// one field.
func oddEvents() map[string]impl.Event {
	right := impl.Event{Day: 5, Party: 1, Action: "act", Amount: 100}
	list := map[string]impl.Event{"zero": {}}
	add := func(name string, edit func(e *impl.Event)) {
		e := right
		edit(&e)
		list[name] = e
	}
	for _, day := range notDays {
		add("day "+strconv.Itoa(day), func(e *impl.Event) { e.Day = day })
	}
	for _, party := range []int{-1, impl.MaxParties, impl.MaxParties + 1, math.MinInt, math.MaxInt, 1 << 32} {
		add("party "+strconv.Itoa(party), func(e *impl.Event) { e.Party = party })
	}
	for _, action := range append(slices.Clone(notANameAtAll), noNames...) {
		add("action "+action, func(e *impl.Event) { e.Action = action })
	}
	for _, amount := range []int{-1, -100, impl.MaxPrice + 1, impl.MaxMoney, math.MinInt, math.MaxInt} {
		add("amount "+strconv.Itoa(amount), func(e *impl.Event) { e.Amount = amount })
	}
	return list
}

func TestListsWithAnInvalidEvent(t *testing.T) {
	for name, odd := range oddEvents() {
		for _, parties := range partyCounts {
			checkUnsortable(t, name, []impl.Event{odd}, parties)
			// The odd event stands where the order has room for it, as far as it is on a day.
			list := append(dailyEvents(0, 10), odd)
			checkUnsortable(t, name+" last", list, parties)
			checkUnsortable(t, name+" in order", modelSorted(list), parties)
			slices.Reverse(list)
			checkUnsortable(t, name+" first", list, parties)
			checkUnsortable(t, name+" in a full list", append(sameEvents(impl.MaxEvents-1), odd), parties)
		}
	}
}

func TestGreatestAndSmallestEvents(t *testing.T) {
	list := []impl.Event{}
	for _, day := range []int{0, impl.MaxDay} {
		for _, party := range []int{0, 1} {
			for _, action := range []string{"a", "z9999999"} {
				for _, amount := range []int{0, 1, impl.MaxPrice - 1, impl.MaxPrice} {
					e := impl.Event{Day: day, Party: party, Action: action, Amount: amount}
					checkIsList(t, []impl.Event{e}, 2)
					list = append(list, e)
				}
			}
		}
	}
	checkIsList(t, list, 2)
	slices.Reverse(list)
	checkIsNoList(t, "reversed", list, 2)
	checkSorted(t, list, 2)
}

func TestListsMustBeInOrder(t *testing.T) {
	for name, list := range map[string][]impl.Event{
		"the first two": {{Day: 1, Action: "a"}, {Day: 0, Action: "a"}, {Day: 2, Action: "a"}},
		"the last two":  {{Day: 1, Action: "a"}, {Day: 3, Action: "a"}, {Day: 2, Action: "a"}},
		"party":         {{Day: 1, Party: 1, Action: "a"}, {Day: 1, Party: 0, Action: "b"}},
		"action":        {{Day: 1, Action: "pay"}, {Day: 1, Action: "pa"}},
		"amount":        {{Day: 1, Action: "pay", Amount: 2}, {Day: 1, Action: "pay", Amount: 1}},
	} {
		checkIsNoList(t, name, list, 2)
		checkSorted(t, list, 2)
	}
	for i := 1; i < impl.MaxEvents; i++ {
		list := dailyEvents(7, impl.MaxEvents)
		list[i-1], list[i] = list[i], list[i-1]
		checkIsNoList(t, "swapped at "+strconv.Itoa(i), list, 2)
		checkSorted(t, list, 2)
	}
}

func TestSortingKeepsEveryEvent(t *testing.T) {
	events := []impl.Event{{Day: 1, Action: "a"}, {Day: 1, Action: "a"}, {Day: 1, Action: "a", Amount: 1}, {Day: 1, Party: 1, Action: "a"}, {Day: 2, Action: "a"}}
	for _, order := range permutations(len(events)) {
		list := []impl.Event{}
		for _, i := range order {
			list = append(list, events[i])
		}
		got, ok := impl.SortEvents(list, 2)
		checkEventsAre(t, "SortEvents", got, ok, events)
		for length := range list {
			checkSorted(t, list[:length], 2)
		}
	}
	random := rand.New(rand.NewSource(8))
	for range 3000 {
		parties := partyCounts[random.Intn(len(partyCounts))]
		checkSorted(t, randomEvents(random, random.Intn(impl.MaxEvents+1), parties, 0, 1, 300, impl.MaxDay), parties)
	}
}

// checkMerged checks the event list of two event lists together, and the counts of all actions.
func checkMerged(t *testing.T, a []impl.Event, b []impl.Event, parties int) {
	t.Helper()
	got, ok := impl.MergeEvents(a, b, parties)
	if len(a)+len(b) > impl.MaxEvents {
		checkNoEventsAre(t, "MergeEvents of too many", got, ok)
		return
	}
	checkEventsAre(t, "MergeEvents", got, ok, modelSorted(slices.Concat(a, b)))
	if !maps.Equal(timesOf(got), timesOf(a, b)) || !impl.IsValidEvents(got, parties) {
		t.Errorf("MergeEvents(%+v, %+v) = %+v", a, b, got)
	}
	for party := range parties {
		for _, action := range []string{"a", "ab", "b", "act", "none"} {
			countA, sumA, _ := impl.CountActions(a, parties, party, action)
			countB, sumB, _ := impl.CountActions(b, parties, party, action)
			if count, sum, ok := impl.CountActions(got, parties, party, action); !ok || count != countA+countB || sum != sumA+sumB {
				t.Errorf("CountActions(%+v, %d, %q) = %d, %d, %v", got, party, action, count, sum, ok)
			}
		}
	}
}

func TestMergedLists(t *testing.T) {
	random := rand.New(rand.NewSource(18))
	for range 3000 {
		parties := partyCounts[random.Intn(len(partyCounts))]
		a := modelSorted(randomEvents(random, random.Intn(impl.MaxEvents+1), parties, 0, 1, 300, impl.MaxDay))
		b := modelSorted(randomEvents(random, random.Intn(impl.MaxEvents+1-len(a)), parties, 0, 2, 300, impl.MaxDay))
		checkMerged(t, a, b, parties)
		checkMerged(t, b, a, parties)
	}
	for _, parties := range partyCounts {
		checkMerged(t, nil, nil, parties)
		checkMerged(t, []impl.Event{}, nil, parties)
		checkMerged(t, dailyEvents(0, 5), dailyEvents(5, 5), parties)
		checkMerged(t, dailyEvents(5, 5), dailyEvents(0, 5), parties)
		checkMerged(t, dailyEvents(0, 9), dailyEvents(3, 3), parties)
		checkMerged(t, dailyEvents(0, 9), dailyEvents(0, 9), parties)
	}
}

func TestNumbersOfMergedEvents(t *testing.T) {
	for first := range impl.MaxEvents + 2 {
		for second := range impl.MaxEvents + 2 {
			got, ok := impl.MergeEvents(sameEvents(first), sameEvents(second), 2)
			if first+second <= impl.MaxEvents {
				checkEventsAre(t, "MergeEvents", got, ok, sameEvents(first+second))
				checkMerged(t, dailyEvents(0, first), dailyEvents(first/2, second), 2)
				continue
			}
			checkNoEventsAre(t, "MergeEvents of too many", got, ok)
			got, ok = impl.MergeEvents(dailyEvents(0, first), dailyEvents(first, second), 2)
			checkNoEventsAre(t, "MergeEvents of too many", got, ok)
		}
	}
}

func TestEqualEventsAreKept(t *testing.T) {
	e, other := impl.Event{Day: 4, Party: 1, Action: "pay", Amount: 7}, impl.Event{Day: 4, Party: 1, Action: "pay", Amount: 8}
	got, ok := impl.SortEvents([]impl.Event{e, other, e, e}, 2)
	checkEventsAre(t, "SortEvents", got, ok, []impl.Event{e, e, e, other})
	got, ok = impl.MergeEvents([]impl.Event{e, e}, []impl.Event{e, other, other}, 2)
	checkEventsAre(t, "MergeEvents", got, ok, []impl.Event{e, e, e, other, other})
	if count, sum, ok := impl.CountActions(got, 2, 1, "pay"); !ok || count != 5 || sum != 37 {
		t.Errorf("CountActions = %d, %d, %v", count, sum, ok)
	}
	between, ok := impl.EventsBetween(got, 2, 4, 4)
	checkEventsAre(t, "EventsBetween", between, ok, got)
	shifted, ok := impl.ShiftEvents(got, 2, 6)
	checkEventsAre(t, "ShiftEvents", shifted, ok, shiftedBy(got, 6))
	checkDays(t, got, 2)
	if count, sum, ok := impl.CountActions(sameEvents(impl.MaxEvents), 2, 1, "act"); !ok || count != impl.MaxEvents || sum != 5*impl.MaxEvents {
		t.Errorf("CountActions = %d, %d, %v", count, sum, ok)
	}
}

func TestEventsBetweenDays(t *testing.T) {
	random := rand.New(rand.NewSource(28))
	lists := [][]impl.Event{nil, {}, dailyEvents(0, impl.MaxEvents), sameEvents(4), dailyEvents(impl.MaxDay-9, 10)}
	for range 20 {
		lists = append(lists, modelSorted(randomEvents(random, random.Intn(impl.MaxEvents+1), 3, 0, 1, 2, 9, 300, impl.MaxDay-1, impl.MaxDay)))
	}
	bounds := append([]int{0, 1, 2, 3, 8, 9, 10, 39, 40, 299, 300, 301, impl.MaxDay - 1, impl.MaxDay}, notDays...)
	for _, list := range lists {
		for _, from := range bounds {
			for _, to := range bounds {
				got, ok := impl.EventsBetween(list, 3, from, to)
				checkEventsAre(t, "EventsBetween "+strconv.Itoa(from)+" and "+strconv.Itoa(to), got, ok, modelBetween(list, from, to))
			}
		}
	}
	e := impl.Event{Day: 9, Party: 1, Action: "act"}
	for _, x := range []struct {
		from, to, count int
	}{{9, 9, 1}, {8, 9, 1}, {9, 10, 1}, {10, 9, 0}, {9, 8, 0}, {8, 8, 0}, {10, 10, 0}, {math.MinInt, math.MaxInt, 1}, {math.MaxInt, math.MinInt, 0}} {
		if got, ok := impl.EventsBetween([]impl.Event{e}, 2, x.from, x.to); !ok || len(got) != x.count {
			t.Errorf("EventsBetween(%d, %d) = %+v, %v", x.from, x.to, got, ok)
		}
	}
}

// checkShifted checks an event list that is moved by days, and that moving it back recovers it.
func checkShifted(t *testing.T, list []impl.Event, parties int, days int) {
	t.Helper()
	call := "ShiftEvents by " + strconv.Itoa(days)
	want := shiftedBy(list, days)
	got, ok := impl.ShiftEvents(list, parties, days)
	checkEventsAre(t, call, got, ok, want)
	back, ok := impl.ShiftEvents(got, parties, -days)
	checkEventsAre(t, call+" and back", back, ok, list)
	if !impl.IsValidEvents(got, parties) {
		t.Errorf("%s is no list: %+v", call, got)
	}
}

func TestShiftedLists(t *testing.T) {
	random := rand.New(rand.NewSource(38))
	for range 2000 {
		parties := partyCounts[random.Intn(len(partyCounts))]
		list := modelSorted(randomEvents(random, 1+random.Intn(impl.MaxEvents), parties, 1000, 1001, 1300, 20000))
		first, last := list[0].Day, list[len(list)-1].Day
		checkShifted(t, list, parties, random.Intn(1000))
		checkShifted(t, list, parties, -random.Intn(1000))
		checkShifted(t, list, parties, -first)
		checkShifted(t, list, parties, impl.MaxDay-last)
		got, ok := impl.ShiftEvents(list, parties, -first-1)
		checkNoEventsAre(t, "ShiftEvents to a day before the first", got, ok)
		got, ok = impl.ShiftEvents(list, parties, impl.MaxDay-last+1)
		checkNoEventsAre(t, "ShiftEvents to a day after the last", got, ok)
	}
}

func TestLongestShifts(t *testing.T) {
	early := []impl.Event{{Day: 0, Action: "a"}, {Day: 0, Party: 1, Action: "a", Amount: 1}}
	late := shiftedBy(early, impl.MaxDay)
	checkShifted(t, early, 2, impl.MaxDay)
	checkShifted(t, late, 2, -impl.MaxDay)
	checkShifted(t, early, 2, impl.MaxDay-1)
	checkShifted(t, early, 2, 0)
	checkShifted(t, late, 2, 0)
	all := []impl.Event{early[0], late[0]}
	checkShifted(t, all, 2, 0)
	for name, list := range map[string][]impl.Event{"early": early, "late": late, "all": all, "the second day": shiftedBy(early, 1)} {
		far := []int{impl.MaxDay + 1, -impl.MaxDay - 1, 1 << 32, -1 << 32, math.MaxInt, math.MinInt, math.MaxInt - impl.MaxDay, math.MinInt + impl.MaxDay}
		for _, days := range []int{1, -1, impl.MaxDay, -impl.MaxDay} {
			if list[0].Day+days < 0 || list[1].Day+days > impl.MaxDay {
				far = append(far, days)
			}
		}
		for _, days := range far {
			got, ok := impl.ShiftEvents(list, 2, days)
			checkNoEventsAre(t, name+" by "+strconv.Itoa(days), got, ok)
		}
	}
}

func TestShiftsOfNoEvents(t *testing.T) {
	for _, list := range [][]impl.Event{nil, {}} {
		for _, days := range []int{0, 1, -1, impl.MaxDay, -impl.MaxDay} {
			checkShifted(t, list, 2, days)
		}
		for _, days := range []int{impl.MaxDay + 1, -impl.MaxDay - 1, math.MaxInt, math.MinInt} {
			if got, ok := impl.ShiftEvents(list, 2, days); ok || len(got) > 0 {
				t.Errorf("ShiftEvents(none, %d) = %+v, %v", days, got, ok)
			}
		}
	}
}

func TestCountedActions(t *testing.T) {
	random := rand.New(rand.NewSource(48))
	for range 2000 {
		parties := partyCounts[random.Intn(len(partyCounts))]
		list := modelSorted(randomEvents(random, random.Intn(impl.MaxEvents+1), parties, 0, 1, 300, impl.MaxDay))
		total := 0
		for party := -1; party <= parties; party++ {
			for _, action := range []string{"a", "ab", "b", "abc", "", "true", "A"} {
				checkCounted(t, list, parties, party, action)
				count, _, _ := impl.CountActions(list, parties, party, action)
				total += count
			}
		}
		if total != len(list) {
			t.Errorf("%d of %d events are counted", total, len(list))
		}
	}
	list := slices.Repeat([]impl.Event{{Day: 1, Party: 1, Action: "pay", Amount: impl.MaxPrice}}, impl.MaxEvents)
	if count, sum, ok := impl.CountActions(list, 2, 1, "pay"); !ok || count != impl.MaxEvents || sum != impl.MaxEvents*impl.MaxPrice {
		t.Errorf("CountActions = %d, %d, %v", count, sum, ok)
	}
}

func TestActionsThatNoEventHas(t *testing.T) {
	list := []impl.Event{{Day: 1, Party: 0, Action: "pay", Amount: 3}, {Day: 2, Party: 1, Action: "send"}}
	for _, list := range [][]impl.Event{nil, {}, list} {
		for _, party := range []int{-1, 2, impl.MaxParties, math.MinInt, math.MaxInt, 1 << 32} {
			checkCounted(t, list, 2, party, "pay")
		}
		for _, action := range append(append([]string{"pa", "payd", "audit", strings.Repeat("a", 1000000)}, notANameAtAll...), noNames...) {
			checkCounted(t, list, 2, 0, action)
		}
		checkCounted(t, list, 2, 1, "pay")
		checkCounted(t, list, 2, 0, "send")
	}
}

func TestDaysOfEvents(t *testing.T) {
	e := impl.Event{Day: 3, Action: "a"}
	later := impl.Event{Day: 4, Party: 1, Action: "a"}
	for _, x := range []struct {
		list []impl.Event
		days []int
	}{
		{nil, nil}, {[]impl.Event{}, nil}, {[]impl.Event{e}, []int{3}}, {[]impl.Event{e, e}, []int{3}}, {[]impl.Event{e, e, later}, []int{3, 4}}, {[]impl.Event{e, later, later}, []int{3, 4}},
		{[]impl.Event{{Day: 0, Action: "a"}, {Day: 0, Party: 1, Action: "a"}, {Day: impl.MaxDay, Action: "a"}, {Day: impl.MaxDay, Action: "b"}}, []int{0, impl.MaxDay}},
		{dailyEvents(9, impl.MaxEvents), daysFrom(9, 1, impl.MaxEvents)}, {sameEvents(impl.MaxEvents), []int{9}},
	} {
		if days, ok := impl.EventDays(x.list, 2); !ok || !slices.Equal(days, x.days) {
			t.Errorf("EventDays(%+v) = %v, %v", x.list, days, ok)
		}
	}
	random := rand.New(rand.NewSource(58))
	for range 2000 {
		checkDays(t, modelSorted(randomEvents(random, random.Intn(impl.MaxEvents+1), 4, 0, 1, 2, 300, 301, impl.MaxDay)), 4)
	}
}

func TestEventsOfSomeDaysTogetherAreAllEvents(t *testing.T) {
	random := rand.New(rand.NewSource(68))
	for range 500 {
		list := modelSorted(randomEvents(random, random.Intn(impl.MaxEvents+1), 3, 0, 1, 2, 300, impl.MaxDay))
		day := random.Intn(302)
		before, _ := impl.EventsBetween(list, 3, 0, day)
		after, _ := impl.EventsBetween(list, 3, day+1, impl.MaxDay)
		got, ok := impl.MergeEvents(after, before, 3)
		checkEventsAre(t, "MergeEvents of both parts", got, ok, list)
	}
}

// answersOf are the event lists that the functions return for a list and events in its order.
func answersOf(list []impl.Event, parties int) [][]impl.Event {
	sorted, _ := impl.SortEvents(list, parties)
	merged, _ := impl.MergeEvents(list, list[:1], parties)
	alone, _ := impl.MergeEvents(list, list[:0], parties)
	second, _ := impl.MergeEvents(nil, list, parties)
	between, _ := impl.EventsBetween(list, parties, 0, impl.MaxDay)
	shifted, _ := impl.ShiftEvents(list, parties, 1)
	unmoved, _ := impl.ShiftEvents(list, parties, 0)
	return [][]impl.Event{sorted, merged, alone, second, between, shifted, unmoved}
}

func TestListsOfEventsStayAsTheyAre(t *testing.T) {
	random := rand.New(rand.NewSource(78))
	room := randomEvents(random, impl.MaxEvents+5, 2, 0, 1, 300, impl.MaxDay)
	for length := range len(room) + 1 {
		for _, ascending := range []bool{false, true} {
			if ascending {
				copy(room, modelSorted(room[:length]))
			}
			before := slices.Clone(room)
			list := room[:length]
			// The lists have room behind their lengths, which is to stay as it is, too.
			impl.IsValidEvents(list, 2)
			impl.SortEvents(list, 2)
			impl.MergeEvents(list, list[:length/2], 2)
			impl.MergeEvents(list[:length/3], list, 2)
			impl.MergeEvents(list[:length/2], list[length/2:], 2)
			impl.EventsBetween(list, 2, 1, 300)
			impl.EventsBetween(list, 2, 9, 3)
			impl.ShiftEvents(list, 2, 1)
			impl.ShiftEvents(list, 2, -1)
			impl.ShiftEvents(list, 2, 0)
			impl.CountActions(list, 2, 0, "a")
			impl.EventDays(list, 2)
			if !slices.Equal(room, before) {
				t.Fatalf("changed with %d events, ascending %v", length, ascending)
			}
		}
	}
}

func TestEventsBeyondTheLengthAreNotUsed(t *testing.T) {
	room := append(dailyEvents(0, 6), impl.Event{Day: -1}, impl.Event{})
	checkIsList(t, room[:6], 2)
	checkIsList(t, room[:3], 2)
	checkMerged(t, room[:2], room[4:6], 2)
	full := append(sameEvents(impl.MaxEvents), sameEvents(9)...)
	checkIsList(t, full[:impl.MaxEvents], 2)
}

func TestListsOfEventsAreReturnedInMemoryOfTheirOwn(t *testing.T) {
	for i, kept := range answersOf(dailyEvents(3, 9), 2) {
		list := dailyEvents(3, 9)
		got := answersOf(list, 2)[i]
		clear(list)
		if len(got) < 9 || !slices.Equal(got, kept) {
			t.Errorf("answer %d keeps its argument: %+v", i, got)
		}
		list = dailyEvents(3, 9)
		got = answersOf(list, 2)[i]
		clear(got[:cap(got)])
		if !slices.Equal(list, dailyEvents(3, 9)) {
			t.Errorf("answer %d gives its argument away", i)
		}
	}
}

func TestActionsAreReturnedInMemoryOfTheirOwn(t *testing.T) {
	list := dailyEvents(3, 9)
	for i := range list {
		list[i].Action = strings.Repeat("x", 8)
	}
	for i, answer := range answersOf(list, 2) {
		for k, e := range answer {
			for _, other := range append(slices.Clone(list), answer[:k]...) {
				if isPartOf(e.Action, other.Action) {
					t.Fatalf("answer %d shares the Action of %+v", i, other)
				}
			}
		}
	}
}

func TestAnswersAboutEventsAreNew(t *testing.T) {
	list := dailyEvents(3, 9)
	kept := answersOf(list, 2)
	days, _ := impl.EventDays(list, 2)
	clear(days)
	for range 2 {
		for i, got := range answersOf(list, 2) {
			if !slices.Equal(got, kept[i]) {
				t.Errorf("answer %d = %+v", i, got)
			}
			clear(got)
		}
		if days, ok := impl.EventDays(list, 2); !ok || !slices.Equal(days, daysFrom(3, 1, 9)) {
			t.Errorf("EventDays = %v, %v", days, ok)
		}
	}
}
