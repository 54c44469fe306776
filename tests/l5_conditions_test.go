package tests

import (
	"math"
	"math/rand"
	"reflect"
	"slices"
	"strconv"
	"strings"
	"testing"

	"loop.example/g00902/impl"
)

// noNames are the words that have the form of a name and are none.
var noNames = []string{"true", "from", "not", "and", "or", "both", "either", "it", "in"}

// manyNames are 17 names in ascending order, one more than a fact list holds.
var manyNames = []string{"a", "a0", "aa", "b", "c9", "d", "e", "f", "fromage", "g", "h", "i", "it1", "j", "k", "not0", "z9999999"}

func always() impl.Condition { return impl.Condition{Op: impl.CondTrue} }

func fact(name string) impl.Condition { return impl.Condition{Op: impl.CondFact, Name: name} }

func from(day int) impl.Condition { return impl.Condition{Op: impl.CondFrom, Day: day} }

func not(c impl.Condition) impl.Condition {
	return impl.Condition{Op: impl.CondNot, Parts: []impl.Condition{c}}
}

func both(a impl.Condition, b impl.Condition) impl.Condition {
	return impl.Condition{Op: impl.CondAnd, Parts: []impl.Condition{a, b}}
}

func either(a impl.Condition, b impl.Condition) impl.Condition {
	return impl.Condition{Op: impl.CondOr, Parts: []impl.Condition{a, b}}
}

// nots puts count CondNots around c.
func nots(count int, c impl.Condition) impl.Condition {
	for range count {
		c = not(c)
	}
	return c
}

// balanced is a CondAnd of CondOrs of CondAnds and so on over 2^depth leaves.
func balanced(depth int, leaf func(i int) impl.Condition) impl.Condition {
	if depth == 0 {
		return leaf(0)
	}
	join := both
	if depth%2 == 0 {
		join = either
	}
	half := 1 << (depth - 1)
	return join(balanced(depth-1, leaf), balanced(depth-1, func(i int) impl.Condition { return leaf(half + i) }))
}

// allOf joins facts by CondAnds, the first ones innermost or outermost.
func allOf(names []string, innermost bool) impl.Condition {
	c := fact(names[0])
	for _, name := range names[1:] {
		if innermost {
			c = both(c, fact(name))
		} else {
			c = both(fact(name), c)
		}
	}
	return c
}

// containsItself is a condition of endless depth.
func containsItself() impl.Condition {
	c := not(always())
	c.Parts[0] = c
	return c
}

// containsItselfTwice is a condition of endless depth and width.
func containsItselfTwice() impl.Condition {
	c := both(always(), always())
	c.Parts[0], c.Parts[1] = c, c
	return c
}

// conditionsBySize returns lists of all conditions over the leaves with 0, 1 .. size conditions
// in them.
func conditionsBySize(size int, leaves ...impl.Condition) [][]impl.Condition {
	lists := [][]impl.Condition{nil, leaves}
	for n := 2; n <= size; n++ {
		var list []impl.Condition
		for _, c := range lists[n-1] {
			list = append(list, not(c))
		}
		for left := 1; left < n-1; left++ {
			for _, a := range lists[left] {
				for _, b := range lists[n-1-left] {
					list = append(list, both(a, b), either(a, b))
				}
			}
		}
		lists = append(lists, list)
	}
	return lists
}

// conditionsUpTo returns all conditions over the leaves with 1 .. size conditions in them.
func conditionsUpTo(size int, leaves ...impl.Condition) []impl.Condition {
	return slices.Concat(conditionsBySize(size, leaves...)...)
}

// fewLeaves have two facts and three days of change, two of them next to each other.
func fewLeaves() []impl.Condition {
	return []impl.Condition{always(), fact("a"), fact("b"), from(0), from(10), from(11)}
}

// randomCondition is a condition of the given number of conditions.
func randomCondition(random *rand.Rand, size int) impl.Condition {
	switch {
	case size == 1:
		switch random.Intn(5) {
		case 0:
			return always()
		case 1:
			days := []int{0, 1, 5, 6, 7, 1000, impl.MaxDay - 1, impl.MaxDay}
			return from(days[random.Intn(len(days))])
		}
		return fact(manyNames[random.Intn(5)])
	case size == 2 || random.Intn(3) == 0:
		return not(randomCondition(random, size-1))
	}
	left := 1 + random.Intn(size-2)
	a, b := randomCondition(random, left), randomCondition(random, size-1-left)
	if random.Intn(2) == 0 {
		return both(a, b)
	}
	return either(a, b)
}

// randomConditions are many conditions of all sizes up to the greatest.
func randomConditions(count int) []impl.Condition {
	random := rand.New(rand.NewSource(5))
	list := make([]impl.Condition, count)
	for i := range list {
		list[i] = randomCondition(random, 1+i%impl.MaxCondition)
	}
	return list
}

// modelText is the text of a condition.
func modelText(c impl.Condition) string {
	switch c.Op {
	case impl.CondTrue:
		return "true"
	case impl.CondFact:
		return c.Name
	case impl.CondFrom:
		return "from " + modelTime(c.Day).Format("2006-01-02")
	case impl.CondNot:
		return "not " + modelText(c.Parts[0])
	}
	word := map[int]string{impl.CondAnd: " and ", impl.CondOr: " or "}[c.Op]
	return "(" + modelText(c.Parts[0]) + word + modelText(c.Parts[1]) + ")"
}

// modelHolds is the value of a condition.
func modelHolds(c impl.Condition, facts []string, day int) bool {
	values := []bool{}
	for _, part := range c.Parts {
		values = append(values, modelHolds(part, facts, day))
	}
	switch c.Op {
	case impl.CondTrue:
		return true
	case impl.CondFact:
		return slices.Contains(facts, c.Name)
	case impl.CondFrom:
		return c.Day <= day
	case impl.CondNot:
		return !values[0]
	}
	count := 0
	for _, value := range values {
		if value {
			count++
		}
	}
	return count == 2 || c.Op == impl.CondOr && count == 1
}

// modelNames are the names in a condition in the order of their occurrence.
func modelNames(c impl.Condition) []string {
	names := []string{}
	if c.Op == impl.CondFact {
		names = append(names, c.Name)
	}
	for _, part := range c.Parts {
		names = append(names, modelNames(part)...)
	}
	return names
}

// modelDays are the days of change in a condition in the order of their occurrence.
func modelDays(c impl.Condition) []int {
	days := []int{}
	if c.Op == impl.CondFrom {
		days = append(days, c.Day)
	}
	for _, part := range c.Parts {
		days = append(days, modelDays(part)...)
	}
	return days
}

// modelSize is the number of conditions in a condition.
func modelSize(c impl.Condition) int {
	size := 1
	for _, part := range c.Parts {
		size += modelSize(part)
	}
	return size
}

// sortedNames are the different names of conditions in ascending order.
func sortedNames(conditions ...impl.Condition) []string {
	names := []string{}
	for _, c := range conditions {
		names = append(names, modelNames(c)...)
	}
	slices.Sort(names)
	return slices.Compact(names)
}

// factLists are all fact lists of the names, which are in ascending order.
func factLists(names []string) [][]string {
	lists := [][]string{{}}
	for _, name := range names {
		for _, list := range slices.Clone(lists) {
			lists = append(lists, append(slices.Clone(list), name))
		}
	}
	return lists
}

// daysAround are the days on, before and after the days of change, and the first and last day.
func daysAround(conditions ...impl.Condition) []int {
	days := []int{0, impl.MaxDay}
	for _, c := range conditions {
		for _, day := range modelDays(c) {
			days = append(days, max(day-1, 0), day, min(day+1, impl.MaxDay))
		}
	}
	slices.Sort(days)
	return slices.Compact(days)
}

// deepCopy is a condition without memory in common with c.
func deepCopy(c impl.Condition) impl.Condition {
	parts := c.Parts
	c.Parts = nil
	for _, part := range parts {
		c.Parts = append(c.Parts, deepCopy(part))
	}
	return c
}

// spoil overwrites everything in the slices of a condition.
func spoil(c impl.Condition) {
	for i := range c.Parts {
		spoil(c.Parts[i])
		c.Parts[i] = impl.Condition{Op: impl.CondFact, Name: "spoiled"}
	}
}

// isZeroCondition reports whether c is the zero Condition, with any empty slice.
func isZeroCondition(c impl.Condition) bool {
	return c.Op == 0 && c.Name == "" && c.Day == 0 && len(c.Parts) == 0
}

// invalidLeaves returns conditions that break a rule by themselves, not by their parts.
func invalidLeaves() map[string]impl.Condition {
	a, b := fact("a"), fact("b")
	one, two, three := []impl.Condition{a}, []impl.Condition{a, b}, []impl.Condition{a, b, a}
	list := map[string]impl.Condition{
		"zero":                     {},
		"Op 7":                     {Op: 7},
		"Op 7 with two parts":      {Op: 7, Parts: two},
		"Op 0 with a name":         {Name: "a"},
		"Op 0 with one part":       {Parts: one},
		"Op -1":                    {Op: -1},
		"Op -4 with one part":      {Op: -4, Parts: one},
		"Op beyond 32 bits":        {Op: 1<<32 + 1},
		"least Op":                 {Op: math.MinInt},
		"greatest Op":              {Op: math.MaxInt},
		"true with a name":         {Op: impl.CondTrue, Name: "a"},
		"true with a day":          {Op: impl.CondTrue, Day: 1},
		"true with day -1":         {Op: impl.CondTrue, Day: -1},
		"true with a part":         {Op: impl.CondTrue, Parts: one},
		"true with two parts":      {Op: impl.CondTrue, Parts: two},
		"fact without a name":      {Op: impl.CondFact},
		"fact with a long name":    fact("abcdefghi"),
		"fact with a digit first":  fact("1a"),
		"fact in upper case":       fact("Paid"),
		"fact outside of ASCII":    fact("ä"),
		"fact with a space":        fact("a "),
		"fact with a day":          {Op: impl.CondFact, Name: "a", Day: 1},
		"fact with day -1":         {Op: impl.CondFact, Name: "a", Day: -1},
		"fact with a part":         {Op: impl.CondFact, Name: "a", Parts: one},
		"from with a name":         {Op: impl.CondFrom, Name: "a", Day: 1},
		"from with a part":         {Op: impl.CondFrom, Day: 1, Parts: one},
		"not without a part":       {Op: impl.CondNot},
		"not with no parts":        {Op: impl.CondNot, Parts: []impl.Condition{}},
		"not with two parts":       {Op: impl.CondNot, Parts: two},
		"not with a name":          {Op: impl.CondNot, Name: "a", Parts: one},
		"not with a day":           {Op: impl.CondNot, Day: 1, Parts: one},
		"and without a part":       {Op: impl.CondAnd},
		"and with one part":        {Op: impl.CondAnd, Parts: one},
		"and with three parts":     {Op: impl.CondAnd, Parts: three},
		"and with a name":          {Op: impl.CondAnd, Name: "a", Parts: two},
		"and with a day":           {Op: impl.CondAnd, Day: 1, Parts: two},
		"or without a part":        {Op: impl.CondOr},
		"or with one part":         {Op: impl.CondOr, Parts: one},
		"or with three parts":      {Op: impl.CondOr, Parts: three},
		"or with a name":           {Op: impl.CondOr, Name: "a", Parts: two},
		"or with a day":            {Op: impl.CondOr, Day: -1, Parts: two},
		"and with parts in excess": {Op: impl.CondAnd, Parts: make([]impl.Condition, 100000)},
	}
	for _, word := range noNames {
		list["fact "+word] = fact(word)
	}
	for _, day := range notDays {
		list["from with day "+strconv.Itoa(day)] = from(day)
	}
	return list
}

// invalidConditions returns the invalid leaves alone and at many places of other conditions, and
// conditions that are too large.
func invalidConditions() map[string]impl.Condition {
	list := map[string]impl.Condition{
		"16 in a row":           nots(15, fact("a")),
		"17 in a row":           nots(16, from(3)),
		"16 in a tree":          not(balanced(3, func(int) impl.Condition { return fact("a") })),
		"16 with the inner not": balanced(3, func(i int) impl.Condition { return nots(i/7, always()) }),
		"17 in a row of ands":   allOf(manyNames[:9], true),
		"17 in a row backwards": allOf(manyNames[:9], false),
		"31 in a tree":          balanced(4, func(int) impl.Condition { return always() }),
		"1001 in a row":         nots(1000, always()),
		"contains itself":       containsItself(),
		"contains itself twice": containsItselfTwice(),
		"or of endless parts":   either(always(), containsItselfTwice()),
	}
	for name, c := range invalidLeaves() {
		list[name] = c
		list["not: "+name] = not(c)
		list["first: "+name] = both(c, fact("b"))
		list["second: "+name] = either(always(), c)
		list["14 deep: "+name] = nots(14, c)
		list["last of 15: "+name] = balanced(3, func(i int) impl.Condition {
			if i == 7 {
				return c
			}
			return fact("a")
		})
	}
	return list
}

// largestConditions have exactly as many conditions as the limit permits.
func largestConditions() map[string]impl.Condition {
	return map[string]impl.Condition{
		"15 in a row":           nots(14, fact("a")),
		"15 in a row of days":   nots(14, from(impl.MaxDay)),
		"15 in a tree":          balanced(3, func(i int) impl.Condition { return fact(manyNames[i]) }),
		"15 in a row of ands":   allOf(manyNames[:8], true),
		"15 in a row backwards": allOf(manyNames[:8], false),
		"nots and a tree":       nots(8, balanced(2, func(i int) impl.Condition { return from(i) })),
	}
}

func TestNamesOfOneAndTwoBytes(t *testing.T) {
	for i := range 256 {
		first := string([]byte{byte(i)})
		want := 'a' <= i && i <= 'z'
		if got := impl.IsValidName(first); got != want {
			t.Fatalf("IsValidName(%q) = %v", first, got)
		}
		for k := range 256 {
			s := string([]byte{byte(i), byte(k)})
			want := want && ('a' <= k && k <= 'z' || '0' <= k && k <= '9') && !slices.Contains(noNames, s)
			if got := impl.IsValidName(s); got != want {
				t.Fatalf("IsValidName(%q) = %v", s, got)
			}
		}
	}
}

func TestEveryByteOfANameCounts(t *testing.T) {
	for length := 1; length <= 8; length++ {
		for at := range length {
			for i := range 256 {
				name := []byte("mmmmmmmm"[:length])
				name[at] = byte(i)
				want := 'a' <= i && i <= 'z' || '0' <= i && i <= '9' && at > 0
				if got := impl.IsValidName(string(name)); got != want {
					t.Fatalf("IsValidName(%q) = %v", name, got)
				}
			}
		}
	}
}

func TestNamedNames(t *testing.T) {
	for _, s := range append([]string{"abcdefgh", "a1234567", "zzzzzzzz", "z9999999", "paid", "x9", "true1", "trues", "fromm", "nota", "ands", "ora",
		"bot", "boths", "eithe", "eithers", "its", "i", "inn", "fro", "tru", "no", "an", "o", "andor", "notnot", "truetrue"}, manyNames...) {
		if !impl.IsValidName(s) {
			t.Errorf("IsValidName(%q) = false", s)
		}
	}
	for _, s := range append([]string{"", "abcdefghi", "a12345678", "truetrue1", "9", "0a", "1abcdefg", "A", "aB", "paiD", "PAID", "a_b", "a-b", "a b", " a", "a ", "a\n",
		"a\x00", "\x00", "ä", "aä", "\u00e9", "a\xff", "ａ", "a٣", "not a", "(a)", strings.Repeat("a", 1000000)}, noNames...) {
		if impl.IsValidName(s) {
			t.Errorf("IsValidName(%q) = true", s)
		}
	}
}

func TestConditionsWithinTheRulesAreValid(t *testing.T) {
	valid := largestConditions()
	for op, text := range map[int]string{impl.CondTrue: "true", impl.CondFact: "fact", impl.CondFrom: "from"} {
		c := impl.Condition{Op: op, Parts: []impl.Condition{}}
		if op == impl.CondFact {
			c.Name = "a"
		}
		valid["no parts: "+text] = c
	}
	for i, c := range slices.Concat(conditionsUpTo(5, fewLeaves()...), randomConditions(3000)) {
		valid[strconv.Itoa(i)] = c
	}
	for _, day := range []int{0, 1, impl.MaxDay - 1, impl.MaxDay} {
		valid["from "+strconv.Itoa(day)] = from(day)
	}
	for name, c := range valid {
		if !impl.IsValidCondition(c) {
			t.Errorf("IsValidCondition(%s) = false: %v", name, c)
		}
	}
}

func TestInvalidConditionsAreRejectedEverywhere(t *testing.T) {
	good := fact("a")
	for name, c := range invalidConditions() {
		if impl.IsValidCondition(c) {
			t.Errorf("IsValidCondition(%s) = true", name)
		}
		if value, ok := impl.EvaluateCondition(c, nil, 0); value || ok {
			t.Errorf("EvaluateCondition(%s) = %v, %v", name, value, ok)
		}
		if names, ok := impl.ConditionNames(c); len(names) > 0 || ok {
			t.Errorf("ConditionNames(%s) = %v, %v", name, names, ok)
		}
		if day, ok := impl.NextChange(c, 0); day != 0 || ok {
			t.Errorf("NextChange(%s) = %d, %v", name, day, ok)
		}
		if simple, ok := impl.SimplifyCondition(c); !isZeroCondition(simple) || ok {
			t.Errorf("SimplifyCondition(%s) = %v, %v", name, simple, ok)
		}
		if text, ok := impl.FormatCondition(c); text != "" || ok {
			t.Errorf("FormatCondition(%s) = %q, %v", name, text, ok)
		}
		for _, pair := range [][2]impl.Condition{{c, good}, {good, c}, {c, c}, {not(always()), c}} {
			if value, ok := impl.ImpliesCondition(pair[0], pair[1]); value || ok {
				t.Errorf("ImpliesCondition with %s = %v, %v", name, value, ok)
			}
		}
	}
}

func TestPartsBeyondTheLengthAreIgnored(t *testing.T) {
	room := []impl.Condition{fact("a"), fact("b"), {Op: 77}, containsItself()}
	for _, c := range []impl.Condition{
		{Op: impl.CondTrue, Parts: room[2:2]}, {Op: impl.CondNot, Parts: room[:1]}, {Op: impl.CondAnd, Parts: room[:2]}, {Op: impl.CondOr, Parts: room[:2]},
	} {
		if !impl.IsValidCondition(c) {
			t.Errorf("IsValidCondition(%d) = false", c.Op)
		}
		if text, ok := impl.FormatCondition(c); !ok || text != modelText(c) {
			t.Errorf("FormatCondition(%d) = %q, %v", c.Op, text, ok)
		}
		impl.SimplifyCondition(c)
		impl.ConditionNames(c)
		impl.ImpliesCondition(c, c)
		if room[0].Name != "a" || room[1].Name != "b" || room[2].Op != 77 || room[3].Op != impl.CondNot {
			t.Fatalf("changed: %d", c.Op)
		}
	}
	for _, c := range []impl.Condition{{Op: impl.CondNot, Parts: room[:0]}, {Op: impl.CondAnd, Parts: room[:1]}, {Op: impl.CondOr, Parts: room[1:2]}} {
		if impl.IsValidCondition(c) {
			t.Errorf("IsValidCondition(%d) = true", c.Op)
		}
	}
}

func TestEveryConditionHasTheValueOfItsForm(t *testing.T) {
	lists := append(factLists([]string{"a", "b"}), []string{"c"}, []string{"aa", "b"}, manyNames[:impl.MaxFacts])
	days := []int{0, 1, 9, 10, 11, 12, impl.MaxDay}
	for _, c := range conditionsUpTo(5, fewLeaves()...) {
		for _, facts := range lists {
			for _, day := range days {
				if got, ok := impl.EvaluateCondition(c, facts, day); !ok || got != modelHolds(c, facts, day) {
					t.Fatalf("EvaluateCondition(%s, %v, %d) = %v, %v", modelText(c), facts, day, got, ok)
				}
			}
		}
	}
	for _, c := range randomConditions(3000) {
		for _, facts := range factLists(sortedNames(c)) {
			for _, day := range daysAround(c) {
				if got, ok := impl.EvaluateCondition(c, facts, day); !ok || got != modelHolds(c, facts, day) {
					t.Fatalf("EvaluateCondition(%s, %v, %d) = %v, %v", modelText(c), facts, day, got, ok)
				}
			}
		}
	}
}

func TestFromHoldsOnItsDayAndLater(t *testing.T) {
	for _, start := range []int{0, 1, 59, 60, 365, 18000, impl.MaxDay - 1, impl.MaxDay} {
		c := from(start)
		for day := 0; day <= impl.MaxDay; day++ {
			if got, ok := impl.EvaluateCondition(c, nil, day); !ok || got != (day >= start) {
				t.Fatalf("EvaluateCondition(from %d, %d) = %v, %v", start, day, got, ok)
			}
			if got, ok := impl.EvaluateCondition(not(c), nil, day); !ok || got != (day < start) {
				t.Fatalf("EvaluateCondition(not from %d, %d) = %v, %v", start, day, got, ok)
			}
		}
	}
}

func TestFactsAreKnownOnlyIfListed(t *testing.T) {
	for _, list := range [][]string{nil, {}, {"a"}, {"b"}, {"paid"}, manyNames[:16], manyNames[1:], {"a", "zz"}, {"abcdefgh"}} {
		for _, name := range append([]string{"paid", "abcdefgh", "abcdefg", "zz", "z"}, manyNames...) {
			if got, ok := impl.EvaluateCondition(fact(name), list, 0); !ok || got != slices.Contains(list, name) {
				t.Errorf("EvaluateCondition(%s, %v) = %v, %v", name, list, got, ok)
			}
		}
	}
}

// invalidFactLists returns lists that break a rule.
func invalidFactLists() map[string][]string {
	lists := map[string][]string{
		"out of order":           {"b", "a"},
		"last out of order":      {"a", "b", "d", "c"},
		"first out of order":     {"c", "a", "b"},
		"a name twice":           {"a", "a"},
		"last name twice":        {"a", "b", "b"},
		"longer before shorter":  {"ab", "a"},
		"letter before digit":    {"aa", "a1"},
		"one name too many":      manyNames,
		"one too many and twice": append(slices.Clone(manyNames[:16]), "z9999999", "z9999999"),
		"far too many":           make([]string, 100000),
		"empty name":             {""},
		"empty name first":       {"", "a"},
		"long name":              {"abcdefghi"},
		"digit first":            {"1", "a"},
		"upper case":             {"A", "a"},
		"outside of ASCII":       {"a", "ä"},
	}
	for _, word := range noNames {
		lists["word "+word] = []string{word}
		lists["last word "+word] = []string{"a", word}
	}
	return lists
}

func TestInvalidFactListsAndDaysGiveNoValue(t *testing.T) {
	conditions := []impl.Condition{always(), fact("a"), not(fact("a")), from(0), either(fact("a"), always())}
	for name, facts := range invalidFactLists() {
		for _, c := range conditions {
			if value, ok := impl.EvaluateCondition(c, facts, 5); value || ok {
				t.Errorf("EvaluateCondition with %s = %v, %v", name, value, ok)
			}
		}
	}
	for _, day := range notDays {
		for _, c := range conditions {
			if value, ok := impl.EvaluateCondition(c, []string{"a"}, day); value || ok {
				t.Errorf("EvaluateCondition on %d = %v, %v", day, value, ok)
			}
			if next, ok := impl.NextChange(c, day); next != 0 || ok {
				t.Errorf("NextChange(%s, %d) = %d, %v", modelText(c), day, next, ok)
			}
		}
	}
}

func TestFactsBeyondTheLengthAreIgnored(t *testing.T) {
	room := []string{"a", "c", "b", "B"}
	if value, ok := impl.EvaluateCondition(fact("b"), room[:2], 0); value || !ok {
		t.Errorf("EvaluateCondition = %v, %v", value, ok)
	}
	if !slices.Equal(room, []string{"a", "c", "b", "B"}) {
		t.Errorf("changed: %v", room)
	}
}

func TestConditionNamesAreSortedAndDifferent(t *testing.T) {
	for text, want := range map[string][]string{
		"true": {}, "from 2024-01-01": {}, "not not true": {}, "paid": {"paid"}, "not paid": {"paid"}, "(a and a)": {"a"}, "(b and a)": {"a", "b"},
		"(a or not b)": {"a", "b"}, "((c or a) and (b or (a and c)))": {"a", "b", "c"}, "(aa or (a1 or (b or a)))": {"a", "a1", "aa", "b"},
		"(from 2024-01-01 and (z or from 2025-01-01))": {"z"}, "((h or (g or (f or (e or (d or (c or b)))))) or a)": {"a", "b", "c", "d", "e", "f", "g", "h"},
	} {
		c, ok := impl.ParseCondition(text)
		if !ok {
			t.Fatalf("ParseCondition(%q) fails", text)
		}
		if got, ok := impl.ConditionNames(c); !ok || !slices.Equal(got, want) {
			t.Errorf("ConditionNames(%s) = %v, %v", text, got, ok)
		}
	}
	for _, c := range slices.Concat(conditionsUpTo(5, fewLeaves()...), randomConditions(3000)) {
		if got, ok := impl.ConditionNames(c); !ok || !slices.Equal(got, sortedNames(c)) {
			t.Fatalf("ConditionNames(%s) = %v, %v", modelText(c), got, ok)
		}
	}
}

// modelNext is the smallest day of change after day, or -1.
func modelNext(c impl.Condition, day int) int {
	next := -1
	for _, change := range modelDays(c) {
		if change > day && (next < 0 || change < next) {
			next = change
		}
	}
	return next
}

func TestNextChangeIsTheSmallestLaterDay(t *testing.T) {
	for _, c := range slices.Concat(conditionsUpTo(5, fewLeaves()...), randomConditions(3000)) {
		for _, day := range daysAround(c) {
			if got, ok := impl.NextChange(c, day); !ok || got != modelNext(c, day) {
				t.Fatalf("NextChange(%s, %d) = %d, %v", modelText(c), day, got, ok)
			}
		}
	}
}

func TestNextChangeAtNamedDays(t *testing.T) {
	c := both(either(from(20), not(from(10))), both(fact("a"), either(from(10), from(30))))
	for day, want := range map[int]int{0: 10, 9: 10, 10: 20, 11: 20, 19: 20, 20: 30, 29: 30, 30: -1, 31: -1, impl.MaxDay: -1} {
		if got, ok := impl.NextChange(c, day); !ok || got != want {
			t.Errorf("NextChange(%d) = %d, %v, not %d", day, got, ok, want)
		}
	}
	for day, want := range map[int]int{0: impl.MaxDay, impl.MaxDay - 1: impl.MaxDay, impl.MaxDay: -1} {
		if got, ok := impl.NextChange(not(from(impl.MaxDay)), day); !ok || got != want {
			t.Errorf("NextChange(last day, %d) = %d, %v", day, got, ok)
		}
	}
	for _, c := range []impl.Condition{always(), fact("a"), not(fact("a")), from(0), both(from(0), not(from(0)))} {
		for _, day := range []int{0, 1, impl.MaxDay} {
			if got, ok := impl.NextChange(c, day); !ok || got != -1 {
				t.Errorf("NextChange(%s, %d) = %d, %v", modelText(c), day, got, ok)
			}
		}
	}
}

func TestValuesStayUntilTheNextChange(t *testing.T) {
	for _, c := range randomConditions(300) {
		for _, facts := range [][]string{{}, {"a"}, {"a0", "b"}} {
			for day := 0; day >= 0; {
				next, ok := impl.NextChange(c, day)
				if !ok {
					t.Fatalf("NextChange(%s, %d) fails", modelText(c), day)
				}
				value, _ := impl.EvaluateCondition(c, facts, day)
				last := next - 1
				if next < 0 {
					last = impl.MaxDay
				}
				for _, other := range []int{day + (last-day)/2, last} {
					if got, ok := impl.EvaluateCondition(c, facts, other); !ok || got != value {
						t.Fatalf("%s changes between %d and %d", modelText(c), day, other)
					}
				}
				day = next
			}
		}
	}
}

// rewritten applies one rule of the document at the innermost place where one applies, and
// reports whether there is one.
func rewritten(c impl.Condition) (impl.Condition, bool) {
	for i, part := range c.Parts {
		if simpler, ok := rewritten(part); ok {
			c.Parts = slices.Clone(c.Parts)
			c.Parts[i] = simpler
			return c, true
		}
	}
	yes, no := "true", "not true"
	texts := []string{}
	for _, part := range c.Parts {
		texts = append(texts, modelText(part))
	}
	switch {
	case c.Op == impl.CondFrom && c.Day == 0:
		return always(), true
	case c.Op == impl.CondNot && c.Parts[0].Op == impl.CondNot:
		return c.Parts[0].Parts[0], true
	case c.Op != impl.CondAnd && c.Op != impl.CondOr:
		return c, false
	case c.Op == impl.CondOr:
		yes, no = no, yes
	}
	for i := range 2 {
		if texts[i] == yes {
			return c.Parts[1-i], true
		}
	}
	for i := range 2 {
		if texts[i] == no {
			return c.Parts[i], true
		}
	}
	return c.Parts[0], texts[0] == texts[1]
}

// modelSimple applies the rules until none applies any more.
func modelSimple(c impl.Condition) impl.Condition {
	for {
		simpler, ok := rewritten(c)
		if !ok {
			return c
		}
		c = simpler
	}
}

func TestRulesOfSimplification(t *testing.T) {
	for text, want := range map[string]string{
		"true": "true", "a": "a", "not a": "not a", "not true": "not true", "from 2000-01-01": "true", "from 2000-01-02": "from 2000-01-02",
		"not from 2000-01-01": "not true", "not not a": "a", "not not not a": "not a", "not not not not a": "a", "not not true": "true", "not not not true": "not true",
		"(true and a)": "a", "(a and true)": "a", "(not true and a)": "not true", "(a and not true)": "not true",
		"(true or a)": "true", "(a or true)": "true", "(not true or a)": "a", "(a or not true)": "a",
		"(true and true)": "true", "(true and not true)": "not true", "(not true and true)": "not true", "(not true and not true)": "not true",
		"(true or true)": "true", "(true or not true)": "true", "(not true or true)": "true", "(not true or not true)": "not true",
		"(a and a)": "a", "(a or a)": "a", "(a and b)": "(a and b)", "(b or a)": "(b or a)", "(a and not a)": "(a and not a)", "(a or not a)": "(a or not a)",
		"(from 2000-01-02 and from 2000-01-02)": "from 2000-01-02", "(from 2000-01-02 or from 2000-01-03)": "(from 2000-01-02 or from 2000-01-03)",
		"(from 2000-01-01 and a)": "a", "(a or from 2000-01-01)": "true", "(not from 2000-01-01 or a)": "a", "(a and not from 2000-01-01)": "not true",
		"(true and not not a)": "a", "not (true and not a)": "a", "((a and b) or (a and b))": "(a and b)", "((a and b) or (b and a))": "((a and b) or (b and a))",
		"((a and b) and (a or b))": "((a and b) and (a or b))", "((a or b) or ((a or b) and true))": "(a or b)", "(not not a or a)": "a", "(a and (a and (a and a)))": "a",
		"((a or b) and not not (a or not not b))": "(a or b)", "not (not (a or true) or not b)": "b", "(not a and not a)": "not a",
		"((a or not true) and ((b and not true) or c))": "(a and c)", "not not (not not a and not not b)": "(a and b)",
		"(a and (b and a))": "(a and (b and a))", "((a and b) and a)": "((a and b) and a)", "((a and a) or (b or b))": "(a or b)", "not (a and a)": "not a",
		"(not (a or b) and not (a or b))": "not (a or b)", "(not (a or b) and not (b or a))": "(not (a or b) and not (b or a))",
		"((a and from 2020-01-01) or (a and from 2020-01-02))": "((a and from 2020-01-01) or (a and from 2020-01-02))",
	} {
		c, ok := impl.ParseCondition(text)
		if !ok {
			t.Fatalf("ParseCondition(%q) fails", text)
		}
		simple, ok := impl.SimplifyCondition(c)
		if !ok || !impl.IsValidCondition(simple) || modelText(simple) != want {
			t.Errorf("SimplifyCondition(%s) = %v, %v", text, simple, ok)
		}
	}
}

func TestSimplificationPreservesValues(t *testing.T) {
	lists := factLists([]string{"a", "b"})
	for _, c := range conditionsUpTo(6, fewLeaves()...) {
		simple, ok := impl.SimplifyCondition(c)
		if !ok || !impl.IsValidCondition(simple) {
			t.Fatalf("SimplifyCondition(%s) = %v, %v", modelText(c), simple, ok)
		}
		for _, facts := range lists {
			for _, day := range []int{0, 9, 10, 11, impl.MaxDay} {
				if modelHolds(c, facts, day) != modelHolds(simple, facts, day) {
					t.Fatalf("%s becomes %s: %v, %d", modelText(c), modelText(simple), facts, day)
				}
			}
		}
	}
	for _, c := range randomConditions(3000) {
		simple, ok := impl.SimplifyCondition(c)
		if !ok || modelSize(simple) > modelSize(c) {
			t.Fatalf("SimplifyCondition(%s) = %v, %v", modelText(c), simple, ok)
		}
		for _, facts := range factLists(sortedNames(c)) {
			for _, day := range daysAround(c) {
				if modelHolds(c, facts, day) != modelHolds(simple, facts, day) {
					t.Fatalf("%s becomes %s: %v, %d", modelText(c), modelText(simple), facts, day)
				}
			}
		}
	}
}

func TestSimplificationAppliesAllRules(t *testing.T) {
	for _, c := range slices.Concat(conditionsUpTo(7, always(), fact("a"), fact("b"), from(0)), conditionsUpTo(5, fewLeaves()...), randomConditions(5000)) {
		simple, ok := impl.SimplifyCondition(c)
		if want := modelSimple(c); !ok || !impl.IsValidCondition(simple) || modelText(simple) != modelText(want) {
			t.Fatalf("SimplifyCondition(%s) = %s, %v, not %s", modelText(c), modelText(simple), ok, modelText(want))
		}
		if again, ok := impl.SimplifyCondition(simple); !ok || modelText(again) != modelText(simple) {
			t.Fatalf("SimplifyCondition(%s) = %s, %v", modelText(simple), modelText(again), ok)
		}
	}
}

// modelImplies tries all fact lists of the names in both conditions and all days around their
// changes.
func modelImplies(a impl.Condition, b impl.Condition) bool {
	for _, facts := range factLists(sortedNames(a, b)) {
		for _, day := range daysAround(a, b) {
			if modelHolds(a, facts, day) && !modelHolds(b, facts, day) {
				return false
			}
		}
	}
	return true
}

func TestImplicationHoldsForAllDaysAndFacts(t *testing.T) {
	few := conditionsUpTo(4, fewLeaves()...)
	for i, a := range few {
		for k, b := range few {
			if i >= 90 && k >= 90 && (i+k)%7 > 0 {
				continue
			}
			if got, ok := impl.ImpliesCondition(a, b); !ok || got != modelImplies(a, b) {
				t.Fatalf("ImpliesCondition(%s, %s) = %v, %v", modelText(a), modelText(b), got, ok)
			}
		}
	}
	random := randomConditions(4000)
	for i, a := range random {
		for _, b := range []impl.Condition{random[(i*31+7)%len(random)], random[i%40]} {
			if got, ok := impl.ImpliesCondition(a, b); !ok || got != modelImplies(a, b) {
				t.Fatalf("ImpliesCondition(%s, %s) = %v, %v", modelText(a), modelText(b), got, ok)
			}
		}
	}
}

func TestSimplifiedConditionsImplyEachOther(t *testing.T) {
	for _, c := range randomConditions(2000) {
		simple, _ := impl.SimplifyCondition(c)
		for _, pair := range [][2]impl.Condition{{c, simple}, {simple, c}, {c, c}, {c, always()}, {not(always()), c}} {
			if got, ok := impl.ImpliesCondition(pair[0], pair[1]); !ok || !got {
				t.Fatalf("ImpliesCondition(%s, %s) = %v, %v", modelText(pair[0]), modelText(pair[1]), got, ok)
			}
		}
	}
}

func TestImplicationFailsOnOneDayOnly(t *testing.T) {
	for _, day := range []int{0, 1, 59, 365, 20000, impl.MaxDay - 1, impl.MaxDay} {
		only := from(day)
		if day < impl.MaxDay {
			only = both(from(day), not(from(day+1)))
		}
		for b, want := range map[string]bool{"from": true, "never": false, "not": false, "other": false} {
			other := map[string]impl.Condition{"from": from(day), "never": not(always()), "not": not(only), "other": both(only, fact("x"))}[b]
			if got, ok := impl.ImpliesCondition(only, other); !ok || got != want {
				t.Errorf("day %d alone implies %s = %v, %v", day, b, got, ok)
			}
		}
		if got, ok := impl.ImpliesCondition(always(), not(only)); !ok || got {
			t.Errorf("every day implies all but %d = %v, %v", day, got, ok)
		}
	}
}

func TestImplicationBetweenNeighbouringDays(t *testing.T) {
	for _, day := range []int{0, 1, 9, 365, impl.MaxDay - 1} {
		for _, x := range []struct {
			a, b impl.Condition
			want bool
		}{
			{from(day + 1), from(day), true}, {from(day), from(day + 1), false}, {not(from(day)), not(from(day + 1)), true},
			{not(from(day + 1)), not(from(day)), false}, {from(day), from(day), true}, {from(day), not(from(day)), false},
			{not(from(day)), from(day), day == 0}, {always(), from(day), day == 0}, {from(day), always(), true},
			{both(from(day), not(from(day+1))), fact("a"), false}, {both(from(day+1), not(from(day))), fact("a"), true},
			{both(fact("a"), from(day+1)), both(from(day), fact("a")), true}, {either(fact("a"), from(day)), either(from(day+1), fact("a")), false},
		} {
			if got, ok := impl.ImpliesCondition(x.a, x.b); !ok || got != x.want {
				t.Errorf("ImpliesCondition(%s, %s) = %v, %v", modelText(x.a), modelText(x.b), got, ok)
			}
		}
	}
}

// literals joins the names by CondAnds, each one negated if it is not known.
func literals(names []string, known func(i int) bool) impl.Condition {
	var c impl.Condition
	for i, name := range names {
		literal := fact(name)
		if !known(i) {
			literal = not(literal)
		}
		if i == 0 {
			c = literal
		} else {
			c = both(c, literal)
		}
	}
	return c
}

func TestImplicationFailsForOneFactListOnly(t *testing.T) {
	names := manyNames[:5]
	for set := range 1 << len(names) {
		// Only one fact list satisfies c, so it is the only one that can show the difference.
		c := literals(names, func(i int) bool { return set>>i&1 == 1 })
		if got, ok := impl.ImpliesCondition(always(), not(c)); !ok || got {
			t.Errorf("ImpliesCondition(true, not %s) = %v, %v", modelText(c), got, ok)
		}
		if got, ok := impl.ImpliesCondition(c, not(always())); !ok || got {
			t.Errorf("ImpliesCondition(%s, not true) = %v, %v", modelText(c), got, ok)
		}
		for i, name := range names {
			if got, ok := impl.ImpliesCondition(c, fact(name)); !ok || got != (set>>i&1 == 1) {
				t.Errorf("ImpliesCondition(%s, %s) = %v, %v", modelText(c), name, got, ok)
			}
		}
	}
}

func TestImplicationWithTenAndElevenNames(t *testing.T) {
	first, second, third := allOf(manyNames[:5], true), allOf(manyNames[5:10], false), allOf(manyNames[5:11], true)
	for _, x := range []struct {
		a, b     impl.Condition
		want, ok bool
	}{
		{first, second, false, true}, {second, first, false, true}, {first, third, false, false}, {third, first, false, false},
		{allOf(manyNames[:8], true), allOf(manyNames[2:10], true), false, true}, {allOf(manyNames[:8], true), allOf(manyNames[3:11], true), false, false},
		{allOf(manyNames[:8], true), allOf(manyNames[2:8], false), true, true}, {allOf(manyNames[:8], true), allOf([]string{"z", "zz"}, true), false, true},
		{allOf(manyNames[:8], true), allOf([]string{"z", "zz", "zzz"}, true), false, false}, {both(not(always()), first), second, true, true},
		{both(not(always()), first), third, false, false}, {first, either(second, always()), true, true}, {third, either(always(), first), false, false},
		{not(always()), allOf(manyNames[:8], true), true, true}, {not(first), not(second), false, true},
	} {
		if got, ok := impl.ImpliesCondition(x.a, x.b); ok != x.ok || got != x.want {
			t.Errorf("ImpliesCondition(%s, %s) = %v, %v", modelText(x.a), modelText(x.b), got, ok)
		}
	}
}

func TestTextsOfConditions(t *testing.T) {
	for text, c := range map[string]impl.Condition{
		"true":                                 always(),
		"paid":                                 fact("paid"),
		"abcdefgh":                             fact("abcdefgh"),
		"true1":                                fact("true1"),
		"notnot":                               fact("notnot"),
		"from 2000-01-01":                      from(0),
		"from 2000-02-29":                      from(59),
		"from 2024-01-01":                      from(8766),
		"from 2099-12-31":                      from(impl.MaxDay),
		"not true":                             not(always()),
		"not not a":                            not(not(fact("a"))),
		"(a and b)":                            both(fact("a"), fact("b")),
		"(a or b)":                             either(fact("a"), fact("b")),
		"not (a or b)":                         not(either(fact("a"), fact("b"))),
		"(not a or b)":                         either(not(fact("a")), fact("b")),
		"(ands or ors)":                        either(fact("ands"), fact("ors")),
		"((a and b) or c)":                     either(both(fact("a"), fact("b")), fact("c")),
		"(a and (b or c))":                     both(fact("a"), either(fact("b"), fact("c"))),
		"(paid and not from 2024-01-01)":       both(fact("paid"), not(from(8766))),
		"(from 2000-01-01 or from 2000-01-02)": either(from(0), from(1)),
		"((a or true) and (not b and from1))":  both(either(fact("a"), always()), both(not(fact("b")), fact("from1"))),
		strings.Repeat("not ", 14) + "a":       nots(14, fact("a")),
		"(((((((a and a0) and aa) and b) and c9) and d) and e) and f)": allOf(manyNames[:8], true),
	} {
		if got, ok := impl.FormatCondition(c); !ok || got != text {
			t.Errorf("FormatCondition(%v) = %q, %v", c, got, ok)
		}
		if got, ok := impl.ParseCondition(text); !ok || !reflect.DeepEqual(got, c) {
			t.Errorf("ParseCondition(%q) = %v, %v", text, got, ok)
		}
	}
}

func TestConditionsAreRecoveredFromTheirTexts(t *testing.T) {
	list := slices.Concat(conditionsUpTo(6, fewLeaves()...), randomConditions(5000))
	for day := 0; day <= impl.MaxDay; day++ {
		list = append(list, from(day))
	}
	for _, c := range list {
		text, ok := impl.FormatCondition(c)
		if !ok || text != modelText(c) {
			t.Fatalf("FormatCondition(%v) = %q, %v", c, text, ok)
		}
		if back, ok := impl.ParseCondition(text); !ok || !reflect.DeepEqual(back, c) {
			t.Fatalf("ParseCondition(%q) = %v, %v", text, back, ok)
		}
	}
}

// checkNoCondition checks that a text is the text of no condition.
func checkNoCondition(t *testing.T, text string) {
	t.Helper()
	if c, ok := impl.ParseCondition(text); ok || !isZeroCondition(c) {
		t.Errorf("ParseCondition(%.80q) = %v, %v", text, c, ok)
	}
}

func TestTextsOfNoCondition(t *testing.T) {
	for _, text := range []string{
		"", " ", "()", "(", ")", "(a)", "(true)", "a ", " a", "a b", "a and b", "a or b", "not", "not ", "nota b", "not  a", " not a", "not not", "not not ", "not)", "not(a or b)",
		"(a and b", "a and b)", "(a and b))", "((a and b)", "(a and b) ", " (a and b)", "( a and b)", "(a and b )", "(a  and b)", "(a and  b)", "(a andb)", "(aand b)", "(a and)",
		"(a and )", "( and b)", "(and b)", "(a xor b)", "(a nor b)", "(a AND b)", "(a,b)", "(a and b and c)", "(a and b or c)", "(a or b or c)", "(not a)", "(a)(b)", "(a and b)(a or b)",
		"[a and b]", "{a or b}", "(a or b]", "a or (b or c)", "(a or b) and c", "not a and b", "((a and b) or c", "(a and (b or c)",
		"true ", " true", "TRUE", "True", "true true", "true\n", "truetruetrue", "true and true",
		"from", "from ", "from  2024-01-01", "from2024-01-01", "from\t2024-01-01", "from 2024-01-1", "from 2024-1-01", "from 24-01-01", "from 2024-01-011", "from 2024-01-01 ",
		"from 2024-02-30", "from 2023-02-29", "from 2024-13-01", "from 2024-00-01", "from 2024-01-00", "from 2024-01-32", "from 2024-04-31", "from 1999-12-31", "from 2100-01-01",
		"from 2024/01/01", "from 2024-01-0a", "from +024-01-01", "from 2024-+1-01", "from a", "from true", "from from 2024-01-01", "from not a", "from 0", "from 8766", "from (a and b)",
		"(from 2024-02-30 and a)", "(a and from 2024-01-1)", "(from 2024-01- and a)", "not from 2023-02-29",
		"and", "or", "both", "either", "it", "in", "not and", "(or and or)", "(a and it)", "(in or b)", "not both", "(either or a)", "either a or b", "both a and b",
		"Paid", "paiD", "9a", "1", "abcdefghi", "not abcdefghi", "(abcdefghi or a)", "a_b", "a-b", "ä", "a\x00", "\x00a", "a\xff", "-1", "a;", "a\n", "\na",
		strings.Repeat("a", 1000000), strings.Repeat(" ", 1000000), strings.Repeat("(", 1000000), strings.Repeat("not ", 1000000), strings.Repeat("(a and ", 1000000), strings.Repeat(")", 1000000),
	} {
		checkNoCondition(t, text)
	}
}

func TestTextsOfTooManyConditions(t *testing.T) {
	row := func(count int) string { return strings.Repeat("not ", count-1) + "a" }
	left := func(pairs int) string { return strings.Repeat("(", pairs) + "a" + strings.Repeat(" or b)", pairs) }
	right := func(pairs int) string { return strings.Repeat("(a and ", pairs) + "b" + strings.Repeat(")", pairs) }
	for _, text := range []string{row(15), left(7), right(7), "not not (a and " + row(11) + ")", "(" + row(7) + " or " + row(7) + ")", "(" + left(3) + " and " + right(3) + ")"} {
		if c, ok := impl.ParseCondition(text); !ok || modelText(c) != text || modelSize(c) != impl.MaxCondition {
			t.Errorf("ParseCondition(%q) = %v, %v", text, c, ok)
		}
	}
	for _, text := range []string{
		row(16), row(17), row(1000), left(8), right(8), left(1000), right(1000), "not " + left(7), "not " + right(7), "(" + row(7) + " or " + row(8) + ")",
		"(" + row(8) + " or " + row(7) + ")", "(" + left(3) + " and not " + right(3) + ")", "(not " + left(3) + " and " + right(3) + ")", "(a and " + row(14) + ")", "(" + row(14) + " and a)",
	} {
		checkNoCondition(t, text)
	}
}

// hasOtherWords reports whether a text has a word that is not one of the words.
func hasOtherWords(text string, words ...string) bool {
	return slices.ContainsFunc(strings.FieldsFunc(text, func(r rune) bool { return r < 'a' || r > 'z' }), func(word string) bool {
		return !slices.Contains(words, word)
	})
}

func TestTokensInEveryOrder(t *testing.T) {
	texts := map[string]bool{}
	for _, c := range conditionsUpTo(7, always(), fact("a")) {
		texts[modelText(c)] = true
	}
	found := 0
	tokens := strings.NewReplacer("{", " and ", "}", " or ", "n", "not ", "t", "true")
	for _, text := range stringsOver("(){}nta ", 6) {
		text = tokens.Replace(text)
		// Tokens that run into each other may make other names, such as aa.
		if hasOtherWords(text, "a", "true", "not", "and", "or") {
			continue
		}
		c, ok := impl.ParseCondition(text)
		if ok != texts[text] || ok && modelText(c) != text {
			t.Fatalf("ParseCondition(%q) = %v, %v", text, c, ok)
		}
		if ok {
			found++
		}
	}
	// A word after 0 to 5 nots, and two words in brackets with no not or one before any of them.
	if want := 6*2 + 8 + 3*8; found != want {
		t.Errorf("%d texts were conditions, not %d", found, want)
	}
}

// edited returns the texts with one byte of s missing, one added or one changed.
func edited(s string) []string {
	list := []string{}
	for i := range len(s) + 1 {
		for _, b := range []byte("aezA019 ()-_,\n\x00\xff") {
			list = append(list, s[:i]+string([]byte{b})+s[i:])
			if i < len(s) && s[i] != b {
				list = append(list, s[:i]+string([]byte{b})+s[i+1:])
			}
		}
		if i < len(s) {
			list = append(list, s[:i]+s[i+1:])
		}
	}
	return list
}

func TestEditedTextsAreTextsOfOtherConditionsOrOfNone(t *testing.T) {
	known := map[string]bool{"(paid and not from 2024-01-01)": true}
	for _, c := range randomConditions(150) {
		known[modelText(c)] = true
	}
	for text := range known {
		for _, other := range edited(text) {
			c, ok := impl.ParseCondition(other)
			if !ok && !isZeroCondition(c) {
				t.Fatalf("ParseCondition(%q) = %v, %v", other, c, ok)
			}
			if ok && (!impl.IsValidCondition(c) || modelText(c) != other) {
				t.Fatalf("ParseCondition(%q) = %v", other, c)
			}
		}
	}
}

func TestEditedTextOfTheExample(t *testing.T) {
	text := "(paid and not from 2024-01-01)"
	for i := range len(text) {
		missing := text[:i] + text[i+1:]
		// Without one of its letters, paid is still a name.
		want := 1 <= i && i <= 4
		if _, ok := impl.ParseCondition(missing); ok != want {
			t.Errorf("ParseCondition(%q) = %v", missing, ok)
		}
		checkNoCondition(t, text[:i])
		checkNoCondition(t, text[:i]+" "+text[i:])
		checkNoCondition(t, text[:i]+"_"+text[i+1:])
		checkNoCondition(t, text[:i]+")"+text[i:])
		checkNoCondition(t, text[:i]+"("+text[i:])
	}
	for _, other := range []string{" ", ")", "(", "\x00", "a", "0", " and b"} {
		checkNoCondition(t, text+other)
	}
}

func TestConditionsAndListsStayAsTheyAre(t *testing.T) {
	random := randomConditions(600)
	for i, c := range random {
		b := random[(i*7+3)%len(random)]
		cBefore, bBefore := deepCopy(c), deepCopy(b)
		facts := []string{"a", "b", "c9", "spare"}
		impl.IsValidCondition(c)
		impl.EvaluateCondition(c, facts[:3], 6)
		impl.ConditionNames(c)
		impl.NextChange(c, 6)
		impl.SimplifyCondition(c)
		impl.ImpliesCondition(c, b)
		impl.FormatCondition(c)
		if !reflect.DeepEqual(c, cBefore) || !reflect.DeepEqual(b, bBefore) {
			t.Fatalf("changed: %s, %s", modelText(cBefore), modelText(bBefore))
		}
		if !slices.Equal(facts, []string{"a", "b", "c9", "spare"}) {
			t.Fatalf("changed: %v", facts)
		}
	}
}

func TestSimplifiedConditionsHaveMemoryOfTheirOwn(t *testing.T) {
	for _, c := range append(conditionsUpTo(5, always(), fact("a"), fact("b"), from(3)), randomConditions(2000)...) {
		c = deepCopy(c)
		before := deepCopy(c)
		simple, _ := impl.SimplifyCondition(c)
		kept := deepCopy(simple)
		spoil(c)
		if !reflect.DeepEqual(deepCopy(simple), kept) {
			t.Fatalf("SimplifyCondition(%s) keeps its argument", modelText(before))
		}
		c = deepCopy(before)
		simple, _ = impl.SimplifyCondition(c)
		spoil(simple)
		if !reflect.DeepEqual(c, before) {
			t.Fatalf("SimplifyCondition(%s) gives its argument away", modelText(before))
		}
	}
}

func TestSharedPartsAreSimplifiedToSeparateOnes(t *testing.T) {
	shared := both(fact("a"), not(fact("b")))
	simple, ok := impl.SimplifyCondition(either(not(shared), shared))
	if want := "(not (a and not b) or (a and not b))"; !ok || modelText(simple) != want {
		t.Fatalf("SimplifyCondition = %s, %v", modelText(simple), ok)
	}
	spoil(simple.Parts[0])
	if want := "(a and not b)"; modelText(simple.Parts[1]) != want {
		t.Errorf("the second part is %s", modelText(simple.Parts[1]))
	}
}

func TestEveryAnswerIsNew(t *testing.T) {
	c := both(fact("b"), either(fact("a"), from(9)))
	first, _ := impl.ConditionNames(c)
	first[0], first[1] = "x", "y"
	if second, _ := impl.ConditionNames(c); !slices.Equal(second, []string{"a", "b"}) {
		t.Errorf("ConditionNames = %v", second)
	}
	text := "(b and (a or from 2000-01-10))"
	parsed, _ := impl.ParseCondition(text)
	spoil(parsed)
	if again, ok := impl.ParseCondition(text); !ok || !reflect.DeepEqual(again, c) {
		t.Errorf("ParseCondition = %v, %v", again, ok)
	}
}
