package tests

import (
	"fmt"
	"math"
	"math/rand"
	"reflect"
	"regexp"
	"slices"
	"strconv"
	"strings"
	"testing"
	"unsafe"

	"loop.example/g00902/impl"
)

// wordsOfTexts are words that texts of contracts and events contain, and that are names as well.
var wordsOfTexts = []string{"parties", "must", "may", "can", "for", "against", "toward", "paying", "within", "days", "when", "else", "then", "does"}

// modelClause is the line of a clause as the table of the document has it. It writes a part that
// the kind of the clause must not have, too.
func modelClause(x impl.Clause, parties []string) string {
	party := func(i int) string {
		if i < 0 || i >= len(parties) {
			return "nobody"
		}
		return parties[i]
	}
	form := map[int]string{
		impl.Obligation: "%s: %s must %s for %s", impl.Prohibition: "%s: %s must not %s against %s",
		impl.Permission: "%s: %s may %s for %s", impl.Power: "%s: %s can %s toward %s",
	}[x.Kind]
	line := fmt.Sprintf(form, x.Id, party(x.Party), x.Action, party(x.Other))
	if x.Amount != 0 {
		line += " paying " + modelAmountText(x.Amount)
	}
	if x.Kind == impl.Obligation || x.Within != 0 {
		line += fmt.Sprintf(" within %d days", x.Within)
	}
	line += " when " + modelText(x.When)
	if x.Repair != "" {
		line += map[bool]string{true: " then ", false: " else "}[x.Kind == impl.Power] + x.Repair
	}
	return line
}

// modelContract is the text of a contract.
func modelContract(c impl.Contract) string {
	text := "parties"
	for _, party := range c.Parties {
		text += " " + party
	}
	text += "\n"
	for _, x := range c.Clauses {
		text += modelClause(x, c.Parties) + "\n"
	}
	return text
}

// clauseForm matches the line of a clause, with its Repair in the same part as its condition.
var clauseForm = regexp.MustCompile(`^([a-z0-9]+): ([a-z0-9]+) (must|must not|may|can) ([a-z0-9]+) (for|against|toward) ([a-z0-9]+)(?: paying ([0-9]{1,9})\.([0-9]{2}))?(?: within ([0-9]{1,9}) days)? when ([^\n]+)$`)

// modelParseContract finds the contract with a text, if there is one, by a regular expression.
func modelParseContract(s string) (impl.Contract, bool) {
	lines := strings.Split(s, "\n")
	c := impl.Contract{Parties: strings.Split(strings.TrimPrefix(lines[0], "parties "), " ")}
	for _, line := range lines[1 : len(lines)-min(1, len(lines)-1)] {
		parts := clauseForm.FindStringSubmatch(line)
		if parts == nil {
			return impl.Contract{}, false
		}
		kinds := map[string]int{"must": impl.Obligation, "must not": impl.Prohibition, "may": impl.Permission, "can": impl.Power}
		x := impl.Clause{Id: parts[1], Kind: kinds[parts[3]], Party: slices.Index(c.Parties, parts[2]), Action: parts[4], Other: slices.Index(c.Parties, parts[6])}
		x.Amount, _ = strconv.Atoi(parts[7] + parts[8])
		x.Within, _ = strconv.Atoi(parts[9])
		text := parts[10]
		when, ok := impl.ParseCondition(text)
		if at := max(strings.LastIndex(text, " else "), strings.LastIndex(text, " then ")); !ok && at >= 0 {
			x.Repair = text[at+6:]
			when, ok = impl.ParseCondition(text[:at])
		}
		if !ok {
			return impl.Contract{}, false
		}
		x.When = when
		c.Clauses = append(c.Clauses, x)
	}
	if len(brokenRules(c)) > 0 || modelContract(c) != s {
		return impl.Contract{}, false
	}
	return c, true
}

// checkContract checks the texts of a contract and of its clauses, and that it is recovered.
func checkContract(t *testing.T, c impl.Contract, text string) {
	t.Helper()
	if got, ok := impl.FormatContract(c); !ok || got != text {
		t.Errorf("FormatContract = %q, %v, not %q", got, ok, text)
	}
	if got, ok := impl.ParseContract(text); !ok || !reflect.DeepEqual(got, c) {
		t.Errorf("ParseContract(%q) = %+v, %v", text, got, ok)
	}
	lines := strings.Split(text, "\n")
	if len(lines) != len(c.Clauses)+2 {
		t.Fatalf("%q has %d lines", text, len(lines))
	}
	for i := range c.Clauses {
		if got, ok := impl.FormatClause(c, i); !ok || got != lines[i+1] {
			t.Errorf("FormatClause(%d) = %q, %v, not %q", i, got, ok, lines[i+1])
		}
	}
}

// checkNoContract checks that a text is the text of no contract.
func checkNoContract(t *testing.T, text string) {
	t.Helper()
	if c, ok := impl.ParseContract(text); ok || !isZeroContract(c) {
		t.Errorf("ParseContract(%.200q) = %+v, %v", text, c, ok)
	}
}

// twoDuties is a text of two obligations, the first of them with these parts after its Other.
func twoDuties(parts string) string {
	return "parties buyer seller\nc1: buyer must paid for seller" + parts + "\nc2: buyer must late for seller within 2 days when true\n"
}

func TestTextOfTheExample(t *testing.T) {
	x := impl.Clause{Id: "c1", Kind: impl.Obligation, Party: 0, Action: "pay", Other: 1, Amount: 100, When: fact("sent"), Within: 5}
	checkContract(t, contractOf(x), "parties buyer seller\nc1: buyer must pay for seller paying 1.00 within 5 days when sent\n")
}

func TestTextOfTheSale(t *testing.T) {
	checkContract(t, sale(), `parties buyer seller bank
pay: buyer must paid for seller paying 100.00 within 5 days when sent else late
late: buyer must penalty for seller paying 10000.00 within 400 days when true else deposit
resell: buyer must not resold against bank when not paid else late
free: buyer may resold for seller when (waived and from 2000-04-10)
cancel: seller can cancel toward buyer when (not paid or from 2000-07-19)
send: seller must sent for buyer within 0 days when true else refund
refund: seller must refund for buyer paying 0.01 within 1 days when (paid or audit)
deposit: bank must paid for seller within 2 days when from 2099-12-31 else late
seize: bank can seized toward buyer when true then deposit
`)
}

func TestLinesWithAndWithoutTheirParts(t *testing.T) {
	for line, x := range map[string]impl.Clause{
		"x: a must act for b within 0 days when true":                        {Kind: impl.Obligation},
		"x: a must act for b paying 0.01 within 0 days when true":            {Kind: impl.Obligation, Amount: 1},
		"x: a must act for b within 3 days when true else y":                 {Kind: impl.Obligation, Within: 3, Repair: "y"},
		"x: a must act for b paying 12.34 within 400 days when true else y":  {Kind: impl.Obligation, Amount: 1234, Within: impl.MaxWithin, Repair: "y"},
		"x: a must act for b paying 10000.00 within 1 days when true else y": {Kind: impl.Obligation, Amount: impl.MaxPrice, Within: 1, Repair: "y"},
		"x: a must not act against b when true":                              {Kind: impl.Prohibition},
		"x: a must not act against b when true else y":                       {Kind: impl.Prohibition, Repair: "y"},
		"x: a may act for b when true":                                       {Kind: impl.Permission},
		"x: a can act toward b when true":                                    {Kind: impl.Power},
		"x: a can act toward b when true then y":                             {Kind: impl.Power, Repair: "y"},
	} {
		x.Id, x.Action, x.Other, x.When = "x", "act", 1, always()
		y := duty("y", "")
		c := impl.Contract{Parties: []string{"a", "b"}, Clauses: []impl.Clause{x, y}}
		other := "y: a must act for b within 0 days when true\n"
		checkContract(t, c, "parties a b\n"+line+"\n"+other)
		slices.Reverse(c.Clauses)
		checkContract(t, c, "parties a b\n"+other+line+"\n")
		c.Clauses[1].Party, c.Clauses[1].Other = 1, 0
		swapped := strings.NewReplacer(" a ", " b ", " b ", " a ").Replace(line)
		checkContract(t, c, "parties a b\n"+other+swapped+"\n")
	}
}

func TestAmountsOfLines(t *testing.T) {
	for amount, part := range map[int]string{
		0: "", 1: " paying 0.01", 9: " paying 0.09", 10: " paying 0.10", 99: " paying 0.99", 100: " paying 1.00", 101: " paying 1.01",
		1234: " paying 12.34", 100000: " paying 1000.00", impl.MaxPrice - 1: " paying 9999.99", impl.MaxPrice: " paying 10000.00",
	} {
		x := duty("c", "")
		x.Amount = amount
		checkContract(t, contractOf(x), "parties buyer seller\nc: buyer must act for seller"+part+" within 0 days when true\n")
	}
	for amount := range impl.MaxPrice {
		if amount > 1000 && amount%997 != 0 {
			continue
		}
		x := duty("c", "")
		x.Amount = amount
		checkContract(t, contractOf(x), modelContract(contractOf(x)))
	}
}

func TestDeadlinesOfLines(t *testing.T) {
	for within := range impl.MaxWithin + 1 {
		x := duty("c", "")
		x.Within = within
		checkContract(t, contractOf(x), fmt.Sprintf("parties buyer seller\nc: buyer must act for seller within %d days when true\n", within))
	}
}

func TestConditionsOfLines(t *testing.T) {
	list := append(conditionsUpTo(4, fewLeaves()...), randomConditions(500)...)
	for _, c := range largestConditions() {
		list = append(list, c)
	}
	for _, word := range wordsOfTexts {
		list = append(list, fact(word), not(fact(word)), both(fact(word), either(fact(word), fact("a"))))
	}
	for _, when := range list {
		for _, kind := range allKinds {
			x := clauseOf(kind, "x")
			x.When = when
			c := contractOf(x, duty("y", ""))
			checkContract(t, c, modelContract(c))
			if kind != impl.Permission {
				c.Clauses[0].Repair = "y"
				checkContract(t, c, modelContract(c))
			}
		}
	}
}

func TestWordsOfTextsAreNamesToo(t *testing.T) {
	for _, word := range wordsOfTexts {
		for _, other := range wordsOfTexts {
			if word == other {
				continue
			}
			for _, kind := range allKinds {
				x := impl.Clause{Id: word, Kind: kind, Party: 1, Action: other, Other: 0, When: either(fact(word), fact(other))}
				y := impl.Clause{Id: other, Kind: impl.Obligation, Party: 0, Action: word, Other: 1, When: fact(other), Repair: ""}
				c := impl.Contract{Parties: []string{word, other}, Clauses: []impl.Clause{x, y}}
				checkContract(t, c, modelContract(c))
				if kind != impl.Permission {
					c.Clauses[0].Repair = other
					checkContract(t, c, modelContract(c))
				}
			}
		}
	}
	checkContract(t, impl.Contract{Parties: []string{"must", "for"}, Clauses: []impl.Clause{
		{Id: "when", Kind: impl.Obligation, Action: "for", Other: 1, When: fact("else"), Repair: "else"},
		{Id: "else", Kind: impl.Obligation, Party: 1, Action: "must", Other: 0, Amount: 100, When: not(fact("then")), Within: 5},
		{Id: "then", Kind: impl.Power, Party: 0, Action: "can", Other: 1, When: fact("then"), Repair: "else"},
	}}, "parties must for\nwhen: must must for for for within 0 days when else else else\nelse: for must must for must paying 1.00 within 5 days when not then\nthen: must can can toward for when then then else\n")
}

func TestContractsAreRecoveredFromTheirTexts(t *testing.T) {
	for _, c := range validContracts() {
		text := modelContract(c)
		if got, ok := impl.FormatContract(c); !ok || got != text {
			t.Fatalf("FormatContract(%+v) = %q, %v", c, got, ok)
		}
		if got, ok := impl.ParseContract(text); !ok || !reflect.DeepEqual(got, c) {
			t.Fatalf("ParseContract(%q) = %+v, %v", text, got, ok)
		}
		for i, x := range c.Clauses {
			if got, ok := impl.FormatClause(c, i); !ok || got != modelClause(x, c.Parties) {
				t.Fatalf("FormatClause(%+v, %d) = %q, %v", c, i, got, ok)
			}
		}
	}
}

func TestNumbersOfPartiesAndClausesOfTexts(t *testing.T) {
	for parties := range 6 {
		for clauses := range impl.MaxClauses + 3 {
			c := impl.Contract{Parties: manyParties(parties), Clauses: manyDuties(clauses)}
			if 2 <= parties && parties <= impl.MaxParties && 1 <= clauses && clauses <= impl.MaxClauses {
				checkContract(t, c, modelContract(c))
				continue
			}
			checkNoContract(t, modelContract(c))
			if got, ok := impl.FormatContract(c); ok || got != "" {
				t.Errorf("FormatContract with %d parties, %d clauses = %q, %v", parties, clauses, got, ok)
			}
		}
	}
}

func TestLongestContractFitsIntoAString(t *testing.T) {
	c := impl.Contract{Parties: []string{"aaaaaaaa", "bbbbbbbb", "cccccccc", "dddddddd"}}
	for i := range impl.MaxClauses {
		when := balanced(3, func(int) impl.Condition { return from(impl.MaxDay) })
		c.Clauses = append(c.Clauses, impl.Clause{
			Id: fmt.Sprintf("clause%02d", i), Kind: impl.Obligation, Party: i % 4, Action: "xxxxxxxx", Other: (i + 1) % 4, Amount: impl.MaxPrice, When: when,
			Within: impl.MaxWithin, Repair: fmt.Sprintf("clause%02d", (i+1)%impl.MaxClauses),
		})
	}
	text := modelContract(c)
	if len(text) > impl.MaxString {
		t.Errorf("%d bytes", len(text))
	}
	checkContract(t, c, text)
}

func TestIndicesOfLines(t *testing.T) {
	for _, c := range []impl.Contract{sale(), contractOf(duty("a", "")), contractOf(manyDuties(impl.MaxClauses)...)} {
		count := len(c.Clauses)
		for _, i := range []int{-1, count, count + 1, -count, math.MinInt, math.MaxInt, 1 << 32} {
			if line, ok := impl.FormatClause(c, i); ok || line != "" {
				t.Errorf("FormatClause(%d of %d) = %q, %v", i, count, line, ok)
			}
		}
		if line, ok := impl.FormatClause(c, count-1); !ok || line != modelClause(c.Clauses[count-1], c.Parties) {
			t.Errorf("FormatClause(the last of %d) = %q, %v", count, line, ok)
		}
	}
}

func TestInvalidContractsHaveNoText(t *testing.T) {
	for name, c := range invalidContracts() {
		if text, ok := impl.FormatContract(c); ok || text != "" {
			t.Errorf("FormatContract(%s) = %q, %v", name, text, ok)
		}
		for i := -1; i <= len(c.Clauses); i++ {
			if line, ok := impl.FormatClause(c, i); ok || line != "" {
				t.Errorf("FormatClause(%s, %d) = %q, %v", name, i, line, ok)
			}
		}
		for _, order := range [][]int{{}, {0, 1}, {0, 1, 2}, {2, 1, 0}, {0, 1, 2, 3, 4}} {
			if got, ok := impl.ReorderParties(c, order); ok || !isZeroContract(got) {
				t.Errorf("ReorderParties(%s, %v) = %+v, %v", name, order, got, ok)
			}
		}
	}
}

// isWritable reports whether the model has a text for a contract, though it be invalid.
func isWritable(c impl.Contract) bool {
	return !slices.ContainsFunc(c.Clauses, func(x impl.Clause) bool { return kindNames[x.Kind] == "" || !impl.IsValidCondition(x.When) })
}

func TestTextsOfInvalidContracts(t *testing.T) {
	count := 0
	for _, c := range invalidContracts() {
		if isWritable(c) {
			count++
			checkNoContract(t, modelContract(c))
		}
	}
	if count < 20 {
		t.Errorf("only %d texts", count)
	}
	for name, edit := range map[string]func(c *impl.Contract){
		"Amount -1":             func(c *impl.Contract) { c.Clauses[0].Amount = -1 },
		"Amount -100":           func(c *impl.Contract) { c.Clauses[0].Amount = -100 },
		"Amount + 100":          func(c *impl.Contract) { c.Clauses[1].Amount += 100 },
		"greatest Amount":       func(c *impl.Contract) { c.Clauses[0].Amount = impl.MaxMoney },
		"Amount of prohibition": func(c *impl.Contract) { c.Clauses[2].Amount = 100 },
		"Amount of permission":  func(c *impl.Contract) { c.Clauses[3].Amount = 100 },
		"Within -1":             func(c *impl.Contract) { c.Clauses[0].Within = -1 },
		"Within of prohibition": func(c *impl.Contract) { c.Clauses[2].Within = 1 },
		"Within of permission":  func(c *impl.Contract) { c.Clauses[3].Within = 1 },
		"Repair is prohibition": func(c *impl.Contract) { c.Clauses[0].Repair = "resell" },
		"Repair is permission":  func(c *impl.Contract) { c.Clauses[0].Repair = "free" },
		"own Repair of a power": func(c *impl.Contract) { c.Clauses[8].Repair = "seize" },
		"Repair is no name":     func(c *impl.Contract) { c.Clauses[0].Repair = "Late" },
		"Repair is a long name": func(c *impl.Contract) { c.Clauses[0].Repair = "abcdefghi" },
		"Id of 9 bytes":         func(c *impl.Contract) { c.Clauses[3].Id = "abcdefghi" },
		"Id is a word":          func(c *impl.Contract) { c.Clauses[3].Id = "true" },
		"empty Id":              func(c *impl.Contract) { c.Clauses[3].Id = "" },
		"Action not":            func(c *impl.Contract) { c.Clauses[3].Action = "not" },
		"Action not of a duty":  func(c *impl.Contract) { c.Clauses[0].Action = "not" },
		"empty Action":          func(c *impl.Contract) { c.Clauses[3].Action = "" },
		"Action of 9 bytes":     func(c *impl.Contract) { c.Clauses[0].Action = "abcdefghi" },
		"empty party":           func(c *impl.Contract) { c.Parties[2] = "" },
		"party of 9 bytes":      func(c *impl.Contract) { c.Parties[2] = "abcdefghi" },
	} {
		c := changed(sale(), edit)
		if len(brokenRules(c)) == 0 {
			t.Errorf("%s is valid", name)
		}
		checkNoContract(t, modelContract(c))
	}
}

func TestTextsOfRandomContracts(t *testing.T) {
	valid, invalid := 0, 0
	for _, c := range randomContracts(10000) {
		text := modelContract(c)
		got, ok := impl.ParseContract(text)
		if ok != (len(brokenRules(c)) == 0) || ok && !reflect.DeepEqual(got, c) || !ok && !isZeroContract(got) {
			t.Fatalf("ParseContract(%q) = %+v, %v", text, got, ok)
		}
		if ok {
			valid++
		} else {
			invalid++
		}
	}
	if valid < 1000 || invalid < 1000 {
		t.Errorf("%d valid and %d invalid contracts", valid, invalid)
	}
}

// orders calls see with every list of different indices below count.
func orders(count int, see func(list []int)) {
	var extend func(list []int)
	extend = func(list []int) {
		see(list)
		for i := range count {
			if !slices.Contains(list, i) {
				extend(append(slices.Clone(list), i))
			}
		}
	}
	extend([]int{})
}

// joined are the parts with these indices.
func joined(parts []string, indices []int) string {
	text := ""
	for _, i := range indices {
		text += parts[i]
	}
	return text
}

func TestPartsOfALineInEveryOrder(t *testing.T) {
	for name, want := range map[string][][]int{
		"x: buyer| must act| for seller| paying 1.00| within 5 days| when sent| else y": {{0, 1, 2, 4, 5}, {0, 1, 2, 3, 4, 5}, {0, 1, 2, 4, 5, 6}, {0, 1, 2, 3, 4, 5, 6}},
		"x: buyer| must not act| against seller| when sent| else y| paying 1.00":        {{0, 1, 2, 3}, {0, 1, 2, 3, 4}},
		"x: buyer| may act| for seller| when sent| else y| then y| within 0 days":       {{0, 1, 2, 3}},
		"x: buyer| can act| toward seller| when sent| then y| within 5 days":            {{0, 1, 2, 3}, {0, 1, 2, 3, 4}},
	} {
		parts := strings.Split(name, "|")
		check := func(list []int, want bool) {
			text := "parties buyer seller\n" + joined(parts, list) + "\ny: buyer must act for seller within 0 days when true\n"
			if c, ok := impl.ParseContract(text); ok != want || ok && modelContract(c) != text || !ok && !isZeroContract(c) {
				t.Errorf("ParseContract(%q) = %+v, %v", text, c, ok)
			}
		}
		orders(len(parts), func(list []int) {
			check(list, slices.ContainsFunc(want, func(right []int) bool { return slices.Equal(right, list) }))
		})
		for _, right := range want {
			for at := range len(right) + 1 {
				for _, twice := range right {
					check(slices.Insert(slices.Clone(right), at, twice), false)
				}
			}
		}
	}
}

func TestWordsOfDifferentKinds(t *testing.T) {
	right := map[string]bool{
		" must for within": true, " must for paying within": true, " must for within else": true, " must for paying within else": true, " must not against": true,
		" must not against else": true, " may for": true, " can toward": true, " can toward then": true,
	}
	parts := map[string]string{"paying": " paying 2.50", "within": " within 7 days", "else": " else y", "then": " then y", "": ""}
	space := func(word string) string { return strings.TrimRight(" "+word, " ") }
	found := 0
	for _, verb := range []string{"must", "must not", "may", "can", "may not", "can not", "will", "not"} {
		for _, to := range []string{"for", "against", "toward", "to"} {
			for _, paying := range []string{"", "paying"} {
				for _, within := range []string{"", "within"} {
					for _, repair := range []string{"", "else", "then"} {
						key := space(verb) + space(to) + space(paying) + space(within) + space(repair)
						text := "parties a b\ny: b must act for a within 0 days when true\nx: a " + verb + " act " + to + " b" + parts[paying] + parts[within] + " when true" + parts[repair] + "\n"
						c, ok := impl.ParseContract(text)
						if ok != right[key] || ok && modelContract(c) != text || !ok && !isZeroContract(c) {
							t.Errorf("ParseContract(%q) = %+v, %v", text, c, ok)
						}
						if ok {
							found++
						}
					}
				}
			}
		}
	}
	if found != len(right) {
		t.Errorf("%d lines", found)
	}
}

func TestNumbersOfLines(t *testing.T) {
	if _, ok := impl.ParseContract(twoDuties(" paying 1.00 within 5 days when sent else c2")); !ok {
		t.Error("not a contract")
	}
	for _, amount := range []string{
		"0.00", "-0.00", "-1.00", "+1.00", "01.00", "00.01", "001.00", "1", "100", "1.", "1.0", "1.000", ".50", "1,00", "1.00.00", "10000.01", "10001.00", "100000.00", "10000000.00",
		"10000000.01", "92233720368547758.08", "99999999999999999999.00", "a", "1.0a", "", " ", " 1.00", "1.00 ", "1 .00", "1_0.00", "1e2", "\u0661.00", "1.00\t", "\x00",
	} {
		checkNoContract(t, twoDuties(" paying "+amount+" within 5 days when sent"))
		checkNoContract(t, twoDuties(" paying "+amount+" within 5 days when sent else c2"))
	}
	for _, days := range []string{
		"-1", "-0", "+5", "+0", "05", "00", "007", "401", "0401", "999999", "1000000", "9223372036854775808", "-9223372036854775809", "18446744073709551617", "5.0", "5.", "a", "5a", "",
		" ", " 5", "5 ", "1e2", "0x5", "1_0", "\u0665", "5\t", "\x00", "five",
	} {
		checkNoContract(t, twoDuties(" within "+days+" days when sent"))
		checkNoContract(t, twoDuties(" paying 1.00 within "+days+" days when sent else c2"))
	}
}

func TestTextsOfNoContract(t *testing.T) {
	text := twoDuties(" paying 1.00 within 5 days when sent else c2")
	for _, x := range [][2]string{
		{"parties", "Parties"}, {"parties", "party"}, {"parties ", ""}, {"parties ", "parties: "}, {"parties buyer seller", "parties"}, {"parties buyer seller", "parties "},
		{"parties buyer seller\n", ""}, {"parties buyer seller\n", "\n"}, {"parties buyer seller\n", "parties buyer seller\nparties buyer seller\n"}, {"buyer seller", "buyer"},
		{"buyer seller", "buyer buyer"}, {"buyer seller", "seller seller"}, {"buyer seller", "buyer, seller"}, {"buyer seller", "buyer seller bank court broker"},
		{"buyer seller", "buyer Seller"}, {"buyer seller", "buyer seller it"}, {"buyer seller", "buyer seller 1st"}, {"buyer seller", "buyer bank"}, {"buyer seller", "seller bank"},
		{"buyer seller", "buyer seller parties buyer"}, {"buyer seller", "buyer\nseller"}, {"buyer seller\n", "buyer seller"}, {"buyer seller\n", "buyer seller "},
		{"c1: buyer", "c1 buyer"}, {"c1: buyer", "c1:buyer"}, {"c1: buyer", "c1 : buyer"}, {"c1: buyer", ": buyer"}, {"c1: buyer", "buyer"}, {"c1: buyer", "c1; buyer"},
		{"c1: buyer", "c1: "}, {"c1: buyer", "c1: bank"}, {"c1: buyer", "c1: seller"}, {"c1: buyer", "c1: buyers"}, {"c1: buyer", "c1: buye"}, {"c1: buyer", "c1: Buyer"},
		{"c1: buyer", "c1: 0"}, {"c1: buyer", "c1: buyer seller"}, {"c1:", "C1:"}, {"c1:", "1:"}, {"c1:", "it:"}, {"c1:", "c2:"}, {"c1:", "abcdefghi:"}, {"c1:", "c1::"}, {"c1:", "c1: c1:"},
		{"must paid", "must not paid"}, {"must paid", "must"}, {"must paid", "paid"}, {"must paid", "must must paid"}, {"must paid", "must paid paid"}, {"must paid", "Must paid"},
		{"must paid", "must Paid"}, {"must paid", "must 1paid"}, {"must paid", "must not"}, {"must paid", "must in"}, {"must paid", "may paid"}, {"must paid", "can paid"}, {"must paid", "shall paid"},
		{"paid for seller", "paid seller"}, {"paid for seller", "paid for"}, {"paid for seller", "paid for buyer"}, {"paid for seller", "paid for me"}, {"paid for seller", "paid against seller"},
		{"paid for seller", "paid toward seller"}, {"paid for seller", "paid to seller"}, {"paid for seller", "paid for for seller"}, {"paid for seller", "paid for seller for seller"},
		{"paid for seller", "for seller paid"}, {"paid for seller", "paid for seller buyer"},
		{" paying 1.00", " paying"}, {" paying 1.00", " paying 1.00 paying 1.00"}, {" paying 1.00", " 1.00"}, {" paying 1.00", " pays 1.00"}, {" paying 1.00", " paying 1.00,"},
		{" within 5 days", ""}, {" within 5 days", " within 5"}, {" within 5 days", " within days"}, {" within 5 days", " 5 days"}, {" within 5 days", " within 5 days within 5 days"},
		{" within 5 days", " within 5 day"}, {" within 5 days", " within 5days"}, {" within 5 days", " within 5 weeks"}, {" within 5 days", " in 5 days"}, {" within 5 days", " within  days"},
		{" when sent", ""}, {" when sent", " when"}, {" when sent", " when "}, {" when sent", " sent"}, {" when sent", " if sent"}, {" when sent", " when sent when sent"},
		{" when sent", " when (sent)"}, {" when sent", " when sent and paid"}, {" when sent", " when not"}, {" when sent", " when (sent and paid"}, {" when sent", " when sent)"},
		{" when sent", " when (sent and paid))"}, {" when sent", " when Sent"}, {" when sent", " when it"}, {" when sent", " when abcdefghi"}, {" when sent", " when from 2024-02-30"},
		{" when sent", " when from 2024-1-01"}, {" when sent", " when " + strings.Repeat("not ", 15) + "sent"}, {" when sent", " when " + strings.Repeat("(a and ", 8) + "a" + strings.Repeat(")", 8)},
		{" when sent", " when from"}, {" when sent", " when from else c2"}, {" when sent", " when (sent,paid)"},
		{" else c2", " else"}, {" else c2", " else "}, {" else c2", " else c1"}, {" else c2", " else c3"}, {" else c2", " else c2 else c2"}, {" else c2", " then c2"}, {" else c2", " c2"},
		{" else c2", " or c2"}, {" else c2", " else c2 c2"}, {" else c2", " else C2"}, {" else c2", " else c2."}, {" else c2", " else c2 then c2"}, {" else c2", " else then c2"},
		{"\nc2", "\n\nc2"}, {"\nc2", " c2"}, {"\nc2", "\r\nc2"}, {"\nc2", " \nc2"}, {"\nc2", "\n c2"}, {"\nc2", "\tc2"}, {"\nc2", "\n\tc2"}, {"\nc2", "\n# note\nc2"}, {"\nc2", "\nparties buyer seller\nc2"},
	} {
		if strings.Count(text, x[0]) == 0 {
			t.Fatalf("%q is not there", x[0])
		}
		checkNoContract(t, strings.Replace(text, x[0], x[1], 1))
	}
	for _, other := range []string{"", "\n", "\n\n", " ", "parties", "parties ", "parties\n", "parties \n", "parties buyer seller", "parties buyer seller\n", "parties buyer seller\n\n", "x", "\x00"} {
		checkNoContract(t, other)
	}
	lines := strings.SplitAfter(text, "\n")
	for _, other := range []string{
		text[:len(text)-1], text + "\n", text + " ", text + "x", text + "\x00", "\n" + text, " " + text, text + text, text[1:], "\ufeff" + text, text[:len(text)-1] + " \n", text[:len(text)-1] + "\r\n",
		strings.ReplaceAll(text, "\n", "\r\n"), strings.ReplaceAll(text, "\n", "\r"), strings.ReplaceAll(text, "\n", " "), strings.ReplaceAll(text, " ", "\t"), strings.ReplaceAll(text, " ", "\u00a0"),
		strings.ToUpper(text), lines[1] + lines[2], lines[1] + lines[0] + lines[2], lines[1] + lines[2] + lines[0], lines[0] + lines[1], lines[0] + lines[1] + lines[1] + lines[2],
	} {
		checkNoContract(t, other)
	}
	for _, other := range []string{text, lines[0] + lines[2] + lines[1], lines[0] + lines[2]} {
		if c, ok := impl.ParseContract(other); !ok || modelContract(c) != other {
			t.Errorf("ParseContract(%q) = %+v, %v", other, c, ok)
		}
	}
}

func TestSpacesOfTexts(t *testing.T) {
	texts := []string{modelContract(sale()), twoDuties(" paying 1.00 within 5 days when (not sent or from 2001-01-01) else c2")}
	for _, text := range texts {
		for i := range text {
			if text[i] == ' ' {
				checkNoContract(t, text[:i]+" "+text[i:])
				checkNoContract(t, text[:i]+"\t"+text[i+1:])
				checkNoContract(t, text[:i]+"\n"+text[i+1:])
			}
			// Without its space, not and the fact after it are another fact.
			if text[i] == ' ' && !strings.HasSuffix(text[:i], "not") {
				checkNoContract(t, text[:i]+text[i+1:])
			}
			if text[i] == '\n' {
				checkNoContract(t, text[:i]+" "+text[i:])
				checkNoContract(t, text[:i]+"\n"+text[i:])
				checkNoContract(t, text[:i+1]+" "+text[i+1:])
				checkNoContract(t, text[:i]+" "+text[i+1:])
				checkNoContract(t, text[:i]+text[i+1:])
				checkNoContract(t, text[:i])
			}
		}
	}
}

func TestLengthsOfTextsOfContracts(t *testing.T) {
	text := modelContract(sale())
	for _, length := range []int{impl.MaxString - 1, impl.MaxString, impl.MaxString + 1, 1000000} {
		missing := length - len(text)
		checkNoContract(t, text+strings.Repeat("\n", missing))
		checkNoContract(t, text[:len(text)-1]+strings.Repeat("x", missing)+"\n")
		checkNoContract(t, strings.Repeat(" ", missing)+text)
		checkNoContract(t, "parties"+strings.Repeat(" buyer", length)[:length-7])
		checkNoContract(t, strings.Repeat("c: a must b for c when (", length)[:length])
		checkNoContract(t, strings.Repeat("\n", length))
		checkNoContract(t, "parties a b\nc: a must d for b within 0 days when "+strings.Repeat("(", length-45))
		checkNoContract(t, "parties a b\nc: a must d for b within 0 days when "+strings.Repeat("not ", length/4)+"e\n")
	}
}

// checkEdits compares ParseContract with the model for every text that differs in one byte.
func checkEdits(t *testing.T, text string) int {
	t.Helper()
	found := 0
	for _, other := range edited(text) {
		want, valid := modelParseContract(other)
		got, ok := impl.ParseContract(other)
		if ok != valid || ok && !reflect.DeepEqual(got, want) || !ok && !isZeroContract(got) {
			t.Fatalf("ParseContract(%q) = %+v, %v", other, got, ok)
		}
		if ok {
			found++
		}
	}
	return found
}

func TestEditedTextsAreTextsOfOtherContractsOrOfNone(t *testing.T) {
	found := 0
	for _, text := range []string{
		modelContract(sale()), twoDuties(" paying 1.00 within 5 days when sent else c2"), twoDuties(" within 40 days when not from 2024-02-28"), twoDuties(" paying 9999.90 within 0 days when (c1 and c2)"),
		"parties a b\nx: a may b for b when else\n", "parties a b\nx: a can not0 toward b when then then y\ny: b must a for a within 1 days when true\n", "parties a b\nx: a must not a against b when (a or b)\n",
	} {
		found += checkEdits(t, text)
	}
	for i, c := range validContracts() {
		if i%100 == 3 && len(c.Clauses) < 5 {
			found += checkEdits(t, modelContract(c))
		}
	}
	if found < 3000 {
		t.Errorf("only %d texts of contracts", found)
	}
}

func TestTextsOfOtherWordsAreComparedWithTheModel(t *testing.T) {
	text := "parties a b\nx: a must c for b paying 1.00 within 5 days when d else y\ny: b must e for a within 0 days when not d\nz: b can e toward a when (c or true) then x\nv: a must not e against b when true else y\n"
	words := []string{"parties", "a", "b", "x:", "y:", "x", "must", "not", "may", "can", "for", "against", "toward", "paying", "1.00", "0.00", "within", "5", "05", "days", "when", "true", "(c", "d)", "and", "else", "then", ""}
	random := rand.New(rand.NewSource(7))
	valid := 0
	for range 60000 {
		parts := strings.Split(strings.ReplaceAll(text, "\n", " \n "), " ")
		for range 1 + random.Intn(3) {
			at := random.Intn(len(parts))
			switch random.Intn(3) {
			case 0:
				parts[at] = words[random.Intn(len(words))]
			case 1:
				parts = slices.Insert(parts, at, words[random.Intn(len(words))])
			case 2:
				parts = slices.Delete(parts, at, at+1)
			}
		}
		other := strings.ReplaceAll(strings.Join(parts, " "), " \n ", "\n")
		want, is := modelParseContract(other)
		got, ok := impl.ParseContract(other)
		if ok != is || ok && !reflect.DeepEqual(got, want) || !ok && !isZeroContract(got) {
			t.Fatalf("ParseContract(%q) = %+v, %v", other, got, ok)
		}
		if ok {
			valid++
		}
	}
	if valid < 500 {
		t.Errorf("only %d texts of contracts", valid)
	}
}

// twoNames are parties of events.
func twoNames() []string { return []string{"buyer", "seller"} }

// modelEvent is the text of an event, also of an invalid one on a day.
func modelEvent(e impl.Event, parties []string) string {
	party := "nobody"
	if e.Party >= 0 && e.Party < len(parties) {
		party = parties[e.Party]
	}
	text := fmt.Sprintf("%s %s does %s", modelTime(e.Day).Format("2006-01-02"), party, e.Action)
	if e.Amount != 0 {
		text += " paying " + modelAmountText(e.Amount)
	}
	return text
}

// modelEvents are the texts of the events of a list.
func modelEvents(list []impl.Event, parties []string) string {
	text := ""
	for _, e := range list {
		text += modelEvent(e, parties) + "\n"
	}
	return text
}

// checkEvent checks the text of an event, alone and in a list, and that it is recovered.
func checkEvent(t *testing.T, e impl.Event, parties []string, text string) {
	t.Helper()
	if got, ok := impl.FormatEvent(e, parties); !ok || got != text {
		t.Errorf("FormatEvent(%+v, %v) = %q, %v, not %q", e, parties, got, ok, text)
	}
	if got, ok := impl.ParseEvent(text, parties); !ok || got != e {
		t.Errorf("ParseEvent(%q, %v) = %+v, %v", text, parties, got, ok)
	}
	checkEvents(t, []impl.Event{e}, parties, text+"\n")
}

// checkEvents checks the text of an event list, and that it is recovered.
func checkEvents(t *testing.T, list []impl.Event, parties []string, text string) {
	t.Helper()
	if got, ok := impl.FormatEvents(list, parties); !ok || got != text {
		t.Errorf("FormatEvents(%+v, %v) = %q, %v, not %q", list, parties, got, ok, text)
	}
	if got, ok := impl.ParseEvents(text, parties); !ok || !slices.Equal(got, list) {
		t.Errorf("ParseEvents(%q, %v) = %+v, %v", text, parties, got, ok)
	}
}

// checkNoEvents checks that a list has no text and that what would be its text has no list.
func checkNoEvents(t *testing.T, name string, list []impl.Event, parties []string) {
	t.Helper()
	if got, ok := impl.FormatEvents(list, parties); ok || got != "" {
		t.Errorf("FormatEvents(%s) = %q, %v", name, got, ok)
	}
	checkNoEventsText(t, modelEvents(list, parties), parties)
}

// checkNoEventsText checks that a text is the text of no event list.
func checkNoEventsText(t *testing.T, text string, parties []string) {
	t.Helper()
	if got, ok := impl.ParseEvents(text, parties); ok || len(got) > 0 {
		t.Errorf("ParseEvents(%.200q, %.60v) = %+v, %v", text, parties, got, ok)
	}
}

// checkNoEvent checks that a text is the text of no event, alone and as a line of a list.
func checkNoEvent(t *testing.T, text string, parties []string) {
	t.Helper()
	if got, ok := impl.ParseEvent(text, parties); ok || got != (impl.Event{}) {
		t.Errorf("ParseEvent(%.200q, %.60v) = %+v, %v", text, parties, got, ok)
	}
	if text != "" {
		checkNoEventsText(t, text+"\n", parties)
	}
	checkNoEventsText(t, "2000-01-01 buyer does a\n"+text+"\n", parties)
	checkNoEventsText(t, text+"\n2099-12-31 seller does z9999999 paying 10000.00\n", parties)
}

func TestTextsOfEvents(t *testing.T) {
	for text, e := range map[string]impl.Event{
		"2000-01-03 buyer does pay paying 1.00":           {Day: 2, Party: 0, Action: "pay", Amount: 100},
		"2000-01-01 buyer does a":                         {Day: 0, Party: 0, Action: "a"},
		"2099-12-31 seller does z9999999 paying 10000.00": {Day: impl.MaxDay, Party: 1, Action: "z9999999", Amount: impl.MaxPrice},
		"2000-01-01 seller does does":                     {Day: 0, Party: 1, Action: "does"},
		"2000-02-29 buyer does paying paying 0.01":        {Day: 59, Party: 0, Action: "paying", Amount: 1},
		"2000-03-01 buyer does buyer paying 0.99":         {Day: 60, Party: 0, Action: "buyer", Amount: 99},
		"2024-01-01 seller does sent":                     {Day: 8766, Party: 1, Action: "sent"},
	} {
		checkEvent(t, e, twoNames(), text)
	}
	for count := 2; count <= impl.MaxParties; count++ {
		parties := manyParties(count)
		for party := range count {
			for _, amount := range []int{0, 1, 99, 100, impl.MaxPrice - 1, impl.MaxPrice} {
				e := impl.Event{Day: 100 * party, Party: party, Action: "act", Amount: amount}
				checkEvent(t, e, parties, modelEvent(e, parties))
			}
		}
	}
	for _, party := range wordsOfTexts {
		for _, action := range wordsOfTexts {
			for _, amount := range []int{0, 100} {
				e := impl.Event{Day: 7, Party: 1, Action: action, Amount: amount}
				parties := []string{"other", party}
				checkEvent(t, e, parties, modelEvent(e, parties))
			}
		}
	}
}

func TestEventsOfEveryDay(t *testing.T) {
	for day := range impl.MaxDay + 1 {
		e := impl.Event{Day: day, Party: day % 2, Action: "act", Amount: day * 27}
		text := modelEvent(e, twoNames())
		if got, ok := impl.FormatEvent(e, twoNames()); !ok || got != text {
			t.Fatalf("FormatEvent(%+v) = %q, %v", e, got, ok)
		}
		if got, ok := impl.ParseEvent(text, twoNames()); !ok || got != e {
			t.Fatalf("ParseEvent(%q) = %+v, %v", text, got, ok)
		}
	}
}

func TestInvalidEventsHaveNoText(t *testing.T) {
	right := impl.Event{Day: 5, Party: 1, Action: "act", Amount: 100}
	list := map[string]impl.Event{"zero": {}}
	add := func(name string, edit func(e *impl.Event)) {
		e := right
		edit(&e)
		list[name] = e
	}
	for _, day := range notDays {
		add("day "+strconv.Itoa(day), func(e *impl.Event) { e.Day = day })
	}
	for _, party := range []int{-1, 2, 3, -2, math.MinInt, math.MaxInt, 1 << 32} {
		add("party "+strconv.Itoa(party), func(e *impl.Event) { e.Party = party })
	}
	for _, action := range append(slices.Clone(notANameAtAll), noNames...) {
		add("action "+action, func(e *impl.Event) { e.Action = action })
	}
	for _, amount := range []int{-1, -100, impl.MaxPrice + 1, impl.MaxMoney, math.MinInt, math.MaxInt} {
		add("amount "+strconv.Itoa(amount), func(e *impl.Event) { e.Amount = amount })
	}
	for name, e := range list {
		if got, ok := impl.FormatEvent(e, twoNames()); ok || got != "" {
			t.Errorf("FormatEvent(%.40s) = %q, %v", name, got, ok)
		}
		for _, events := range [][]impl.Event{{e}, {{Action: "a"}, e}, {e, {Day: impl.MaxDay, Party: 1, Action: "z"}}} {
			if got, ok := impl.FormatEvents(events, twoNames()); ok || got != "" {
				t.Errorf("FormatEvents(%.40s) = %q, %v", name, got, ok)
			}
		}
		// Days that are far away have no date of the same form, and great amounts no text.
		if max(e.Day, -e.Day) < 1000000 && e.Day != math.MinInt && max(e.Amount, -e.Amount) <= impl.MaxMoney && e.Amount != math.MinInt {
			checkNoEvent(t, modelEvent(e, twoNames()), twoNames())
		}
	}
}

func TestTextsOfNoEvent(t *testing.T) {
	text := "2000-01-03 buyer does pay paying 1.00"
	for _, x := range [][2]string{
		{"2000-01-03", "2000-01-3"}, {"2000-01-03", "2000-1-03"}, {"2000-01-03", "00-01-03"}, {"2000-01-03", "2000/01/03"}, {"2000-01-03", "03-01-2000"}, {"2000-01-03", "1999-12-31"},
		{"2000-01-03", "2100-01-01"}, {"2000-01-03", "2001-02-29"}, {"2000-01-03", "2000-00-03"}, {"2000-01-03", "2000-13-03"}, {"2000-01-03", "2000-01-00"}, {"2000-01-03", "2000-01-32"},
		{"2000-01-03", "2"}, {"2000-01-03 ", ""}, {"2000-01-03 ", " "}, {"2000-01-03", "2000-01-033"}, {"2000-01-03 ", "2000-01-03"}, {"2000-01-03", "from 2000-01-03"}, {"2000-01-03", "2000-01-03:"},
		{"2000-01-03", "2000-01-03 2000-01-03"}, {"buyer", "bank"}, {"buyer", "Buyer"}, {"buyer", "0"}, {"buyer", ""}, {" buyer", ""}, {"buyer", "buyer buyer"}, {"buyer", "buyer seller"},
		{"buyer", "buyers"}, {"buyer", "buye"}, {"buyer", "pay"}, {"does", "do"}, {"does", "must"}, {"does", "Does"}, {" does", ""}, {"does", "does does"}, {"does ", "does"}, {" does", "does"},
		{"pay ", "Pay "}, {"pay ", ""}, {"pay ", " "}, {"pay ", "1 "}, {"pay ", "abcdefghi "}, {"pay ", "true "}, {"pay ", "not "}, {"pay ", "pay pay "}, {"pay ", "pay, "}, {"pay ", "not pay "},
		{" paying", ""}, {"paying", "pays"}, {"paying", "paying paying"}, {"paying ", "paying"}, {" paying", "paying"}, {"1.00", ""}, {" 1.00", ""}, {"1.00", "0.00"}, {"1.00", "-0.00"}, {"1.00", "-1.00"},
		{"1.00", "+1.00"}, {"1.00", "01.00"}, {"1.00", "1"}, {"1.00", "1.0"}, {"1.00", "1.000"}, {"1.00", "1,00"}, {"1.00", "10000.01"}, {"1.00", "10000000.00"}, {"1.00", "92233720368547758.08"},
		{"1.00", "a"}, {"1.00", "1.00 paying 1.00"}, {"1.00", "1.00 "}, {"1.00", "1.00\n"}, {"1.00", "1.00\x00"}, {"1.00", "1.00 when true"}, {"1.00", "1.00 for seller"}, {" paying 1.00", " "},
		{" paying 1.00", " for seller"}, {" paying 1.00", " within 0 days"}, {" paying 1.00", "\n"}, {" paying 1.00", ","}, {"2000", " 2000"}, {"2000", "\n2000"}, {"2000", "\ufeff2000"}, {" ", "\t"}, {" ", "\u00a0"},
	} {
		for range strings.Count(text, x[0]) {
			checkNoEvent(t, strings.Replace(text, x[0], x[1], 1), twoNames())
		}
	}
	for _, other := range []string{"", " ", "2000-01-03", "2000-01-03 ", "2000-01-03 buyer", "2000-01-03 buyer does", "2000-01-03 buyer does ", "does", "pay", "x", text + text, strings.ToUpper(text)} {
		checkNoEvent(t, other, twoNames())
	}
	for i := range text {
		if text[i] == ' ' {
			checkNoEvent(t, text[:i]+" "+text[i:], twoNames())
			checkNoEvent(t, text[:i]+text[i+1:], twoNames())
		}
	}
	for _, other := range []string{"", "2000-01-03 buyer does ", "2000-01-03 ", "2000-01-03 buyer does pay paying ", "2000-01-03 buyer does pay paying 1."} {
		for _, more := range []string{"a", "9", "0", " ", "\n", "\x00"} {
			checkNoEvent(t, other+strings.Repeat(more, 1000000), twoNames())
		}
	}
}

// eventForm matches the text of an event.
var eventForm = regexp.MustCompile(`^([0-9]{4}-[0-9]{2}-[0-9]{2}) ([a-z0-9]+) does ([a-z0-9]+)(?: paying ([0-9]{1,9})\.([0-9]{2}))?$`)

// modelParseEvent finds the event with a text, if there is one, by a regular expression.
func modelParseEvent(s string, parties []string) (impl.Event, bool) {
	parts := eventForm.FindStringSubmatch(s)
	if parts == nil {
		return impl.Event{}, false
	}
	day, isDay := impl.ParseDate(parts[1])
	amount, _ := strconv.Atoi(parts[4] + parts[5])
	e := impl.Event{Day: day, Party: slices.Index(parties, parts[2]), Action: parts[3], Amount: amount}
	if !isDay || e.Party < 0 || !impl.IsValidName(e.Action) || amount > impl.MaxPrice || modelEvent(e, parties) != s {
		return impl.Event{}, false
	}
	return e, true
}

func TestEditedTextsAreTextsOfOtherEventsOrOfNone(t *testing.T) {
	found := 0
	for _, text := range []string{"2000-01-03 a does pay paying 1.00", "2099-12-31 b1 does z9999999 paying 10000.00", "2024-02-29 a does e", "2001-10-10 a does does paying 0.10"} {
		for _, other := range edited(text) {
			parties := []string{"a", "b1", "b", "aa"}
			want, valid := modelParseEvent(other, parties)
			if got, ok := impl.ParseEvent(other, parties); ok != valid || got != want {
				t.Fatalf("ParseEvent(%q) = %+v, %v", other, got, ok)
			}
			list, ok := impl.ParseEvents(other+"\n", parties)
			if ok != valid || ok && !slices.Equal(list, []impl.Event{want}) || !ok && len(list) > 0 {
				t.Fatalf("ParseEvents(%q) = %+v, %v", other, list, ok)
			}
			if valid {
				found++
			}
		}
	}
	if found < 100 {
		t.Errorf("only %d texts of events", found)
	}
}

// invalidParties are no lists of parties.
func invalidParties() map[string][]string {
	many := make([]string, 100000)
	for i := range many {
		many[i] = "p" + strconv.Itoa(i)
	}
	list := map[string][]string{
		"none": nil, "empty": {}, "one": {"buyer"}, "five": manyParties(5), "100000": many, "twice": {"buyer", "buyer"}, "twice at the end": {"buyer", "seller", "seller"},
		"twice apart": {"buyer", "seller", "bank", "buyer"}, "four and an empty one": append(manyParties(4), ""),
	}
	for _, name := range append(slices.Clone(notANameAtAll), noNames...) {
		list["second "+name] = []string{"buyer", name}
		list["first "+name] = []string{name, "buyer"}
		list["last "+name] = []string{"buyer", "seller", "bank", name}
	}
	return list
}

func TestInvalidPartiesHaveNoEvents(t *testing.T) {
	e := impl.Event{Day: 2, Party: 0, Action: "pay", Amount: 100}
	for name, parties := range invalidParties() {
		if got, ok := impl.FormatEvent(e, parties); ok || got != "" {
			t.Errorf("FormatEvent(%.40s) = %q, %v", name, got, ok)
		}
		for _, list := range [][]impl.Event{{}, {e}, {e, e}} {
			if got, ok := impl.FormatEvents(list, parties); ok || got != "" {
				t.Errorf("FormatEvents(%.40s) = %q, %v", name, got, ok)
			}
		}
		for _, party := range append([]string{"buyer"}, parties[:min(5, len(parties))]...) {
			text := "2000-01-03 " + party + " does pay paying 1.00"
			if got, ok := impl.ParseEvent(text, parties); ok || got != (impl.Event{}) {
				t.Errorf("ParseEvent(%.40s) = %+v, %v", name, got, ok)
			}
			checkNoEventsText(t, text+"\n", parties)
		}
		checkNoEventsText(t, "", parties)
		checkNoEventsText(t, strings.Repeat("2000-01-03 x does pay\n", 180), parties)
	}
}

func TestPartiesOfEventsAreFoundByName(t *testing.T) {
	for count := 2; count <= impl.MaxParties; count++ {
		for i, name := range manyParties(5) {
			text := "2000-01-03 " + name + " does pay"
			e, ok := impl.ParseEvent(text, manyParties(count))
			if ok != (i < count) || ok && e != (impl.Event{Day: 2, Party: i, Action: "pay"}) || !ok && e != (impl.Event{}) {
				t.Errorf("ParseEvent(%q) with %d parties = %+v, %v", text, count, e, ok)
			}
			e = impl.Event{Day: 2, Party: i, Action: "pay"}
			if got, ok := impl.FormatEvent(e, manyParties(count)); ok != (i < count) || ok && got != text || !ok && got != "" {
				t.Errorf("FormatEvent(party %d of %d) = %q, %v", i, count, got, ok)
			}
		}
	}
}

// ascendingEvents are events of which each one is less than the next.
func ascendingEvents() []impl.Event {
	list := []impl.Event{}
	for _, day := range []int{0, 1, 58, 59, impl.MaxDay} {
		for party := range 3 {
			for _, action := range []string{"a", "a0", "aa", "b", "z"} {
				for _, amount := range []int{0, 1, 99, 100, impl.MaxPrice} {
					list = append(list, impl.Event{Day: day, Party: party, Action: action, Amount: amount})
				}
			}
		}
	}
	return list
}

func TestPairsOfEventsAreListsIfTheyAscend(t *testing.T) {
	parties := []string{"seller", "buyer", "bank"}
	list := ascendingEvents()
	for i, a := range list {
		for k, b := range list {
			pair := []impl.Event{a, b}
			text := modelEvent(a, parties) + "\n" + modelEvent(b, parties) + "\n"
			got, ok := impl.FormatEvents(pair, parties)
			if ok != (i <= k) || ok && got != text || !ok && got != "" {
				t.Fatalf("FormatEvents(%+v) = %q, %v", pair, got, ok)
			}
			back, ok := impl.ParseEvents(text, parties)
			if ok != (i <= k) || ok && !slices.Equal(back, pair) || !ok && len(back) > 0 {
				t.Fatalf("ParseEvents(%q) = %+v, %v", text, back, ok)
			}
		}
	}
}

func TestNumbersOfEvents(t *testing.T) {
	for _, parties := range [][]string{twoNames(), manyParties(4)} {
		for count := range impl.MaxEvents + 3 {
			same, ascending := []impl.Event{}, []impl.Event{}
			for i := range count {
				same = append(same, impl.Event{Day: 9, Party: 1, Action: "act", Amount: 5})
				ascending = append(ascending, impl.Event{Day: 9 * i, Party: i % 2, Action: "act", Amount: i % 3})
			}
			for _, list := range [][]impl.Event{same, ascending} {
				if count <= impl.MaxEvents {
					checkEvents(t, list, parties, modelEvents(list, parties))
				} else {
					checkNoEvents(t, strconv.Itoa(count), list, parties)
				}
			}
		}
	}
	checkEvents(t, []impl.Event{}, twoNames(), "")
	if got, ok := impl.FormatEvents(nil, twoNames()); !ok || got != "" {
		t.Errorf("FormatEvents(nil) = %q, %v", got, ok)
	}
	if got, ok := impl.FormatEvents(make([]impl.Event, 1000000), twoNames()); ok || got != "" {
		t.Errorf("FormatEvents of many = %.40q, %v", got, ok)
	}
}

func TestLongestEventListFitsIntoAString(t *testing.T) {
	parties := []string{"aaaaaaaa", "bbbbbbbb"}
	list := slices.Repeat([]impl.Event{{Day: impl.MaxDay, Party: 1, Action: "xxxxxxxx", Amount: impl.MaxPrice}}, impl.MaxEvents)
	text := modelEvents(list, parties)
	if len(text) > impl.MaxString {
		t.Errorf("%d bytes", len(text))
	}
	checkEvents(t, list, parties, text)
}

func TestListsOfManyEvents(t *testing.T) {
	random := rand.New(rand.NewSource(8))
	all := ascendingEvents()
	parties := []string{"seller", "buyer", "bank", "a"}
	for range 2000 {
		places := make([]int, 2+random.Intn(impl.MaxEvents-1))
		for i := range places {
			places[i] = random.Intn(len(all))
		}
		listAt := func(places []int) []impl.Event {
			list := []impl.Event{}
			for _, place := range places {
				list = append(list, all[place])
			}
			return list
		}
		if !slices.IsSorted(places) {
			checkNoEvents(t, fmt.Sprint(places), listAt(places), parties)
		}
		slices.Sort(places)
		list := listAt(places)
		checkEvents(t, list, parties, modelEvents(list, parties))
		last := len(places) - 1
		if places[last] > places[last-1] {
			places[last], places[last-1] = places[last-1], places[last]
			checkNoEvents(t, "the last two swapped", listAt(places), parties)
		}
	}
}

func TestTextsOfNoEventList(t *testing.T) {
	first, second := "2000-01-03 buyer does pay paying 1.00\n", "2000-01-04 seller does send\n"
	for _, text := range []string{first, second, first + second, first + first, second + second, first + first + second} {
		if list, ok := impl.ParseEvents(text, twoNames()); !ok || modelEvents(list, twoNames()) != text {
			t.Errorf("ParseEvents(%q) = %+v, %v", text, list, ok)
		}
	}
	for _, text := range []string{
		"\n", "\n\n", " ", " \n", "x", "\x00", second + first, first + second + first, first[:len(first)-1], (first + second)[:len(first+second)-1], first + "\n", "\n" + first, first + "\n" + second,
		first + " ", first + " " + second, first + second + "x", strings.ReplaceAll(first+second, "\n", "\r\n"), strings.ReplaceAll(first+second, "\n", " \n"), strings.ReplaceAll(first+second, "\n", " "),
		strings.ReplaceAll(first+second, "\n", ";"), "parties buyer seller\n" + first, first[:10] + "\n" + first[11:], first + "2000-01-04 bank does send\n",
	} {
		checkNoEventsText(t, text, twoNames())
	}
	for i := range len(first + second) {
		if i != len(first) && i > 0 {
			checkNoEventsText(t, (first + second)[:i], twoNames())
			checkNoEventsText(t, (first + second)[i:], twoNames())
		}
	}
}

func TestLengthsOfTextsOfEvents(t *testing.T) {
	line := "2000-01-03 buyer does pay paying 1.00\n"
	for _, length := range []int{impl.MaxString - 1, impl.MaxString, impl.MaxString + 1, 1000000} {
		checkNoEventsText(t, line+strings.Repeat("\n", length-len(line)), twoNames())
		checkNoEventsText(t, line+strings.Repeat("x", length-len(line)-1)+"\n", twoNames())
		checkNoEventsText(t, strings.Repeat(" ", length-len(line))+line, twoNames())
		checkNoEventsText(t, strings.Repeat(line, length/len(line)), twoNames())
		checkNoEventsText(t, strings.Repeat("\n", length), twoNames())
	}
}

// permutations are all orders of a number of parties.
func permutations(count int) [][]int {
	list := [][]int{}
	orders(count, func(order []int) {
		if len(order) == count {
			list = append(list, order)
		}
	})
	return list
}

// reversed is the order that undoes an order.
func reversed(order []int) []int {
	back := make([]int, len(order))
	for k, i := range order {
		back[i] = k
	}
	return back
}

// checkReordered checks a contract in another order of its parties.
func checkReordered(t *testing.T, c impl.Contract, order []int) {
	t.Helper()
	got, ok := impl.ReorderParties(c, order)
	if !ok || !impl.IsValidContract(got) {
		t.Fatalf("ReorderParties(%+v, %v) = %+v, %v", c, order, got, ok)
	}
	for k, i := range order {
		if got.Parties[k] != c.Parties[i] {
			t.Fatalf("ReorderParties(%+v, %v) = %+v", c, order, got)
		}
	}
	for i, x := range c.Clauses {
		y := got.Clauses[i]
		if order[y.Party] != x.Party || order[y.Other] != x.Other {
			t.Fatalf("ReorderParties(%+v, %v) = %+v", c, order, got)
		}
		x.Party, x.Other = y.Party, y.Other
		if !reflect.DeepEqual(x, y) {
			t.Fatalf("ReorderParties(%+v, %v) = %+v", c, order, got)
		}
		line, ok := impl.FormatClause(got, i)
		if before, fine := impl.FormatClause(c, i); !ok || !fine || line != before {
			t.Fatalf("FormatClause(ReorderParties(%+v, %v), %d) = %q", c, order, i, line)
		}
	}
	if len(got.Parties) != len(c.Parties) || len(got.Clauses) != len(c.Clauses) {
		t.Fatalf("ReorderParties(%+v, %v) = %+v", c, order, got)
	}
	if back, ok := impl.ReorderParties(got, reversed(order)); !ok || !impl.EqualContracts(back, c) {
		t.Fatalf("ReorderParties(%+v, %v) and back = %+v, %v", c, order, back, ok)
	}
}

func TestPartiesInEveryOrder(t *testing.T) {
	for _, c := range validContracts() {
		for _, order := range permutations(len(c.Parties)) {
			checkReordered(t, c, order)
		}
		if got, ok := impl.ReorderParties(c, []int{0, 1, 2, 3}[:len(c.Parties)]); !ok || !impl.EqualContracts(got, c) {
			t.Fatalf("ReorderParties(%+v) in the same order = %+v, %v", c, got, ok)
		}
	}
}

func TestNamedOrders(t *testing.T) {
	c := contractOf(duty("a", ""), clauseOf(impl.Power, "b"))
	got, ok := impl.ReorderParties(c, []int{1, 0})
	want := "parties seller buyer\na: buyer must act for seller within 0 days when true\nb: buyer can act toward seller when true\n"
	if text, _ := impl.FormatContract(got); !ok || text != want || got.Clauses[0].Party != 1 || got.Clauses[0].Other != 0 {
		t.Errorf("ReorderParties = %q, %v", text, ok)
	}
	// An order of three that is not its own reverse: the first party comes from the last place.
	got, ok = impl.ReorderParties(sale(), []int{2, 0, 1})
	if x := got.Clauses; !ok || !slices.Equal(got.Parties, []string{"bank", "buyer", "seller"}) || x[0].Party != 1 || x[0].Other != 2 || x[7].Party != 0 || x[7].Other != 2 {
		t.Errorf("ReorderParties = %+v, %v", got, ok)
	}
}

func TestListsThatAreNoOrder(t *testing.T) {
	for count := 2; count <= impl.MaxParties; count++ {
		c := impl.Contract{Parties: manyParties(count), Clauses: []impl.Clause{duty("a", "")}}
		right := 0
		var extend func(list []int)
		extend = func(list []int) {
			is := slices.ContainsFunc(permutations(count), func(order []int) bool { return slices.Equal(order, list) })
			got, ok := impl.ReorderParties(c, list)
			if ok != is || !ok && !isZeroContract(got) {
				t.Errorf("ReorderParties of %d, %v = %+v, %v", count, list, got, ok)
			}
			if ok {
				right++
			}
			for i := -1; i <= count && len(list) <= count; i++ {
				extend(append(slices.Clone(list), i))
			}
		}
		extend([]int{})
		if right != len(permutations(count)) {
			t.Errorf("%d orders of %d", right, count)
		}
		for _, far := range []int{math.MinInt, math.MaxInt, 1 << 32, -count} {
			for k := range count {
				order := slices.Clone(permutations(count)[0])
				order[k] = far
				if got, ok := impl.ReorderParties(c, order); ok || !isZeroContract(got) {
					t.Errorf("ReorderParties of %d, %v = %+v, %v", count, order, got, ok)
				}
			}
		}
		if got, ok := impl.ReorderParties(c, make([]int, 1000000)); ok || !isZeroContract(got) {
			t.Errorf("ReorderParties of many = %+v, %v", got, ok)
		}
	}
	if got, ok := impl.ReorderParties(sale(), nil); ok || !isZeroContract(got) {
		t.Errorf("ReorderParties(nil) = %+v, %v", got, ok)
	}
}

func TestTextsLeaveTheirArgumentsAsTheyAre(t *testing.T) {
	for _, c := range append(randomContracts(500), sale()) {
		before := deepCopyContract(c)
		order := []int{1, 0, 2, 3, 99}
		for i := -1; i <= len(c.Clauses); i++ {
			impl.FormatClause(c, i)
		}
		impl.FormatContract(c)
		for length := range len(order) + 1 {
			impl.ReorderParties(c, order[:length])
		}
		if !reflect.DeepEqual(c, before) || !slices.Equal(order, []int{1, 0, 2, 3, 99}) {
			t.Fatalf("changed: %+v", before)
		}
	}
	parties := append(manyParties(4), "UNUSED")
	list := append(ascendingEvents()[:9:9], impl.Event{Day: -1})
	text := modelEvents(list[:9], parties)
	impl.FormatEvent(list[3], parties[:4])
	impl.FormatEvents(list[:9], parties[:4])
	impl.FormatEvents(list, parties)
	impl.ParseEvent(strings.Split(text, "\n")[2], parties[:4])
	impl.ParseEvents(text, parties[:4])
	impl.ParseEvents(text, parties)
	if !slices.Equal(parties, append(manyParties(4), "UNUSED")) || !slices.Equal(list, append(ascendingEvents()[:9:9], impl.Event{Day: -1})) {
		t.Errorf("changed: %v, %v", parties, list)
	}
}

func TestTextsUseNoElementsBeyondTheLength(t *testing.T) {
	room := append(manyParties(2), "bank", "court", "broker")
	checkEvent(t, impl.Event{Day: 2, Party: 1, Action: "pay"}, room[:2], "2000-01-03 seller does pay")
	checkNoEvent(t, "2000-01-03 bank does pay", room[:2])
	events := append(ascendingEvents()[:3:3], impl.Event{Day: -1}, impl.Event{})
	checkEvents(t, events[:3], room[:3], modelEvents(events[:3], room))
	c := impl.Contract{Parties: room[:2], Clauses: append(manyDuties(2), impl.Clause{})[:2]}
	checkContract(t, c, "parties buyer seller\nc0: buyer must act for seller within 0 days when true\nc1: buyer must act for seller within 0 days when true\n")
	order := []int{1, 0, 2, 0}
	checkReordered(t, c, order[:2])
	if !slices.Equal(room, []string{"buyer", "seller", "bank", "court", "broker"}) || !slices.Equal(order, []int{1, 0, 2, 0}) {
		t.Errorf("changed: %v, %v", room, order)
	}
}

func TestReorderedContractsHaveMemoryOfTheirOwn(t *testing.T) {
	for _, order := range permutations(3) {
		c := sale()
		got, _ := impl.ReorderParties(c, order)
		kept := deepCopyContract(got)
		spoilContract(c)
		if !reflect.DeepEqual(got, kept) {
			t.Errorf("ReorderParties(%v) keeps its argument", order)
		}
		c = sale()
		given := slices.Clone(order)
		got, _ = impl.ReorderParties(c, given)
		spoilContract(got)
		if !reflect.DeepEqual(c, sale()) || !slices.Equal(given, order) {
			t.Errorf("ReorderParties(%v) gives its argument away", order)
		}
	}
	shared := both(fact("a"), not(fact("b")))
	c := contractOf(manyDuties(3)...)
	for i := range c.Clauses {
		c.Clauses[i].When = shared
	}
	got, _ := impl.ReorderParties(c, []int{1, 0})
	spoil(got.Clauses[0].When)
	for _, x := range got.Clauses[1:] {
		if modelText(x.When) != "(a and not b)" {
			t.Error("two clauses share their condition")
		}
	}
}

// isPartOf reports whether a string has its bytes in the memory of another one.
func isPartOf(part string, whole string) bool {
	start := uintptr(unsafe.Pointer(unsafe.StringData(whole)))
	at := uintptr(unsafe.Pointer(unsafe.StringData(part)))
	return part != "" && at >= start && at < start+uintptr(len(whole))
}

func TestParsedNamesHaveMemoryOfTheirOwn(t *testing.T) {
	text := modelContract(sale())
	c, _ := impl.ParseContract(text)
	names := slices.Clone(c.Parties)
	for _, x := range c.Clauses {
		names = append(append(names, x.Id, x.Action, x.Repair), modelNames(x.When)...)
	}
	events := "2000-01-03 buyer does pay paying 1.00\n2000-01-03 seller does send\n"
	list, _ := impl.ParseEvents(events, twoNames())
	e, _ := impl.ParseEvent(events[:37], twoNames())
	for _, e := range append(list, e) {
		names = append(names, e.Action)
	}
	if len(names) < 35 {
		t.Errorf("only %d names", len(names))
	}
	for _, name := range names {
		if isPartOf(name, text) || isPartOf(name, events) {
			t.Errorf("%s is a part of the text", name)
		}
	}
}

func TestAnswersOfTextsAreNew(t *testing.T) {
	text := modelContract(sale())
	events := modelEvents(ascendingEvents()[:9], manyParties(3))
	for range 2 {
		c, ok := impl.ParseContract(text)
		if !ok || !reflect.DeepEqual(c, sale()) {
			t.Fatalf("ParseContract = %+v, %v", c, ok)
		}
		list, ok := impl.ParseEvents(events, manyParties(3))
		if !ok || !slices.Equal(list, ascendingEvents()[:9]) {
			t.Fatalf("ParseEvents = %+v, %v", list, ok)
		}
		spoilContract(c)
		clear(list)
	}
}
