package tests

import (
	"math"
	"math/rand"
	"reflect"
	"slices"
	"strconv"
	"strings"
	"testing"

	"loop.example/g00902/impl"
)

var allKinds = []int{impl.Obligation, impl.Prohibition, impl.Permission, impl.Power}

var kindNames = map[int]string{impl.Obligation: "obligation", impl.Prohibition: "prohibition", impl.Permission: "permission", impl.Power: "power"}

// notKinds are no kinds of clauses.
var notKinds = []int{0, 5, -1, 6, -4, 1<<32 + 1, math.MaxInt, math.MinInt}

// notANameAtAll are strings that are no names, besides the words of noNames.
var notANameAtAll = []string{"", "abcdefghi", "9", "1a", "Paid", "paiD", "a b", " a", "a ", "a-b", "ä", "a\x00", "a\n", strings.Repeat("a", 100000)}

// clauseOf is a plain clause of this kind, from party 0 to party 1.
func clauseOf(kind int, id string) impl.Clause {
	return impl.Clause{Id: id, Kind: kind, Party: 0, Action: "act", Other: 1, When: always()}
}

// duty is a plain obligation with this Repair.
func duty(id string, repair string) impl.Clause {
	x := clauseOf(impl.Obligation, id)
	x.Repair = repair
	return x
}

// contractOf is a contract of two parties with these clauses.
func contractOf(clauses ...impl.Clause) impl.Contract {
	return impl.Contract{Parties: []string{"buyer", "seller"}, Clauses: clauses}
}

// sale is a contract with every kind of clause and with dependent clauses.
func sale() impl.Contract {
	return impl.Contract{
		Parties: []string{"buyer", "seller", "bank"},
		Clauses: []impl.Clause{
			{Id: "pay", Kind: impl.Obligation, Party: 0, Action: "paid", Other: 1, Amount: 10000, When: fact("sent"), Within: 5, Repair: "late"},
			{Id: "late", Kind: impl.Obligation, Party: 0, Action: "penalty", Other: 1, Amount: impl.MaxPrice, When: always(), Within: impl.MaxWithin, Repair: "deposit"},
			{Id: "resell", Kind: impl.Prohibition, Party: 0, Action: "resold", Other: 2, When: not(fact("paid")), Repair: "late"},
			{Id: "free", Kind: impl.Permission, Party: 0, Action: "resold", Other: 1, When: both(fact("waived"), from(100))},
			{Id: "cancel", Kind: impl.Power, Party: 1, Action: "cancel", Other: 0, When: either(not(fact("paid")), from(200))},
			{Id: "send", Kind: impl.Obligation, Party: 1, Action: "sent", Other: 0, When: always(), Repair: "refund"},
			{Id: "refund", Kind: impl.Obligation, Party: 1, Action: "refund", Other: 0, Amount: 1, When: either(fact("paid"), fact("audit")), Within: 1},
			{Id: "deposit", Kind: impl.Obligation, Party: 2, Action: "paid", Other: 1, When: from(impl.MaxDay), Within: 2, Repair: "late"},
			{Id: "seize", Kind: impl.Power, Party: 2, Action: "seized", Other: 0, When: always(), Repair: "deposit"},
		},
	}
}

// deepCopyContract is a contract without memory in common with c.
func deepCopyContract(c impl.Contract) impl.Contract {
	copied := impl.Contract{Parties: append([]string(nil), c.Parties...)}
	for _, x := range c.Clauses {
		x.When = deepCopy(x.When)
		copied.Clauses = append(copied.Clauses, x)
	}
	return copied
}

// spoilContract overwrites everything in the slices of a contract.
func spoilContract(c impl.Contract) {
	for i := range c.Parties {
		c.Parties[i] = "spoiled"
	}
	for i := range c.Clauses {
		spoil(c.Clauses[i].When)
		c.Clauses[i] = impl.Clause{Id: "spoiled"}
	}
}

// changed is a copy of c that was edited.
func changed(c impl.Contract, edit func(c *impl.Contract)) impl.Contract {
	c = deepCopyContract(c)
	edit(&c)
	return c
}

// isZeroContract reports whether c is the zero Contract, with any empty slices.
func isZeroContract(c impl.Contract) bool { return len(c.Parties) == 0 && len(c.Clauses) == 0 }

// manyParties are the first count of five names.
func manyParties(count int) []string {
	return slices.Clone([]string{"buyer", "seller", "bank", "court", "broker"}[:count])
}

// manyDuties are obligations without a Repair.
func manyDuties(count int) []impl.Clause {
	list := make([]impl.Clause, count)
	for i := range list {
		list[i] = duty("c"+strconv.Itoa(i), "")
	}
	return list
}

// surrounded returns contracts that have the clause alone if it can be, first, in the middle and
// last, with the index of the clause.
func surrounded(x impl.Clause) map[int]impl.Contract {
	others := manyDuties(4)
	return map[int]impl.Contract{
		0: contractOf(append([]impl.Clause{x}, others...)...),
		2: contractOf(slices.Concat(others[:2], []impl.Clause{x}, others[2:])...),
		4: contractOf(append(others, x)...),
	}
}

// checkValid checks the validity of a contract.
func checkValid(t *testing.T, name string, c impl.Contract, want bool) {
	t.Helper()
	if got := impl.IsValidContract(c); got != want {
		t.Errorf("IsValidContract(%.80s) = %v", name, got)
	}
}

// checkClause checks the validity of contracts with a clause that has no Repair, alone and among
// others.
func checkClause(t *testing.T, name string, x impl.Clause, want bool) {
	t.Helper()
	checkValid(t, name+" alone", contractOf(x), want)
	for i, c := range surrounded(x) {
		checkValid(t, name+" at "+strconv.Itoa(i), c, want)
	}
}

func TestContractsOfTheDocument(t *testing.T) {
	checkValid(t, "sale", sale(), true)
	example := duty("c1", "")
	example.Action, example.Amount, example.Within, example.When = "pay", 100, 5, fact("sent")
	checkValid(t, "the example of chapter 7", contractOf(example), true)
	checkValid(t, "zero", impl.Contract{}, false)
	checkValid(t, "no parties", impl.Contract{Clauses: manyDuties(1)}, false)
}

func TestNumbersOfParties(t *testing.T) {
	for count, want := range []bool{false, false, true, true, true, false} {
		checkValid(t, strconv.Itoa(count)+" parties", impl.Contract{Parties: manyParties(count), Clauses: manyDuties(1)}, want)
	}
	many := make([]string, 100000)
	for i := range many {
		many[i] = "p" + strconv.Itoa(i)
	}
	checkValid(t, "100000 parties", impl.Contract{Parties: many, Clauses: manyDuties(1)}, false)
}

func TestNamesOfParties(t *testing.T) {
	for count := 2; count <= impl.MaxParties; count++ {
		for i := range count {
			for _, name := range append(slices.Clone(notANameAtAll), noNames...) {
				parties := manyParties(count)
				parties[i] = name
				checkValid(t, "a party "+name, impl.Contract{Parties: parties, Clauses: manyDuties(1)}, false)
			}
			for other := range count {
				parties := manyParties(count)
				parties[i] = parties[other]
				checkValid(t, "parties "+strings.Join(parties, " "), impl.Contract{Parties: parties, Clauses: manyDuties(1)}, i == other)
			}
		}
	}
	for _, parties := range [][]string{{"z", "a"}, {"a", "aa"}, {"abcdefgh", "x9"}, {"c0", "act"}, {"a", "b", "c", "d"}} {
		checkValid(t, "parties "+strings.Join(parties, " "), impl.Contract{Parties: parties, Clauses: manyDuties(1)}, true)
	}
}

func TestNumbersOfClauses(t *testing.T) {
	for count := range impl.MaxClauses + 3 {
		checkValid(t, strconv.Itoa(count)+" clauses", contractOf(manyDuties(count)...), 1 <= count && count <= impl.MaxClauses)
	}
	checkValid(t, "100000 clauses", contractOf(manyDuties(100000)...), false)
}

func TestIdsAreDistinct(t *testing.T) {
	for count := 1; count <= impl.MaxClauses; count++ {
		for i := range count {
			for other := range count {
				clauses := manyDuties(count)
				clauses[i].Id = clauses[other].Id
				checkValid(t, "Ids "+strconv.Itoa(i)+" and "+strconv.Itoa(other), contractOf(clauses...), i == other)
			}
		}
	}
	first, second := clauseOf(impl.Permission, "same"), duty("same", "")
	second.Action, second.Party, second.Other = "other", 1, 0
	checkValid(t, "the same Id in different clauses", contractOf(first, second), false)
}

func TestNumberOfDifferentNames(t *testing.T) {
	for actions := 1; actions <= impl.MaxClauses; actions++ {
		for facts := 0; facts <= len(manyNames); facts++ {
			clauses := manyDuties(actions)
			for i := range clauses {
				clauses[i].Action = "z" + strconv.Itoa(i)
			}
			// Each condition holds up to 8 names, so that the clauses hold enough of them.
			left := facts
			for i := range clauses {
				if count := min(left, 8); count > 0 {
					clauses[i].When = allOf(manyNames[facts-left:facts-left+count], true)
					left -= count
				}
			}
			if left > 0 {
				continue
			}
			checkValid(t, strconv.Itoa(actions)+" actions, "+strconv.Itoa(facts)+" facts", contractOf(clauses...), actions+facts <= impl.MaxFacts)
		}
	}
}

func TestNamesThatOccurAgainCountOnce(t *testing.T) {
	clauses := manyDuties(impl.MaxClauses)
	for i := range clauses {
		clauses[i].Action = manyNames[i%2]
		clauses[i].When = allOf(manyNames[:8], i%2 == 0)
	}
	clauses[5].When = allOf(manyNames[8:16], true)
	checkValid(t, "16 names many times", contractOf(clauses...), true)
	clauses[11].Action = manyNames[15]
	checkValid(t, "16 names, one of them an action again", contractOf(clauses...), true)
	clauses[11].Action = manyNames[16]
	checkValid(t, "17 names by the last action", contractOf(clauses...), false)
	clauses[11].Action = "a"
	clauses[3].When = not(fact(manyNames[16]))
	checkValid(t, "17 names by a condition", contractOf(clauses...), false)
	clauses[3].When = allOf(manyNames[:8], true)
	clauses[0].Action = manyNames[16]
	checkValid(t, "17 names by the first action", contractOf(clauses...), false)
}

func TestPartiesAndIdsAreNoFacts(t *testing.T) {
	clauses := manyDuties(impl.MaxClauses)
	clauses[0].When, clauses[1].When = allOf(manyNames[:8], true), allOf(manyNames[8:15], true)
	c := impl.Contract{Parties: manyParties(impl.MaxParties), Clauses: clauses}
	checkValid(t, "16 names beside 4 parties and 12 Ids", c, true)
}

func TestIdsAndActionsAreNames(t *testing.T) {
	for _, kind := range allKinds {
		for _, name := range append(slices.Clone(notANameAtAll), noNames...) {
			checkClause(t, kindNames[kind]+" with Id "+name, clauseOf(kind, name), false)
			x := clauseOf(kind, "x")
			x.Action = name
			checkClause(t, kindNames[kind]+" with Action "+name, x, false)
		}
		for _, name := range []string{"a", "abcdefgh", "x9", "true1", "buyer", "x"} {
			checkClause(t, kindNames[kind]+" with Id "+name, clauseOf(kind, name), true)
			x := clauseOf(kind, "x")
			x.Action = name
			checkClause(t, kindNames[kind]+" with Action "+name, x, true)
		}
	}
}

func TestKindsOfClauses(t *testing.T) {
	for _, kind := range allKinds {
		checkClause(t, kindNames[kind], clauseOf(kind, "x"), true)
	}
	for _, kind := range notKinds {
		checkClause(t, "Kind "+strconv.Itoa(kind), clauseOf(kind, "x"), false)
	}
}

func TestPartyAndOtherAreDifferentIndices(t *testing.T) {
	for count := 2; count <= impl.MaxParties; count++ {
		numbers := []int{math.MinInt, -2, -1, 0, 1, 2, 3, 4, 5, 1 << 32, math.MaxInt}
		for _, kind := range allKinds {
			for _, party := range numbers {
				for _, other := range numbers {
					x := clauseOf(kind, "x")
					x.Party, x.Other = party, other
					want := 0 <= party && party < count && 0 <= other && other < count && party != other
					name := kindNames[kind] + " of " + strconv.Itoa(party) + " and " + strconv.Itoa(other) + " of " + strconv.Itoa(count)
					checkValid(t, name, impl.Contract{Parties: manyParties(count), Clauses: []impl.Clause{x}}, want)
					checkValid(t, "last: "+name, impl.Contract{Parties: manyParties(count), Clauses: append(manyDuties(3), x)}, want)
				}
			}
		}
	}
}

func TestAmountsAndDeadlines(t *testing.T) {
	for _, kind := range allKinds {
		for _, amount := range []int{math.MinInt, -1, 0, 1, 100, impl.MaxPrice - 1, impl.MaxPrice, impl.MaxPrice + 1, 1 << 32, math.MaxInt} {
			x := clauseOf(kind, "x")
			x.Amount = amount
			want := amount == 0 || kind == impl.Obligation && 0 < amount && amount <= impl.MaxPrice
			checkClause(t, kindNames[kind]+" with Amount "+strconv.Itoa(amount), x, want)
		}
		for _, within := range []int{math.MinInt, -1, 0, 1, 5, impl.MaxWithin - 1, impl.MaxWithin, impl.MaxWithin + 1, 1 << 32, math.MaxInt} {
			x := clauseOf(kind, "x")
			x.Within = within
			want := within == 0 || kind == impl.Obligation && 0 < within && within <= impl.MaxWithin
			checkClause(t, kindNames[kind]+" with Within "+strconv.Itoa(within), x, want)
		}
	}
	x := duty("x", "")
	x.Amount, x.Within = impl.MaxPrice, impl.MaxWithin
	checkClause(t, "the greatest Amount and Within", x, true)
}

func TestWhenIsAValidCondition(t *testing.T) {
	for _, kind := range allKinds {
		for name, when := range largestConditions() {
			x := clauseOf(kind, "x")
			x.When = when
			checkClause(t, kindNames[kind]+" when "+name, x, true)
		}
		for name, when := range invalidConditions() {
			x := clauseOf(kind, "x")
			x.When = when
			checkClause(t, kindNames[kind]+" when "+name, x, false)
		}
	}
}

func TestRepairsAreOtherObligations(t *testing.T) {
	for _, kind := range allKinds {
		for _, target := range allKinds {
			for _, first := range []bool{true, false} {
				x := clauseOf(kind, "x")
				x.Repair = "y"
				list := []impl.Clause{x, duty("b", ""), clauseOf(target, "y")}
				if !first {
					slices.Reverse(list)
				}
				name := kindNames[kind] + " with the Repair " + kindNames[target]
				checkValid(t, name, contractOf(list...), kind != impl.Permission && target == impl.Obligation)
			}
		}
		for _, repair := range []string{"x", "y", "z", "X", "c", "c00", "c0 ", " c0", " ", "act", "buyer", "seller", "0", "true", "abcdefghi", "\x00"} {
			x := clauseOf(kind, "x")
			x.Repair = repair
			checkClause(t, kindNames[kind]+" with the Repair "+repair, x, false)
		}
		x := clauseOf(kind, "x")
		x.Repair = "c3"
		for i, c := range surrounded(x) {
			checkValid(t, kindNames[kind]+" with a Repair at "+strconv.Itoa(i), c, kind != impl.Permission)
		}
	}
}

func TestRepairsMayFormCycles(t *testing.T) {
	for name, c := range map[string]impl.Contract{
		"two":            contractOf(duty("a", "b"), duty("b", "a")),
		"three":          contractOf(duty("a", "b"), duty("b", "c"), duty("c", "a")),
		"two at the end": contractOf(duty("a", "b"), duty("b", "c"), duty("c", "b")),
	} {
		checkValid(t, "cycle of "+name, c, true)
	}
	checkValid(t, "own Repair among others", contractOf(duty("a", "b"), duty("b", "b")), false)
	checkValid(t, "own Repair first", contractOf(duty("a", "a"), duty("b", "a")), false)
}

// brokenRules are the rules of the document that a contract with valid conditions breaks.
func brokenRules(c impl.Contract) []string {
	broken := []string{}
	require := func(holds bool, rule string) {
		if !holds {
			broken = append(broken, rule)
		}
	}
	kinds, counts, parties, names := map[string]int{}, map[string]int{}, map[string]bool{}, map[string]bool{}
	for _, party := range c.Parties {
		parties[party] = true
		require(impl.IsValidName(party), "party's name")
	}
	require(len(parties) == len(c.Parties), "distinct parties")
	require(len(parties) == 2 || len(parties) == 3 || len(parties) == 4, "number of parties")
	for _, x := range c.Clauses {
		kinds[x.Id] = x.Kind
		counts[x.Id]++
		names[x.Action] = true
		for _, name := range modelNames(x.When) {
			names[name] = true
		}
	}
	require(len(counts) == len(c.Clauses), "distinct Ids")
	require(len(c.Clauses) > 0 && len(c.Clauses) < 13, "number of clauses")
	require(len(names) < 17, "number of names")
	for _, x := range c.Clauses {
		require(impl.IsValidName(x.Id) && impl.IsValidName(x.Action), "names")
		require(kindNames[x.Kind] != "", "kind")
		require(x.Party != x.Other && min(x.Party, x.Other) >= 0 && max(x.Party, x.Other) < len(c.Parties), "indices")
		require(x.Amount == 0 || x.Kind == 1 && x.Amount > 0 && x.Amount < 1000001, "amount")
		require(x.Within == 0 || x.Kind == 1 && x.Within > 0 && x.Within < 401, "within")
		require(impl.IsValidCondition(x.When), "condition")
		require(x.Repair == "" || x.Kind != 3 && x.Repair != x.Id && kinds[x.Repair] == 1, "repair")
	}
	return broken
}

// randomClause is a clause that mostly obeys the rules.
func randomClause(random *rand.Rand, parties int, ids []string) impl.Clause {
	x := impl.Clause{
		Id: ids[random.Intn(len(ids))], Kind: 1 + random.Intn(4), Party: random.Intn(parties), Action: manyNames[random.Intn(len(manyNames))],
		When: randomCondition(random, 1+random.Intn(8)),
	}
	x.Other = (x.Party + 1 + random.Intn(parties-1)) % parties
	if x.Kind == impl.Obligation {
		x.Amount, x.Within = random.Intn(impl.MaxPrice+1), random.Intn(impl.MaxWithin+1)
	}
	if x.Kind != impl.Permission && random.Intn(2) == 0 {
		x.Repair = ids[random.Intn(len(ids))]
	}
	return x
}

// randomContracts are many contracts, many of them valid and many invalid.
func randomContracts(count int) []impl.Contract {
	random := rand.New(rand.NewSource(6))
	list := make([]impl.Contract, count)
	for i := range list {
		parties := 2 + random.Intn(3)
		list[i].Parties = manyParties(parties)
		ids := []string{}
		for k := range 1 + random.Intn(impl.MaxClauses) {
			ids = append(ids, "c"+strconv.Itoa(k))
		}
		for _, id := range ids {
			x := randomClause(random, parties, ids)
			x.Id = id
			list[i].Clauses = append(list[i].Clauses, x)
		}
		for k := range list[i].Clauses {
			mend(&list[i], k, random.Intn(8) > 0)
		}
		if random.Intn(4) == 0 {
			list[i].Clauses[random.Intn(len(ids))] = randomClause(random, parties, ids)
		}
	}
	return list
}

// mend removes the Repair of a clause if it is the clause itself or no obligation.
func mend(c *impl.Contract, i int, wanted bool) {
	x := &c.Clauses[i]
	for _, target := range c.Clauses {
		if wanted && x.Repair == target.Id && (target.Id == x.Id || target.Kind != impl.Obligation) {
			x.Repair = ""
		}
	}
}

// validContracts are contracts of all sizes that are valid, with the sale.
func validContracts() []impl.Contract {
	list := []impl.Contract{sale(), contractOf(manyDuties(1)...), contractOf(manyDuties(impl.MaxClauses)...)}
	for _, c := range randomContracts(3000) {
		if len(brokenRules(c)) == 0 {
			list = append(list, c)
		}
	}
	return list
}

func TestValidityOfManyContracts(t *testing.T) {
	valid, invalid := 0, 0
	for _, c := range randomContracts(20000) {
		broken := brokenRules(c)
		if got := impl.IsValidContract(c); got != (len(broken) == 0) {
			t.Fatalf("IsValidContract(%+v) = %v, broken: %v", c, got, broken)
		}
		if len(broken) == 0 {
			valid++
		} else {
			invalid++
		}
	}
	if valid < 2000 || invalid < 2000 {
		t.Errorf("%d valid and %d invalid contracts", valid, invalid)
	}
}

// invalidContracts break one rule each.
func invalidContracts() map[string]impl.Contract {
	edits := map[string]func(c *impl.Contract){
		"no party":            func(c *impl.Contract) { c.Parties = nil },
		"one party":           func(c *impl.Contract) { c.Parties = c.Parties[:1] },
		"five parties":        func(c *impl.Contract) { c.Parties = manyParties(5) },
		"too few parties":     func(c *impl.Contract) { c.Parties = c.Parties[:2] },
		"party is no name":    func(c *impl.Contract) { c.Parties[1] = "both" },
		"party twice":         func(c *impl.Contract) { c.Parties[2] = "buyer" },
		"no clause":           func(c *impl.Contract) { c.Clauses = nil },
		"13 clauses":          func(c *impl.Contract) { c.Clauses = append(c.Clauses, manyDuties(4)...) },
		"Id twice":            func(c *impl.Contract) { c.Clauses[4].Id = "seize" },
		"Id is no name":       func(c *impl.Contract) { c.Clauses[3].Id = "4" },
		"Action is no name":   func(c *impl.Contract) { c.Clauses[8].Action = "it" },
		"Kind 0":              func(c *impl.Contract) { c.Clauses[3].Kind = 0 },
		"Kind 5":              func(c *impl.Contract) { c.Clauses[4].Kind = 5 },
		"Party -1":            func(c *impl.Contract) { c.Clauses[0].Party = -1 },
		"Other 3":             func(c *impl.Contract) { c.Clauses[8].Other = 3 },
		"Party is Other":      func(c *impl.Contract) { c.Clauses[5].Other = 1 },
		"great Amount":        func(c *impl.Contract) { c.Clauses[1].Amount++ },
		"Amount of a power":   func(c *impl.Contract) { c.Clauses[8].Amount = 1 },
		"long Within":         func(c *impl.Contract) { c.Clauses[1].Within++ },
		"Within of a power":   func(c *impl.Contract) { c.Clauses[8].Within = 1 },
		"zero When":           func(c *impl.Contract) { c.Clauses[6].When = impl.Condition{} },
		"endless When":        func(c *impl.Contract) { c.Clauses[8].When = containsItselfTwice() },
		"unknown Repair":      func(c *impl.Contract) { c.Clauses[8].Repair = "none" },
		"Repair is a power":   func(c *impl.Contract) { c.Clauses[0].Repair = "seize" },
		"own Repair":          func(c *impl.Contract) { c.Clauses[7].Repair = "deposit" },
		"permission's Repair": func(c *impl.Contract) { c.Clauses[3].Repair = "late" },
		"17 names":            func(c *impl.Contract) { c.Clauses[1].When = allOf(manyNames[:8], true) },
	}
	list := map[string]impl.Contract{"zero": {}}
	for name, edit := range edits {
		list[name] = changed(sale(), edit)
	}
	return list
}

func TestInvalidContractsHaveNoAnswers(t *testing.T) {
	for name, c := range invalidContracts() {
		checkValid(t, name, c, false)
		if number, ok := impl.ClauseNumber(c, "late"); number != 0 || ok {
			t.Errorf("ClauseNumber(%s) = %d, %v", name, number, ok)
		}
		if list, ok := impl.DependentClauses(c); len(list) > 0 || ok {
			t.Errorf("DependentClauses(%s) = %v, %v", name, list, ok)
		}
		if list, ok := impl.ClausesOf(c, 0, 0); len(list) > 0 || ok {
			t.Errorf("ClausesOf(%s) = %v, %v", name, list, ok)
		}
		if list, ok := impl.FactNames(c); len(list) > 0 || ok {
			t.Errorf("FactNames(%s) = %v, %v", name, list, ok)
		}
		if chain, cycle, ok := impl.RepairChain(c, 0); len(chain) > 0 || cycle || ok {
			t.Errorf("RepairChain(%s) = %v, %v, %v", name, chain, cycle, ok)
		}
		if longer, ok := impl.AddClause(c, clauseOf(impl.Power, "more")); !isZeroContract(longer) || ok {
			t.Errorf("AddClause(%s) = %v, %v", name, longer, ok)
		}
		for _, id := range []string{"pay", "seize", "free", "", "none"} {
			if shorter, ok := impl.RemoveClause(c, id); !isZeroContract(shorter) || ok {
				t.Errorf("RemoveClause(%s, %s) = %v, %v", name, id, shorter, ok)
			}
		}
	}
}

func TestClauseNumbers(t *testing.T) {
	for _, c := range validContracts() {
		for i, x := range c.Clauses {
			if number, ok := impl.ClauseNumber(c, x.Id); !ok || number != i {
				t.Fatalf("ClauseNumber(%+v, %s) = %d, %v", c, x.Id, number, ok)
			}
		}
	}
	for _, id := range []string{"", "none", "buyer", "seller", "paid", "cancels", "cance", "Pay", "PAY", "pay ", " pay", "penalty", "true", "0", strings.Repeat("p", 100000)} {
		if number, ok := impl.ClauseNumber(sale(), id); number != 0 || ok {
			t.Errorf("ClauseNumber(%.20q) = %d, %v", id, number, ok)
		}
	}
}

// modelDependent are the indices of the clauses that are a Repair.
func modelDependent(c impl.Contract) []int {
	list := []int{}
	for i, x := range c.Clauses {
		for _, other := range c.Clauses {
			if other.Repair == x.Id {
				list = append(list, i)
				break
			}
		}
	}
	return list
}

func TestDependentClauses(t *testing.T) {
	for name, x := range map[string]struct {
		c    impl.Contract
		want []int
	}{
		"sale":           {sale(), []int{1, 6, 7}},
		"none":           {contractOf(manyDuties(3)...), []int{}},
		"one clause":     {contractOf(manyDuties(1)...), []int{}},
		"cycle of two":   {contractOf(duty("a", "b"), duty("b", "a")), []int{0, 1}},
		"of one":         {contractOf(duty("a", "b"), duty("b", "")), []int{1}},
		"of two":         {contractOf(duty("a", "b"), duty("b", ""), duty("c", "b")), []int{1}},
		"chain of three": {contractOf(duty("a", ""), duty("b", "a"), duty("c", "b")), []int{0, 1}},
	} {
		if got, ok := impl.DependentClauses(x.c); !ok || !slices.Equal(got, x.want) {
			t.Errorf("DependentClauses(%s) = %v, %v", name, got, ok)
		}
	}
	for _, c := range validContracts() {
		if got, ok := impl.DependentClauses(c); !ok || !slices.Equal(got, modelDependent(c)) {
			t.Fatalf("DependentClauses(%+v) = %v, %v", c, got, ok)
		}
	}
}

func TestRepairsOfEveryKindMakeAClauseDependent(t *testing.T) {
	for _, kind := range []int{impl.Obligation, impl.Prohibition, impl.Power} {
		x := clauseOf(kind, "x")
		x.Repair = "y"
		if got, ok := impl.DependentClauses(contractOf(x, duty("y", ""))); !ok || !slices.Equal(got, []int{1}) {
			t.Errorf("DependentClauses with a %s = %v, %v", kindNames[kind], got, ok)
		}
	}
}

func TestClausesOfEveryPartyAndKind(t *testing.T) {
	for _, c := range validContracts() {
		for party := -1; party <= len(c.Parties); party++ {
			for kind := -1; kind <= 5; kind++ {
				want, wantOk := []int{}, 0 <= party && party < len(c.Parties) && 0 <= kind && kind <= 4
				for i, x := range c.Clauses {
					if wantOk && x.Party == party && (x.Kind == kind || kind == 0) {
						want = append(want, i)
					}
				}
				if got, ok := impl.ClausesOf(c, party, kind); ok != wantOk || !slices.Equal(got, want) {
					t.Fatalf("ClausesOf(%+v, %d, %d) = %v, %v", c, party, kind, got, ok)
				}
			}
		}
	}
}

func TestClausesOfTheSale(t *testing.T) {
	for _, x := range []struct {
		party, kind int
		want        []int
		ok          bool
	}{
		{0, 0, []int{0, 1, 2, 3}, true}, {0, impl.Obligation, []int{0, 1}, true}, {0, impl.Prohibition, []int{2}, true}, {0, impl.Permission, []int{3}, true}, {0, impl.Power, nil, true},
		{1, 0, []int{4, 5, 6}, true}, {1, impl.Obligation, []int{5, 6}, true}, {1, impl.Power, []int{4}, true}, {1, impl.Permission, nil, true},
		{2, 0, []int{7, 8}, true}, {2, impl.Obligation, []int{7}, true}, {2, impl.Power, []int{8}, true}, {2, impl.Prohibition, nil, true},
		{-1, 0, nil, false}, {3, 0, nil, false}, {math.MinInt, 1, nil, false}, {math.MaxInt, 1, nil, false},
		{0, -1, nil, false}, {0, 5, nil, false}, {0, math.MinInt, nil, false}, {0, math.MaxInt, nil, false}, {0, 1<<32 + 1, nil, false},
	} {
		if got, ok := impl.ClausesOf(sale(), x.party, x.kind); ok != x.ok || !slices.Equal(got, x.want) {
			t.Errorf("ClausesOf(%d, %d) = %v, %v", x.party, x.kind, got, ok)
		}
	}
}

func TestFactNames(t *testing.T) {
	for name, x := range map[string]struct {
		c    impl.Contract
		want []string
	}{
		"sale":                  {sale(), []string{"audit", "cancel", "paid", "penalty", "refund", "resold", "seized", "sent", "waived"}},
		"one action many times": {contractOf(manyDuties(5)...), []string{"act"}},
		"action in a condition": {contractOf(impl.Clause{Id: "x", Kind: impl.Power, Action: "b", Other: 1, When: both(fact("b"), not(either(fact("a"), fact("b"))))}), []string{"a", "b"}},
		"digits before letters": {contractOf(impl.Clause{Id: "x", Kind: impl.Power, Action: "aa", Other: 1, When: both(fact("a1"), fact("a"))}), []string{"a", "a1", "aa"}},
	} {
		if got, ok := impl.FactNames(x.c); !ok || !slices.Equal(got, x.want) {
			t.Errorf("FactNames(%s) = %v, %v", name, got, ok)
		}
	}
	for _, c := range validContracts() {
		want := []string{}
		for _, x := range c.Clauses {
			want = append(append(want, x.Action), modelNames(x.When)...)
		}
		slices.Sort(want)
		if got, ok := impl.FactNames(c); !ok || !slices.Equal(got, slices.Compact(want)) {
			t.Fatalf("FactNames(%+v) = %v, %v", c, got, ok)
		}
	}
}

func TestNamedChainsOfRepairs(t *testing.T) {
	// Clause 0 runs into the cycle of 1, 2 and 3; clause 4 ends at once and clause 5 after one step.
	c := contractOf(duty("a", "b"), duty("b", "c"), duty("c", "d"), duty("d", "b"), duty("e", ""), duty("f", "e"))
	for _, x := range []struct {
		c     impl.Contract
		i     int
		want  []int
		cycle bool
	}{
		{contractOf(duty("a", "")), 0, []int{0}, false},
		{contractOf(duty("a", "b"), duty("b", "a")), 0, []int{0, 1}, true},
		{contractOf(duty("a", "b"), duty("b", "a")), 1, []int{1, 0}, true},
		{c, 0, []int{0, 1, 2, 3}, true}, {c, 1, []int{1, 2, 3}, true}, {c, 2, []int{2, 3, 1}, true}, {c, 3, []int{3, 1, 2}, true},
		{c, 4, []int{4}, false}, {c, 5, []int{5, 4}, false},
		{sale(), 0, []int{0, 1, 7}, true}, {sale(), 1, []int{1, 7}, true}, {sale(), 2, []int{2, 1, 7}, true}, {sale(), 3, []int{3}, false}, {sale(), 4, []int{4}, false},
		{sale(), 5, []int{5, 6}, false}, {sale(), 6, []int{6}, false}, {sale(), 7, []int{7, 1}, true}, {sale(), 8, []int{8, 7, 1}, true},
	} {
		if got, cycle, ok := impl.RepairChain(x.c, x.i); !ok || cycle != x.cycle || !slices.Equal(got, x.want) {
			t.Errorf("RepairChain(%+v, %d) = %v, %v, %v", x.c, x.i, got, cycle, ok)
		}
	}
	for _, i := range []int{-1, 6, 7, math.MinInt, math.MaxInt, 1 << 32} {
		if chain, cycle, ok := impl.RepairChain(c, i); len(chain) > 0 || cycle || ok {
			t.Errorf("RepairChain(%d) = %v, %v, %v", i, chain, cycle, ok)
		}
	}
}

// modelChain follows next, where -1 is no clause, from clause i on.
func modelChain(next []int, i int) ([]int, bool) {
	chain, met := []int{}, make([]bool, len(next))
	for i >= 0 && !met[i] {
		chain, met[i] = append(chain, i), true
		i = next[i]
	}
	return chain, i >= 0
}

// checkChains checks the chains of obligations with these Repairs from every clause on.
func checkChains(t *testing.T, next []int) {
	t.Helper()
	clauses := manyDuties(len(next))
	for i, repair := range next {
		if repair >= 0 {
			clauses[i].Repair = clauses[repair].Id
		}
	}
	for i := range next {
		want, wantCycle := modelChain(next, i)
		if got, cycle, ok := impl.RepairChain(contractOf(clauses...), i); !ok || cycle != wantCycle || !slices.Equal(got, want) {
			t.Fatalf("RepairChain(%v, %d) = %v, %v, %v", next, i, got, cycle, ok)
		}
	}
}

func TestEveryChainOfUpToFourClauses(t *testing.T) {
	for count := 1; count <= 4; count++ {
		next := make([]int, count)
		for code := range int(math.Pow(float64(count+1), float64(count))) {
			own := false
			for i := range next {
				next[i] = code%(count+1) - 1
				code /= count + 1
				own = own || next[i] == i
			}
			if !own {
				checkChains(t, next)
			}
		}
	}
}

func TestLongestChains(t *testing.T) {
	for last := -1; last < impl.MaxClauses-1; last++ {
		forwards, backwards := make([]int, impl.MaxClauses), make([]int, impl.MaxClauses)
		for i := range forwards {
			forwards[i], backwards[i] = i+1, i-1
		}
		forwards[impl.MaxClauses-1] = last
		checkChains(t, forwards)
		if last >= 0 {
			backwards[0] = impl.MaxClauses - 1 - last
		}
		checkChains(t, backwards)
	}
}

func TestChainsEndOrAreCycles(t *testing.T) {
	for _, c := range validContracts() {
		for i := range c.Clauses {
			chain, cycle, ok := impl.RepairChain(c, i)
			if !ok || len(chain) == 0 || chain[0] != i {
				t.Fatalf("RepairChain(%+v, %d) = %v, %v, %v", c, i, chain, cycle, ok)
			}
			for k, number := range chain[1:] {
				if c.Clauses[chain[k]].Repair != c.Clauses[number].Id || slices.Contains(chain[:k+1], number) {
					t.Fatalf("RepairChain(%+v, %d) = %v", c, i, chain)
				}
			}
			last := c.Clauses[chain[len(chain)-1]].Repair
			if cycle != (last != "") || cycle && !slices.ContainsFunc(chain, func(number int) bool { return c.Clauses[number].Id == last }) {
				t.Fatalf("RepairChain(%+v, %d) = %v, %v", c, i, chain, cycle)
			}
		}
	}
}

func TestAddedClauses(t *testing.T) {
	for _, c := range validContracts() {
		for _, repair := range []string{"", c.Clauses[0].Id, "new", "none"} {
			for _, kind := range allKinds {
				x := clauseOf(kind, "new")
				x.Repair = repair
				want := impl.Contract{Parties: c.Parties, Clauses: append(slices.Clone(c.Clauses), x)}
				got, ok := impl.AddClause(c, x)
				if ok != (len(brokenRules(want)) == 0) || ok && !reflect.DeepEqual(got, want) || !ok && !isZeroContract(got) {
					t.Fatalf("AddClause(%+v, %+v) = %+v, %v", c, x, got, ok)
				}
			}
		}
	}
}

func TestClausesThatCannotBeAdded(t *testing.T) {
	for name, edit := range map[string]func(x *impl.Clause){
		"Id that is there":      func(x *impl.Clause) { x.Id = "seize" },
		"Id that is no name":    func(x *impl.Clause) { x.Id = "" },
		"Action is no name":     func(x *impl.Clause) { x.Action = "or" },
		"Kind 0":                func(x *impl.Clause) { x.Kind = 0 },
		"Kind 5":                func(x *impl.Clause) { x.Kind = 5 },
		"Party -1":              func(x *impl.Clause) { x.Party = -1 },
		"Party 3":               func(x *impl.Clause) { x.Party = 3 },
		"Other -1":              func(x *impl.Clause) { x.Other = -1 },
		"Other 3":               func(x *impl.Clause) { x.Other = 3 },
		"Party is Other":        func(x *impl.Clause) { x.Other = 0 },
		"Amount -1":             func(x *impl.Clause) { x.Amount = -1 },
		"great Amount":          func(x *impl.Clause) { x.Amount = impl.MaxPrice + 1 },
		"Within -1":             func(x *impl.Clause) { x.Within = -1 },
		"long Within":           func(x *impl.Clause) { x.Within = impl.MaxWithin + 1 },
		"zero When":             func(x *impl.Clause) { x.When = impl.Condition{} },
		"endless When":          func(x *impl.Clause) { x.When = containsItself() },
		"When with 8 new names": func(x *impl.Clause) { x.Action, x.When = "paid", allOf(manyNames[:8], true) },
		"own Repair":            func(x *impl.Clause) { x.Repair = "new" },
		"unknown Repair":        func(x *impl.Clause) { x.Repair = "none" },
		"Repair is a power":     func(x *impl.Clause) { x.Repair = "cancel" },
	} {
		x := duty("new", "late")
		edit(&x)
		if got, ok := impl.AddClause(sale(), x); ok || !isZeroContract(got) {
			t.Errorf("AddClause(%s) = %+v, %v", name, got, ok)
		}
	}
	if got, ok := impl.AddClause(sale(), impl.Clause{}); ok || !isZeroContract(got) {
		t.Errorf("AddClause(zero) = %+v, %v", got, ok)
	}
	for count := range impl.MaxClauses + 2 {
		got, ok := impl.AddClause(contractOf(manyDuties(count)...), duty("new", ""))
		if want := 1 <= count && count < impl.MaxClauses; ok != want || len(got.Clauses) != map[bool]int{true: count + 1}[want] {
			t.Errorf("AddClause to %d = %+v, %v", count, got, ok)
		}
	}
}

func TestAnAddedClauseMayUseUpTheNames(t *testing.T) {
	x := duty("new", "late")
	x.Action, x.When = "paid", allOf(manyNames[:7], true)
	if got, ok := impl.AddClause(sale(), x); !ok || len(got.Clauses) != 10 {
		t.Errorf("AddClause with 7 new names = %+v, %v", got, ok)
	}
}

func TestAnAddedClauseDoesNotMakeAContractValid(t *testing.T) {
	if got, ok := impl.AddClause(contractOf(duty("a", "new")), duty("new", "")); ok || !isZeroContract(got) {
		t.Errorf("AddClause of a missing Repair = %+v, %v", got, ok)
	}
	if got, ok := impl.AddClause(contractOf(), duty("new", "")); ok || !isZeroContract(got) {
		t.Errorf("AddClause to no clause = %+v, %v", got, ok)
	}
}

func TestRemovedClauses(t *testing.T) {
	for _, c := range validContracts() {
		dependent := modelDependent(c)
		for i, x := range c.Clauses {
			want := impl.Contract{Parties: c.Parties, Clauses: slices.Concat(c.Clauses[:i], c.Clauses[i+1:])}
			got, ok := impl.RemoveClause(c, x.Id)
			if ok != (len(c.Clauses) > 1 && !slices.Contains(dependent, i)) || ok && !reflect.DeepEqual(got, want) || !ok && !isZeroContract(got) {
				t.Fatalf("RemoveClause(%+v, %s) = %+v, %v", c, x.Id, got, ok)
			}
			if ok && !impl.IsValidContract(got) {
				t.Fatalf("RemoveClause(%+v, %s) is invalid", c, x.Id)
			}
		}
	}
}

func TestNamedRemovals(t *testing.T) {
	for id, want := range map[string][]string{
		"pay":   {"late", "resell", "free", "cancel", "send", "refund", "deposit", "seize"},
		"free":  {"pay", "late", "resell", "cancel", "send", "refund", "deposit", "seize"},
		"seize": {"pay", "late", "resell", "free", "cancel", "send", "refund", "deposit"},
		"late":  nil, "refund": nil, "deposit": nil, "": nil, "none": nil, "buyer": nil, "paid": nil, "Pay": nil, "pay ": nil,
	} {
		c, ok := impl.RemoveClause(sale(), id)
		ids := []string{}
		for _, x := range c.Clauses {
			ids = append(ids, x.Id)
		}
		if ok != (want != nil) || !slices.Equal(ids, want) || !ok && !isZeroContract(c) {
			t.Errorf("RemoveClause(%q) = %v, %v", id, ids, ok)
		}
	}
	if c, ok := impl.RemoveClause(contractOf(duty("a", "")), "a"); ok || !isZeroContract(c) {
		t.Errorf("RemoveClause of the only one = %+v, %v", c, ok)
	}
	for _, id := range []string{"a", "b"} {
		if c, ok := impl.RemoveClause(contractOf(duty("a", "b"), duty("b", "a")), id); ok || !isZeroContract(c) {
			t.Errorf("RemoveClause in a cycle = %+v, %v", c, ok)
		}
	}
}

func TestClausesAreAddedAndRemovedAgain(t *testing.T) {
	for _, c := range validContracts() {
		x := duty("new", "")
		if longer, ok := impl.AddClause(c, x); ok {
			if back, ok := impl.RemoveClause(longer, "new"); !ok || !impl.EqualContracts(back, c) {
				t.Fatalf("RemoveClause after AddClause(%+v) = %+v, %v", c, back, ok)
			}
		}
		last := c.Clauses[len(c.Clauses)-1]
		if shorter, ok := impl.RemoveClause(c, last.Id); ok {
			if back, ok := impl.AddClause(shorter, last); !ok || !impl.EqualContracts(back, c) {
				t.Fatalf("AddClause after RemoveClause(%+v) = %+v, %v", c, back, ok)
			}
		}
	}
}

// checkEqual checks whether two contracts are equal, in both orders.
func checkEqual(t *testing.T, name string, a impl.Contract, b impl.Contract, want bool) {
	t.Helper()
	if impl.EqualContracts(a, b) != want || impl.EqualContracts(b, a) != want {
		t.Errorf("EqualContracts(%s) is not %v", name, want)
	}
}

// editsOfOneField change one field of clause i each.
func editsOfOneField(i int) map[string]func(c *impl.Contract) {
	return map[string]func(c *impl.Contract){
		"Id":         func(c *impl.Contract) { c.Clauses[i].Id += "x" },
		"Kind":       func(c *impl.Contract) { c.Clauses[i].Kind += 4 },
		"Party":      func(c *impl.Contract) { c.Clauses[i].Party += 3 },
		"Action":     func(c *impl.Contract) { c.Clauses[i].Action = "" },
		"Other":      func(c *impl.Contract) { c.Clauses[i].Other -= 9 },
		"Amount":     func(c *impl.Contract) { c.Clauses[i].Amount++ },
		"Within":     func(c *impl.Contract) { c.Clauses[i].Within-- },
		"Repair":     func(c *impl.Contract) { c.Clauses[i].Repair += "s" },
		"When":       func(c *impl.Contract) { c.Clauses[i].When = not(c.Clauses[i].When) },
		"When's Op":  func(c *impl.Contract) { c.Clauses[i].When.Op += 7 },
		"When's Day": func(c *impl.Contract) { c.Clauses[i].When.Day++ },
		"When's Name": func(c *impl.Contract) {
			c.Clauses[i].When.Name += "x"
		},
		"When's Parts": func(c *impl.Contract) {
			c.Clauses[i].When.Parts = append(c.Clauses[i].When.Parts, impl.Condition{})
		},
	}
}

func TestContractsThatDifferInOneField(t *testing.T) {
	for _, c := range []impl.Contract{sale(), invalidContracts()["zero When"], invalidContracts()["13 clauses"], invalidContracts()["unknown Repair"]} {
		checkEqual(t, "itself", c, c, true)
		checkEqual(t, "a copy", c, deepCopyContract(c), true)
		for i := range c.Clauses {
			for name, edit := range editsOfOneField(i) {
				checkEqual(t, name+" of "+strconv.Itoa(i), c, changed(c, edit), false)
				checkEqual(t, name+" in both", changed(c, edit), changed(c, edit), true)
			}
			checkEqual(t, "a clause less", c, changed(c, func(c *impl.Contract) { c.Clauses = slices.Delete(c.Clauses, i, i+1) }), false)
			checkEqual(t, "a clause more", c, changed(c, func(c *impl.Contract) { c.Clauses = slices.Insert(c.Clauses, i, impl.Clause{}) }), false)
		}
		for i := range c.Parties {
			checkEqual(t, "a party's name", c, changed(c, func(c *impl.Contract) { c.Parties[i] += "x" }), false)
			checkEqual(t, "a party less", c, changed(c, func(c *impl.Contract) { c.Parties = slices.Delete(c.Parties, i, i+1) }), false)
			checkEqual(t, "a party more", c, changed(c, func(c *impl.Contract) { c.Parties = slices.Insert(c.Parties, i, "") }), false)
		}
		checkEqual(t, "clauses swapped", c, changed(c, func(c *impl.Contract) { c.Clauses[0], c.Clauses[1] = c.Clauses[1], c.Clauses[0] }), false)
		checkEqual(t, "parties swapped", c, changed(c, func(c *impl.Contract) { c.Parties[0], c.Parties[1] = c.Parties[1], c.Parties[0] }), false)
		checkEqual(t, "zero", c, impl.Contract{}, false)
	}
}

func TestEmptySlicesOfContractsAreEqual(t *testing.T) {
	checkEqual(t, "no slices", impl.Contract{}, impl.Contract{Parties: []string{}, Clauses: []impl.Clause{}}, true)
	checkEqual(t, "no parts", contractOf(duty("a", "")), changed(contractOf(duty("a", "")), func(c *impl.Contract) { c.Clauses[0].When.Parts = []impl.Condition{} }), true)
	checkEqual(t, "parties alone", impl.Contract{Parties: []string{"a"}}, impl.Contract{}, false)
	checkEqual(t, "clauses alone", impl.Contract{Clauses: []impl.Clause{{}}}, impl.Contract{}, false)
	checkEqual(t, "zero clauses", impl.Contract{Clauses: []impl.Clause{{}}}, impl.Contract{Clauses: []impl.Clause{{}}}, true)
}

// when is a contract whose only clause has this condition.
func when(c impl.Condition) impl.Contract {
	x := duty("a", "")
	x.When = c
	return contractOf(x)
}

func TestContractsThatDifferInsideACondition(t *testing.T) {
	list := append(conditionsUpTo(4, always(), fact("a"), fact("b"), from(0), from(1)), impl.Condition{}, impl.Condition{Op: 9, Day: -1}, not(impl.Condition{Op: 9, Name: "A"}))
	texts := make([]string, len(list))
	for i, c := range list {
		// Invalid conditions have no text, but each of them is equal to itself alone.
		texts[i] = "invalid " + strconv.Itoa(i)
		if impl.IsValidCondition(c) {
			texts[i] = modelText(c)
		}
	}
	for i, a := range list {
		for k, b := range list {
			if got := impl.EqualContracts(when(a), when(deepCopy(b))); got != (texts[i] == texts[k]) {
				t.Fatalf("EqualContracts(%+v, %+v) = %v", a, b, got)
			}
		}
	}
}

// loopOf is a condition that contains itself after length CondNots, the last of which has a Day.
func loopOf(length int, day int) impl.Condition {
	cells := make([][]impl.Condition, length)
	for i := range cells {
		cells[i] = []impl.Condition{{Op: impl.CondNot}}
	}
	cells[length-1][0].Day = day
	for i := range cells {
		cells[i][0].Parts = cells[(i+1)%length]
	}
	return cells[0][0]
}

func TestConditionsThatContainThemselvesAreCompared(t *testing.T) {
	checkEqual(t, "endless not", when(containsItself()), when(containsItself()), true)
	checkEqual(t, "endless and", when(containsItselfTwice()), when(containsItselfTwice()), true)
	checkEqual(t, "endless not and endless and", when(containsItself()), when(containsItselfTwice()), false)
	checkEqual(t, "endless and finite", when(containsItself()), when(nots(50, always())), false)
	checkEqual(t, "an endless part", when(both(always(), containsItself())), when(both(always(), containsItself())), true)
	checkEqual(t, "an endless part and others", when(both(containsItself(), fact("a"))), when(both(containsItself(), fact("b"))), false)
	checkEqual(t, "others before an endless part", when(both(fact("a"), containsItself())), when(both(fact("b"), containsItself())), false)
	checkEqual(t, "loops of 2 and 3", when(loopOf(2, 0)), when(loopOf(3, 0)), true)
	checkEqual(t, "loops of 3 and 3 with a day", when(loopOf(3, 1)), when(loopOf(3, 1)), true)
	checkEqual(t, "loops of 3 and 6 with a day", when(loopOf(3, 1)), when(loopOf(6, 1)), false)
	checkEqual(t, "loops of 30 and 31 with a day", when(loopOf(30, 1)), when(loopOf(31, 1)), false)
}

// doubled is a CondAnd of two parts that share their parts, and so on count times.
func doubled(count int, leaf impl.Condition) impl.Condition {
	for range count {
		leaf = both(leaf, leaf)
	}
	return leaf
}

func TestLargeInvalidConditionsAreCompared(t *testing.T) {
	deep := func(leaf impl.Condition) impl.Contract { return when(nots(1000000, leaf)) }
	checkEqual(t, "deep", deep(fact("a")), deep(fact("a")), true)
	checkEqual(t, "deep and different", deep(fact("a")), deep(fact("b")), false)
	wide := func(last int) impl.Contract {
		parts := make([]impl.Condition, 100000)
		parts[len(parts)-1].Day = last
		return when(impl.Condition{Op: impl.CondOr, Parts: parts})
	}
	checkEqual(t, "wide", wide(1), wide(1), true)
	checkEqual(t, "wide and different", wide(1), wide(2), false)
	checkEqual(t, "doubled", when(doubled(60, fact("a"))), when(doubled(60, fact("a"))), true)
	checkEqual(t, "doubled and different", when(doubled(60, fact("a"))), when(doubled(60, fact("b"))), false)
	checkEqual(t, "doubled once more", when(doubled(60, fact("a"))), when(doubled(61, fact("a"))), false)
}

func TestPartsOfDifferentLengthInTheSameMemoryAreCompared(t *testing.T) {
	room := []impl.Condition{fact("a"), fact("b"), fact("c")}
	list := impl.Condition{Op: impl.CondAnd, Parts: []impl.Condition{{Op: 9, Parts: room[:2]}, {Op: 9, Parts: room[:3]}}}
	other := impl.Condition{Op: impl.CondAnd, Parts: []impl.Condition{{Op: 9, Parts: room[:2]}, {Op: 9, Parts: []impl.Condition{fact("a"), fact("b"), fact("d")}}}}
	checkEqual(t, "the same", when(list), when(deepCopy(list)), true)
	checkEqual(t, "the third part", when(list), when(other), false)
	first := impl.Condition{Op: impl.CondAnd, Parts: []impl.Condition{{Op: 9, Parts: room[:3]}, {Op: 9, Parts: room[:2]}}}
	same := slices.Clone(room)
	same[2] = fact("d")
	second := impl.Condition{Op: impl.CondAnd, Parts: []impl.Condition{{Op: 9, Parts: same[:3]}, {Op: 9, Parts: same[:2]}}}
	checkEqual(t, "the third part, after the same two", when(first), when(second), false)
}

// askAll calls every function of the chapter with a contract.
func askAll(c impl.Contract) {
	impl.IsValidContract(c)
	impl.DependentClauses(c)
	impl.FactNames(c)
	impl.EqualContracts(c, c)
	for party := range len(c.Parties) {
		impl.ClausesOf(c, party, 0)
	}
	for i := range c.Clauses {
		impl.ClauseNumber(c, c.Clauses[i].Id)
		impl.RepairChain(c, i)
		impl.AddClause(c, c.Clauses[i])
		impl.RemoveClause(c, c.Clauses[i].Id)
	}
	impl.AddClause(c, duty("new", c.Clauses[0].Id))
}

func TestContractsStayAsTheyAre(t *testing.T) {
	for _, c := range append(randomContracts(500), sale()) {
		before := deepCopyContract(c)
		askAll(c)
		if !reflect.DeepEqual(c, before) {
			t.Fatalf("changed: %+v", before)
		}
	}
	x := clauseOf(impl.Power, "new")
	x.When = both(fact("a"), not(from(3)))
	before := deepCopy(x.When)
	impl.AddClause(sale(), x)
	if !reflect.DeepEqual(x.When, before) {
		t.Errorf("changed: %+v", x)
	}
}

func TestElementsBeyondTheLengthAreNotTouched(t *testing.T) {
	room := impl.Contract{Parties: append(manyParties(2), "UNUSED", "UNUSED"), Clauses: append(manyDuties(3), make([]impl.Clause, 3)...)}
	before := deepCopyContract(room)
	c := impl.Contract{Parties: room.Parties[:2], Clauses: room.Clauses[:3]}
	checkValid(t, "with room", c, true)
	checkEqual(t, "with room and without", c, contractOf(manyDuties(3)...), true)
	askAll(c)
	if longer, ok := impl.AddClause(c, duty("new", "c0")); !ok || len(longer.Clauses) != 4 {
		t.Errorf("AddClause = %+v, %v", longer, ok)
	}
	if shorter, ok := impl.RemoveClause(c, "c0"); !ok || len(shorter.Clauses) != 2 {
		t.Errorf("RemoveClause = %+v, %v", shorter, ok)
	}
	if !reflect.DeepEqual(room, before) {
		t.Errorf("changed: %+v", room)
	}
}

func TestContractsAreReturnedInMemoryOfTheirOwn(t *testing.T) {
	x := clauseOf(impl.Power, "new")
	x.When = both(fact("sent"), not(fact("paid")))
	for name, change := range map[string]func(c impl.Contract, x impl.Clause) (impl.Contract, bool){
		"AddClause":    func(c impl.Contract, x impl.Clause) (impl.Contract, bool) { return impl.AddClause(c, x) },
		"RemoveClause": func(c impl.Contract, x impl.Clause) (impl.Contract, bool) { return impl.RemoveClause(c, "seize") },
	} {
		c, y := sale(), x
		y.When = deepCopy(x.When)
		got, ok := change(c, y)
		kept := deepCopyContract(got)
		spoilContract(c)
		spoil(y.When)
		if !ok || !reflect.DeepEqual(got, kept) {
			t.Errorf("%s keeps its argument", name)
		}
		c, y = sale(), x
		y.When = deepCopy(x.When)
		got, _ = change(c, y)
		spoilContract(got)
		if !reflect.DeepEqual(c, sale()) || !reflect.DeepEqual(y.When, x.When) {
			t.Errorf("%s gives its argument away", name)
		}
	}
}

func TestClausesThatShareAConditionAreReturnedApart(t *testing.T) {
	shared := both(fact("a"), not(fact("b")))
	c := contractOf(manyDuties(3)...)
	for i := range c.Clauses {
		c.Clauses[i].When = shared
	}
	x := duty("new", "")
	x.When = shared
	longer, _ := impl.AddClause(c, x)
	shorter, _ := impl.RemoveClause(c, "c1")
	for name, got := range map[string]impl.Contract{"AddClause": longer, "RemoveClause": shorter} {
		spoil(got.Clauses[0].When)
		for _, y := range got.Clauses[1:] {
			if modelText(y.When) != "(a and not b)" {
				t.Errorf("%s: two clauses share their condition", name)
			}
		}
	}
}

func TestListsOfAContractAreNew(t *testing.T) {
	c := sale()
	for range 2 {
		dependent, _ := impl.DependentClauses(c)
		clauses, _ := impl.ClausesOf(c, 0, 0)
		names, _ := impl.FactNames(c)
		chain, _, _ := impl.RepairChain(c, 8)
		if !slices.Equal(dependent, []int{1, 6, 7}) || !slices.Equal(clauses, []int{0, 1, 2, 3}) || len(names) != 9 || names[0] != "audit" || !slices.Equal(chain, []int{8, 7, 1}) {
			t.Fatalf("%v, %v, %v, %v", dependent, clauses, names, chain)
		}
		dependent[0], clauses[0], names[0], chain[0] = 99, 99, "spoiled", 99
	}
	if !reflect.DeepEqual(c, sale()) {
		t.Error("changed by a list")
	}
}
