package tests

import (
	"math"
	"math/rand"
	"slices"
	"strconv"
	"strings"
	"testing"

	"loop.example/g00902/impl"
)

const (
	open   = impl.DutyOpen
	done   = impl.DutyDone
	broken = impl.DutyBroken
	ended  = impl.DutyEnded
)

// notStatuses are no statuses of duties.
var notStatuses = []int{0, 5, -1, -4, 6, 1<<32 + 1, math.MaxInt, math.MinInt}

// written is the contract of buyer, seller and bank with these lines.
func written(t *testing.T, lines ...string) impl.Contract {
	t.Helper()
	c, ok := impl.ParseContract("parties buyer seller bank\n" + strings.Join(lines, "\n") + "\n")
	if !ok {
		t.Fatalf("no contract: %q", lines)
	}
	return c
}

// on is an event without an Amount.
func on(day int, party int, action string) impl.Event {
	return impl.Event{Day: day, Party: party, Action: action}
}

// paying is an event with an Amount.
func paying(day int, party int, action string, amount int) impl.Event {
	return impl.Event{Day: day, Party: party, Action: action, Amount: amount}
}

// stateOf is a state of three parties without payments.
func stateOf(day int, facts []string, duties ...impl.Duty) impl.State {
	return impl.State{Day: day, Facts: facts, Duties: slices.Clone(duties), Balances: []int{0, 0, 0}}
}

// edit is a copy of s that was changed.
func edit(s impl.State, change func(s *impl.State)) impl.State {
	s = deepCopyState(s)
	change(&s)
	return s
}

// deepCopyState is a state without memory in common with s.
func deepCopyState(s impl.State) impl.State {
	s.Facts, s.Duties, s.Balances = slices.Clone(s.Facts), slices.Clone(s.Duties), slices.Clone(s.Balances)
	return s
}

// sameState compares all fields.
func sameState(a impl.State, b impl.State) bool {
	return a.Day == b.Day && a.Over == b.Over && slices.Equal(a.Facts, b.Facts) && slices.Equal(a.Duties, b.Duties) && slices.Equal(a.Balances, b.Balances)
}

// isZeroState reports whether s is the zero State, with any empty slices.
func isZeroState(s impl.State) bool { return sameState(s, impl.State{}) }

// checkIsState checks the state that a call returned.
func checkIsState(t *testing.T, call string, c impl.Contract, got impl.State, ok bool, want impl.State) {
	t.Helper()
	if !ok || !sameState(got, want) {
		t.Errorf("%s = %+v, %v, not %+v", call, got, ok, want)
	}
	if !impl.IsValidState(c, got) || !impl.EqualStates(got, want) {
		t.Errorf("%s: IsValidState(%+v) = %v, EqualStates = %v", call, got, impl.IsValidState(c, got), impl.EqualStates(got, want))
	}
}

// checkIsNoState checks that a call returned no state.
func checkIsNoState(t *testing.T, call string, got impl.State, ok bool) {
	t.Helper()
	if ok || !isZeroState(got) {
		t.Errorf("%s = %+v, %v", call, got, ok)
	}
}

// checkStart checks the state in which a contract starts, and returns it.
func checkStart(t *testing.T, c impl.Contract, day int, want impl.State) impl.State {
	t.Helper()
	got, ok := impl.StartState(c, day)
	checkIsState(t, "StartState("+strconv.Itoa(day)+")", c, got, ok, want)
	return want
}

// checkAdvance checks the state on a later day, and returns it.
func checkAdvance(t *testing.T, c impl.Contract, s impl.State, want impl.State) impl.State {
	t.Helper()
	got, ok := impl.AdvanceState(c, s, want.Day)
	checkIsState(t, "AdvanceState("+strconv.Itoa(want.Day)+")", c, got, ok, want)
	return want
}

// checkApply checks the effect of an event and the state after it, and returns the state.
func checkApply(t *testing.T, c impl.Contract, s impl.State, e impl.Event, effect int, want impl.State) impl.State {
	t.Helper()
	got, gotEffect, ok := impl.ApplyEvent(c, s, e)
	checkIsState(t, "ApplyEvent("+e.Action+")", c, got, ok, want)
	if gotEffect != effect {
		t.Errorf("ApplyEvent(%+v) has the effect %d, not %d", e, gotEffect, effect)
	}
	return want
}

// checkNoAdvance checks that a state cannot be advanced to a day.
func checkNoAdvance(t *testing.T, c impl.Contract, s impl.State, day int) {
	t.Helper()
	got, ok := impl.AdvanceState(c, s, day)
	checkIsNoState(t, "AdvanceState("+strconv.Itoa(day)+")", got, ok)
}

// checkNoApply checks that an event cannot be applied.
func checkNoApply(t *testing.T, c impl.Contract, s impl.State, e impl.Event) {
	t.Helper()
	got, effect, ok := impl.ApplyEvent(c, s, e)
	checkIsNoState(t, "ApplyEvent", got, ok)
	if effect != 0 {
		t.Errorf("ApplyEvent(%+v) has the effect %d", e, effect)
	}
}

// modelMachine executes a contract in the words of the document. Whether it failed shows in its
// state, as duties are never removed and a step has at most one payment.
type modelMachine struct {
	c impl.Contract
	s impl.State
}

func newModelMachine(c impl.Contract, s impl.State) *modelMachine {
	return &modelMachine{c: c, s: deepCopyState(s)}
}

func (m *modelMachine) holds(clause int) bool {
	return modelHolds(m.c.Clauses[clause].When, m.s.Facts, m.s.Day)
}

func (m *modelMachine) activate(clause int) {
	d := impl.Duty{Clause: clause, Since: m.s.Day, Due: m.s.Day + m.c.Clauses[clause].Within, Status: open}
	m.s.Duties = append(m.s.Duties, d)
}

func (m *modelMachine) settle() {
	active := map[int]bool{}
	for _, d := range m.s.Duties {
		active[d.Clause] = true
	}
	for i, x := range m.c.Clauses {
		if x.Kind == impl.Obligation && !slices.Contains(modelDependent(m.c), i) && !active[i] && m.holds(i) {
			m.activate(i)
		}
	}
}

func (m *modelMachine) trigger(clause int) {
	for i, x := range m.c.Clauses {
		if x.Id == m.c.Clauses[clause].Repair && m.holds(i) {
			m.activate(i)
		}
	}
}

func (m *modelMachine) begin(day int) {
	m.s.Day = day
	if m.s.Over {
		return
	}
	late := []int{}
	for i, d := range m.s.Duties {
		if d.Status == open && d.Due < day {
			late = append(late, i)
		}
	}
	for _, i := range late {
		m.s.Duties[i].Status = broken
		m.trigger(m.s.Duties[i].Clause)
	}
	m.settle()
}

func (m *modelMachine) advance(day int) bool {
	if day < m.s.Day || day-m.s.Day > impl.MaxAdvance || day > impl.MaxDay {
		return false
	}
	for m.s.Day < day && m.isSound() {
		m.begin(m.s.Day + 1)
	}
	return m.isSound()
}

// isSound reports whether nothing failed.
func (m *modelMachine) isSound() bool {
	for _, d := range m.s.Duties {
		if d.Due > impl.MaxDay {
			return false
		}
	}
	for _, balance := range m.s.Balances {
		if balance > impl.MaxMoney || balance < -impl.MaxMoney {
			return false
		}
	}
	return len(m.s.Duties) <= impl.MaxDuties
}

// holding are the clauses with this Kind, Party and Action whose When holds.
func (m *modelMachine) holding(kind int, party int, action string) []int {
	list := []int{}
	for i, x := range m.c.Clauses {
		if x.Kind == kind && x.Party == party && x.Action == action && m.holds(i) {
			list = append(list, i)
		}
	}
	return list
}

func (m *modelMachine) isForbidden(party int, action string) bool {
	return len(m.holding(impl.Prohibition, party, action)) > 0 && len(m.holding(impl.Permission, party, action)) == 0
}

func (m *modelMachine) performed(e impl.Event) int {
	return slices.IndexFunc(m.s.Duties, func(d impl.Duty) bool {
		x := m.c.Clauses[d.Clause]
		return d.Status == open && x.Party == e.Party && x.Action == e.Action && x.Amount == e.Amount
	})
}

func (m *modelMachine) effect(e impl.Event) int {
	if i := m.performed(e); i >= 0 {
		m.s.Duties[i].Status = done
		m.s.Balances[e.Party] -= e.Amount
		m.s.Balances[m.c.Clauses[m.s.Duties[i].Clause].Other] += e.Amount
		return impl.EffectPerformed
	}
	if m.isForbidden(e.Party, e.Action) {
		m.trigger(m.holding(impl.Prohibition, e.Party, e.Action)[0])
		return impl.EffectBreach
	}
	powers := m.holding(impl.Power, e.Party, e.Action)
	if len(powers) == 0 {
		return impl.EffectFree
	}
	if m.c.Clauses[powers[0]].Repair != "" {
		m.trigger(powers[0])
		return impl.EffectPower
	}
	m.s.Over = true
	for i, d := range m.s.Duties {
		if d.Status == open {
			m.s.Duties[i].Status = ended
		}
	}
	return impl.EffectPower
}

func (m *modelMachine) execute(e impl.Event) int {
	if m.s.Over {
		return impl.EffectLate
	}
	effect := m.effect(e)
	for _, name := range modelFactNames(m.c) {
		if name == e.Action {
			m.s.Facts = append(m.s.Facts, name)
		}
	}
	slices.Sort(m.s.Facts)
	m.s.Facts = slices.Compact(m.s.Facts)
	if !m.s.Over {
		m.settle()
	}
	return effect
}

// modelFactNames are the names that a contract contains as Actions and in its conditions.
func modelFactNames(c impl.Contract) []string {
	names := []string{}
	for _, x := range c.Clauses {
		names = append(append(names, x.Action), modelNames(x.When)...)
	}
	slices.Sort(names)
	return slices.Compact(names)
}

// modelStart, modelAdvance and modelApply are the operations of the model.
func modelStart(c impl.Contract, day int) (impl.State, bool) {
	m := newModelMachine(c, impl.State{Day: day, Balances: make([]int, len(c.Parties))})
	m.settle()
	return m.s, m.isSound()
}

func modelAdvance(c impl.Contract, s impl.State, day int) (impl.State, bool) {
	m := newModelMachine(c, s)
	ok := m.advance(day)
	return m.s, ok
}

func modelApply(c impl.Contract, s impl.State, e impl.Event) (impl.State, int, bool) {
	m := newModelMachine(c, s)
	if !m.advance(e.Day) {
		return m.s, 0, false
	}
	effect := m.execute(e)
	return m.s, effect, m.isSound()
}

// stateFaults are the demands that a state does not fulfil for a valid contract.
func stateFaults(c impl.Contract, s impl.State) []string {
	faults := []string{}
	demand := func(fulfilled bool, name string) {
		if !fulfilled {
			faults = append(faults, name)
		}
	}
	isDay := func(day int) bool { return day >= 0 && day <= impl.MaxDay }
	demand(isDay(s.Day), "Day")
	demand(len(s.Facts) <= impl.MaxFacts, "number of Facts")
	for i, name := range s.Facts {
		demand(slices.Contains(modelFactNames(c), name), "Facts of FactNames")
		demand(i == 0 || s.Facts[i-1] < name, "order of Facts")
	}
	demand(len(s.Duties) <= impl.MaxDuties, "number of Duties")
	times := map[int]int{}
	for i, d := range s.Duties {
		demand(i == 0 || s.Duties[i-1].Since <= d.Since, "order of Duties")
		demand(d.Since >= 0 && d.Since <= s.Day, "Since")
		demand(d.Status >= open && d.Status <= ended, "Status")
		demand(d.Status != open || !s.Over && d.Due >= s.Day, "open")
		demand(d.Status != broken || d.Due < s.Day, "broken")
		demand(d.Status != ended || s.Over, "ended")
		if d.Clause < 0 || d.Clause >= len(c.Clauses) || c.Clauses[d.Clause].Kind != impl.Obligation {
			demand(false, "Clause")
			continue
		}
		demand(isDay(d.Due) && d.Due-d.Since == c.Clauses[d.Clause].Within, "Due")
		times[d.Clause]++
		demand(times[d.Clause] == 1 || slices.Contains(modelDependent(c), d.Clause), "one duty")
	}
	demand(len(s.Balances) == len(c.Parties), "number of Balances")
	sum := 0
	for _, balance := range s.Balances {
		demand(balance >= -impl.MaxMoney && balance <= impl.MaxMoney, "amount")
		sum += balance
	}
	demand(sum == 0, "sum")
	return faults
}

// trade is a contract with an obligation to pay for what was sent, a penalty, a ban on reselling
// before the payment, and a power of the seller that depends on the payment.
func trade(t *testing.T) impl.Contract {
	return written(t,
		"pay: buyer must paid for seller paying 1.00 within 5 days when sent else late",
		"late: buyer must penalty for bank paying 0.50 within 2 days when true",
		"ban: buyer must not resold against seller when not paid else late",
		"cancel: seller can cancel toward buyer when not paid",
		"claim: seller can claim toward buyer when paid then late",
	)
}

func TestAContractIsExecutedFromItsStartToItsEnd(t *testing.T) {
	c := trade(t)
	s := checkStart(t, c, 3, stateOf(3, nil))
	s = checkApply(t, c, s, on(3, 1, "sent"), impl.EffectFree, stateOf(3, []string{"sent"}, impl.Duty{Clause: 0, Since: 3, Due: 8, Status: open}))
	sent := s
	s = checkApply(t, c, s, on(4, 0, "resold"), impl.EffectBreach, stateOf(4, []string{"resold", "sent"}, impl.Duty{Clause: 0, Since: 3, Due: 8, Status: open}, impl.Duty{Clause: 1, Since: 4, Due: 6, Status: open}))
	s = checkApply(t, c, s, paying(6, 0, "penalty", 50), impl.EffectPerformed, impl.State{
		Day: 6, Facts: []string{"penalty", "resold", "sent"}, Balances: []int{-50, 0, 50},
		Duties: []impl.Duty{{Clause: 0, Since: 3, Due: 8, Status: open}, {Clause: 1, Since: 4, Due: 6, Status: done}},
	})
	s = checkApply(t, c, s, paying(8, 0, "paid", 100), impl.EffectPerformed, impl.State{
		Day: 8, Facts: []string{"paid", "penalty", "resold", "sent"}, Balances: []int{-150, 100, 50},
		Duties: []impl.Duty{{Clause: 0, Since: 3, Due: 8, Status: done}, {Clause: 1, Since: 4, Due: 6, Status: done}},
	})
	s = checkApply(t, c, s, on(8, 1, "cancel"), impl.EffectFree, edit(s, func(s *impl.State) { s.Facts = append([]string{"cancel"}, s.Facts...) }))
	s = checkApply(t, c, s, on(9, 1, "claim"), impl.EffectPower, edit(s, func(s *impl.State) {
		s.Day = 9
		s.Facts = []string{"cancel", "claim", "paid", "penalty", "resold", "sent"}
		s.Duties = append(s.Duties, impl.Duty{Clause: 1, Since: 9, Due: 11, Status: open})
	}))
	checkAdvance(t, c, s, edit(s, func(s *impl.State) { s.Day, s.Duties[2].Status = 12, broken }))

	over := checkApply(t, c, sent, on(5, 1, "cancel"), impl.EffectPower, impl.State{
		Day: 5, Facts: []string{"cancel", "sent"}, Balances: []int{0, 0, 0}, Over: true, Duties: []impl.Duty{{Clause: 0, Since: 3, Due: 8, Status: ended}},
	})
	checkApply(t, c, over, paying(20, 0, "paid", 100), impl.EffectLate, edit(over, func(s *impl.State) { s.Day = 20 }))
}

func TestADutyIsOpenOnItsDayAndBrokenOnTheNext(t *testing.T) {
	for _, within := range []int{0, 1, 2, 5, 100, impl.MaxWithin} {
		c := written(t, "pay: buyer must paid for seller paying 1.00 within "+strconv.Itoa(within)+" days when true else late", "late: buyer must penalty for seller within 3 days when true")
		start, due := 10, 10+within
		s := checkStart(t, c, start, stateOf(start, nil, impl.Duty{Clause: 0, Since: start, Due: due, Status: open}))
		for _, day := range []int{start, due - 1, due} {
			if day < start {
				continue
			}
			checkAdvance(t, c, s, stateOf(day, nil, impl.Duty{Clause: 0, Since: start, Due: due, Status: open}))
			checkApply(t, c, s, paying(day, 0, "paid", 100), impl.EffectPerformed, impl.State{
				Day: day, Facts: []string{"paid"}, Duties: []impl.Duty{{Clause: 0, Since: start, Due: due, Status: done}}, Balances: []int{-100, 100, 0},
			})
		}
		for _, after := range []int{1, 2, 4} {
			duties := []impl.Duty{{Clause: 0, Since: start, Due: due, Status: broken}, {Clause: 1, Since: due + 1, Due: due + 4, Status: open}}
			checkAdvance(t, c, s, stateOf(due+after, nil, duties...))
			checkApply(t, c, s, paying(due+after, 0, "paid", 100), impl.EffectFree, stateOf(due+after, []string{"paid"}, duties...))
		}
	}
}

func TestDutiesThatBecomeDueOnTheDayOfAnEvent(t *testing.T) {
	c := written(t,
		"early: buyer must one for seller within 3 days when true else fine",
		"today: buyer must two for seller within 4 days when true else fine",
		"next: buyer must three for seller within 5 days when true else fine",
		"fine: buyer must four for seller within 0 days when true",
	)
	s, _ := impl.StartState(c, 0)
	duties := []impl.Duty{{Clause: 0, Due: 3, Status: broken}, {Clause: 1, Due: 4, Status: open}, {Clause: 2, Due: 5, Status: open}, {Clause: 3, Since: 4, Due: 4, Status: open}}
	checkApply(t, c, s, on(4, 1, "wait"), impl.EffectFree, stateOf(4, nil, duties...))
	checkApply(t, c, s, on(4, 0, "one"), impl.EffectFree, stateOf(4, []string{"one"}, duties...))
	for i, action := range map[int]string{1: "two", 2: "three", 3: "four"} {
		after := slices.Clone(duties)
		after[i].Status = done
		checkApply(t, c, s, on(4, 0, action), impl.EffectPerformed, stateOf(4, []string{action}, after...))
	}
	// A duty that was done on its last day is not broken on the next one.
	s, _, _ = impl.ApplyEvent(c, s, on(4, 0, "two"))
	after := []impl.Duty{{Clause: 0, Due: 3, Status: broken}, {Clause: 1, Due: 4, Status: done}, {Clause: 2, Due: 5, Status: open}, {Clause: 3, Since: 4, Due: 4, Status: broken}}
	checkAdvance(t, c, s, stateOf(5, []string{"two"}, after...))
}

func TestDutiesThatBreakOnOneDayTriggerTheirRepairsInOrder(t *testing.T) {
	c := written(t,
		"last: buyer must one for seller within 2 days when from 2000-01-04 else fine",
		"mid: seller must two for buyer within 4 days when from 2000-01-02 else ban",
		"first: bank must three for buyer within 5 days when true else fine",
		"alone: bank must three for buyer within 5 days when true",
		"ban: seller must four for buyer within 1 days when true",
		"new: seller must six for buyer within 9 days when from 2000-01-07",
		"fine: buyer must five for seller within 0 days when true",
	)
	s := checkStart(t, c, 0, stateOf(0, nil, impl.Duty{Clause: 2, Due: 5, Status: open}, impl.Duty{Clause: 3, Due: 5, Status: open}))
	duties := []impl.Duty{{Clause: 2, Due: 5, Status: open}, {Clause: 3, Due: 5, Status: open}, {Clause: 1, Since: 1, Due: 5, Status: open}, {Clause: 0, Since: 3, Due: 5, Status: open}}
	checkAdvance(t, c, s, stateOf(5, nil, duties...))
	for i := range duties {
		duties[i].Status = broken
	}
	// The repairs stand in the order of the broken duties, and before what is settled on the day.
	duties = append(duties, impl.Duty{Clause: 6, Since: 6, Due: 6, Status: open}, impl.Duty{Clause: 4, Since: 6, Due: 7, Status: open}, impl.Duty{Clause: 6, Since: 6, Due: 6, Status: open}, impl.Duty{Clause: 5, Since: 6, Due: 15, Status: open})
	checkAdvance(t, c, s, stateOf(6, nil, duties...))
}

func TestChainsOfRepairs(t *testing.T) {
	c := written(t,
		"a: buyer must act for seller within 0 days when true else b",
		"b: buyer must act for seller within 0 days when true else d",
		"d: seller must act for buyer within 1 days when true else e",
		"e: bank must act for buyer within 2 days when true",
	)
	s := checkStart(t, c, 7, stateOf(7, nil, impl.Duty{Clause: 0, Since: 7, Due: 7, Status: open}))
	all := []impl.Duty{{Clause: 0, Since: 7, Due: 7}, {Clause: 1, Since: 8, Due: 8}, {Clause: 2, Since: 9, Due: 10}, {Clause: 3, Since: 11, Due: 13}}
	for day := 7; day < 20; day++ {
		duties := []impl.Duty{}
		for _, d := range all {
			d.Status = open
			if d.Due < day {
				d.Status = broken
			}
			if d.Since <= day {
				duties = append(duties, d)
			}
		}
		checkAdvance(t, c, s, stateOf(day, nil, duties...))
	}
	// A repair that is performed ends the chain.
	performed := []impl.Duty{{Clause: 0, Since: 7, Due: 7, Status: broken}, {Clause: 1, Since: 8, Due: 8, Status: done}}
	s = checkApply(t, c, s, on(8, 0, "act"), impl.EffectPerformed, stateOf(8, []string{"act"}, performed...))
	checkAdvance(t, c, s, stateOf(30, []string{"act"}, performed...))
}

func TestDependentClausesAreOnlyTriggered(t *testing.T) {
	for _, source := range []string{
		"pay: buyer must paid for seller within 3 days when false else fine",
		"ban: buyer must not act against seller when true else fine",
		"claim: seller can claim toward buyer when true then fine",
	} {
		fine := "fine: buyer must penalty for seller within 2 days when true"
		for _, lines := range [][]string{{source, fine}, {fine, source}} {
			c := written(t, lines...)
			s := checkStart(t, c, 0, stateOf(0, nil))
			s = checkAdvance(t, c, s, stateOf(50, nil))
			s = checkApply(t, c, s, on(50, 2, "penalty"), impl.EffectFree, stateOf(50, []string{"penalty"}))
			checkAdvance(t, c, s, stateOf(99, []string{"penalty"}))
		}
	}
	alone := written(t, "fine: buyer must penalty for seller within 2 days when true")
	checkStart(t, alone, 0, stateOf(0, nil, impl.Duty{Clause: 0, Due: 2, Status: open}))
}

func TestADependentClauseMayHaveSeveralDuties(t *testing.T) {
	c := written(t, "ban: buyer must not tell against seller when true else fine", "fine: buyer must penalty for bank paying 2.00 within 3 days when true", "claim: seller can claim toward buyer when true then fine")
	s, _ := impl.StartState(c, 0)
	s = checkApply(t, c, s, on(0, 0, "tell"), impl.EffectBreach, stateOf(0, []string{"tell"}, impl.Duty{Clause: 1, Due: 3, Status: open}))
	s = checkApply(t, c, s, on(0, 0, "tell"), impl.EffectBreach, stateOf(0, []string{"tell"}, impl.Duty{Clause: 1, Due: 3, Status: open}, impl.Duty{Clause: 1, Due: 3, Status: open}))
	s = checkApply(t, c, s, on(2, 1, "claim"), impl.EffectPower, stateOf(2, []string{"claim", "tell"}, impl.Duty{Clause: 1, Due: 3, Status: open}, impl.Duty{Clause: 1, Due: 3, Status: open}, impl.Duty{Clause: 1, Since: 2, Due: 5, Status: open}))
	facts := []string{"claim", "penalty", "tell"}
	s = checkApply(t, c, s, paying(3, 0, "penalty", 200), impl.EffectPerformed, impl.State{
		Day: 3, Facts: facts, Balances: []int{-200, 0, 200},
		Duties: []impl.Duty{{Clause: 1, Due: 3, Status: done}, {Clause: 1, Due: 3, Status: open}, {Clause: 1, Since: 2, Due: 5, Status: open}},
	})
	s = checkApply(t, c, s, paying(4, 0, "penalty", 200), impl.EffectPerformed, impl.State{
		Day: 4, Facts: facts, Balances: []int{-400, 0, 400},
		Duties: []impl.Duty{{Clause: 1, Due: 3, Status: done}, {Clause: 1, Due: 3, Status: broken}, {Clause: 1, Since: 2, Due: 5, Status: done}},
	})
	checkApply(t, c, s, paying(4, 0, "penalty", 200), impl.EffectFree, s)
}

func TestARepairWhoseWhenDoesNotHoldIsNotActivated(t *testing.T) {
	for _, x := range []struct {
		when  string
		facts []string
		want  bool
	}{
		{"true", nil, true}, {"not true", nil, false}, {"proof", nil, false}, {"proof", []string{"proof"}, true}, {"not proof", []string{"proof"}, false},
		{"from 2000-01-06", nil, true}, {"from 2000-01-07", nil, false}, {"not from 2000-01-06", nil, false}, {"not from 2000-01-07", nil, true},
		{"(from 2000-01-06 and not from 2000-01-07)", nil, true},
	} {
		c := written(t, "pay: buyer must paid for seller within 4 days when true else late", "late: buyer must penalty for seller within 9 days when "+x.when)
		s := stateOf(0, x.facts, impl.Duty{Clause: 0, Due: 4, Status: open})
		if x.when != "proof" && x.when != "not proof" {
			s = checkStart(t, c, 0, s)
		}
		duties := []impl.Duty{{Clause: 0, Due: 4, Status: broken}}
		if x.want {
			duties = append(duties, impl.Duty{Clause: 1, Since: 5, Due: 14, Status: open})
		}
		// It is asked on the day of the trigger alone, and not later.
		checkAdvance(t, c, s, stateOf(5, x.facts, duties...))
		checkAdvance(t, c, s, stateOf(14, x.facts, duties...))
		checkApply(t, c, s, on(5, 2, "proof"), impl.EffectFree, stateOf(5, withFact(c, x.facts, "proof"), duties...))
	}
}

// withFact is a fact list with one more name, if the contract has it.
func withFact(c impl.Contract, facts []string, name string) []string {
	if !slices.Contains(modelFactNames(c), name) || slices.Contains(facts, name) {
		return facts
	}
	return append(slices.Clone(facts), name)
}

func TestConditionsOnDaysBetweenTwoEvents(t *testing.T) {
	c := written(t,
		"begins: buyer must one for seller within 2 days when from 2000-01-11",
		"ends: buyer must two for seller within 50 days when not from 2000-01-11",
		"day: seller must three for buyer within 0 days when (from 2000-01-16 and not from 2000-01-17) else fine",
		"never: seller must four for buyer within 0 days when (from 2000-01-17 and not from 2000-01-16)",
		"ban: buyer must not act against seller when (from 2000-01-11 and not from 2000-01-16)",
		"can: seller can end toward buyer when (from 2000-01-11 and not from 2000-01-16)",
		"may: buyer may act for seller when (from 2000-01-13 and not from 2000-01-14)",
		"fine: seller must five for buyer within 2 days when from 2000-01-17",
	)
	early, ends := impl.Duty{Clause: 1, Due: 50, Status: open}, impl.Duty{Clause: 0, Since: 10, Due: 12, Status: open}
	s := checkStart(t, c, 0, stateOf(0, nil, early))
	checkAdvance(t, c, s, stateOf(9, nil, early))
	checkAdvance(t, c, s, stateOf(10, nil, early, ends))
	late := ends
	late.Status = broken
	checkAdvance(t, c, s, stateOf(14, nil, early, late))
	checkAdvance(t, c, s, stateOf(15, nil, early, late, impl.Duty{Clause: 2, Since: 15, Due: 15, Status: open}))
	day := impl.Duty{Clause: 2, Since: 15, Due: 15, Status: broken}
	checkAdvance(t, c, s, stateOf(18, nil, early, late, day, impl.Duty{Clause: 7, Since: 16, Due: 18, Status: open}))
	// The days between two events count, although nothing happens on them.
	checkApply(t, c, s, on(19, 2, "other"), impl.EffectFree, stateOf(19, nil, early, late, day, impl.Duty{Clause: 7, Since: 16, Due: 18, Status: broken}))
	// A contract that starts later does not have the duty that was possible only before.
	checkStart(t, c, 10, stateOf(10, nil, ends))
	checkStart(t, c, 17, stateOf(17, nil, impl.Duty{Clause: 0, Since: 17, Due: 19, Status: open}))
	for day := range 20 {
		effect := impl.EffectFree
		if day >= 10 && day < 15 && day != 12 {
			effect = impl.EffectBreach
		}
		if _, got, ok := impl.ApplyEvent(c, s, on(day, 0, "act")); !ok || got != effect {
			t.Errorf("act on day %d: %d, %v", day, got, ok)
		}
		after, got, ok := impl.ApplyEvent(c, s, on(day, 1, "end"))
		if isOver := day >= 10 && day < 15; !ok || after.Over != isOver || (got == impl.EffectPower) != isOver {
			t.Errorf("end on day %d: %+v, %d, %v", day, after, got, ok)
		}
	}
}

func TestADutyStaysWhenItsConditionEnds(t *testing.T) {
	c := written(t, "pay: buyer must paid for seller within 20 days when (not sent and not from 2000-01-06)", "act: seller may sent for buyer when true")
	s, _ := impl.StartState(c, 0)
	duties := []impl.Duty{{Clause: 0, Due: 20, Status: open}}
	s = checkApply(t, c, s, on(1, 1, "sent"), impl.EffectFree, stateOf(1, []string{"sent"}, duties...))
	s = checkAdvance(t, c, s, stateOf(20, []string{"sent"}, duties...))
	duties[0].Status = done
	s = checkApply(t, c, s, on(20, 0, "paid"), impl.EffectPerformed, stateOf(20, []string{"paid", "sent"}, duties...))
	checkApply(t, c, s, on(20, 0, "paid"), impl.EffectFree, s)
}

func TestTheFirstOfSeveralOpenDutiesIsDone(t *testing.T) {
	c := written(t,
		"third: buyer must act for seller paying 0.05 within 5 days when from 2000-01-03",
		"first: buyer must act for bank paying 0.05 within 9 days when true",
		"other: buyer must act for bank paying 0.04 within 9 days when true",
		"second: buyer must act for seller paying 0.05 within 2 days when from 2000-01-02",
		"bank: bank must act for seller paying 0.05 within 9 days when true",
	)
	s, _ := impl.StartState(c, 0)
	duties := []impl.Duty{{Clause: 1, Due: 9, Status: open}, {Clause: 2, Due: 9, Status: open}, {Clause: 4, Due: 9, Status: open}, {Clause: 3, Since: 1, Due: 3, Status: open}, {Clause: 0, Since: 2, Due: 7, Status: open}}
	s = checkAdvance(t, c, s, stateOf(2, nil, duties...))
	balances := [][]int{{-5, 0, 5}, {-10, 5, 5}, {-15, 10, 5}}
	for i, k := range []int{0, 3, 4} {
		duties[k].Status = done
		s = checkApply(t, c, s, paying(3, 0, "act", 5), impl.EffectPerformed, impl.State{Day: 3, Facts: []string{"act"}, Duties: slices.Clone(duties), Balances: balances[i]})
	}
	s = checkApply(t, c, s, paying(3, 0, "act", 5), impl.EffectFree, s)
	duties[1].Status = done
	s = checkApply(t, c, s, paying(3, 0, "act", 4), impl.EffectPerformed, impl.State{Day: 3, Facts: []string{"act"}, Duties: slices.Clone(duties), Balances: []int{-19, 10, 9}})
	checkApply(t, c, s, paying(3, 0, "act", 4), impl.EffectFree, s)
	// A broken duty is passed over.
	s, _ = impl.StartState(c, 0)
	s, _, _ = impl.ApplyEvent(c, s, paying(4, 0, "act", 5))
	s, _, _ = impl.ApplyEvent(c, s, paying(4, 0, "act", 5))
	if want := []int{done, open, open, broken, done}; !slices.Equal(statusesOf(s), want) {
		t.Errorf("statuses %v", statusesOf(s))
	}
}

// statusesOf are the statuses of the duties of a state.
func statusesOf(s impl.State) []int {
	list := []int{}
	for _, d := range s.Duties {
		list = append(list, d.Status)
	}
	return list
}

func TestOnlyTheRightEventPerformsADuty(t *testing.T) {
	for _, amount := range []int{0, 1, 100, impl.MaxPrice} {
		c := contractOf(duty("pay", ""))
		c.Parties = manyParties(3)
		c.Clauses[0].Amount, c.Clauses[0].Party, c.Clauses[0].Other = amount, 1, 2
		s, ok := impl.StartState(c, 0)
		if !ok {
			t.Fatal("no start")
		}
		performed := impl.State{Facts: []string{"act"}, Duties: []impl.Duty{{Status: done}}, Balances: []int{0, -amount, amount}}
		free := impl.State{Facts: []string{"act"}, Duties: []impl.Duty{{Status: open}}, Balances: []int{0, 0, 0}}
		for _, paid := range []int{0, 1, 2, 99, 100, 101, impl.MaxPrice - 1, impl.MaxPrice} {
			for party := range 3 {
				if paid == amount && party == 1 {
					checkApply(t, c, s, paying(0, party, "act", paid), impl.EffectPerformed, performed)
				} else {
					checkApply(t, c, s, paying(0, party, "act", paid), impl.EffectFree, free)
				}
			}
		}
		for _, action := range []string{"ac", "acts", "other", "pay"} {
			checkApply(t, c, s, paying(0, 1, action, amount), impl.EffectFree, edit(free, func(s *impl.State) { s.Facts = nil }))
		}
	}
}

func TestAnEventThatPerformsADutyIsNoBreachAndNoPower(t *testing.T) {
	c := written(t,
		"ban: buyer must not act against seller when true else fine",
		"end: buyer can act toward seller when true",
		"act: buyer must act for seller within 5 days when true",
		"fine: buyer must penalty for seller within 5 days when true",
	)
	s, _ := impl.StartState(c, 0)
	s = checkApply(t, c, s, on(1, 0, "act"), impl.EffectPerformed, stateOf(1, []string{"act"}, impl.Duty{Clause: 2, Due: 5, Status: done}))
	s = checkApply(t, c, s, on(1, 0, "act"), impl.EffectBreach, stateOf(1, []string{"act"}, impl.Duty{Clause: 2, Due: 5, Status: done}, impl.Duty{Clause: 3, Since: 1, Due: 6, Status: open}))
	// With another Amount the duty is not performed, and the ban does not ask for the Amount.
	s, _ = impl.StartState(c, 0)
	checkApply(t, c, s, paying(1, 0, "act", 7), impl.EffectBreach, stateOf(1, []string{"act"}, impl.Duty{Clause: 2, Due: 5, Status: open}, impl.Duty{Clause: 3, Since: 1, Due: 6, Status: open}))
}

func TestProhibitionsAndPermissions(t *testing.T) {
	ban := "ban: buyer must not act against seller when true else fine"
	fine := "fine: buyer must penalty for seller within 5 days when true"
	for _, x := range []struct {
		permission string
		breach     bool
	}{
		{"may: buyer may act for seller when true", false},
		{"may: buyer may act for bank when true", false},
		{"may: buyer may act for seller when not true", true},
		{"may: buyer may act for seller when from 2000-01-04", false},
		{"may: buyer may act for seller when from 2000-01-05", true},
		{"may: buyer may act for seller when not from 2000-01-04", true},
		{"may: buyer may act for seller when not from 2000-01-05", false},
		{"may: buyer may act for seller when waived", true},
		{"may: buyer may act for seller when not waived", false},
		{"may: seller may act for buyer when true", true},
		{"may: bank may act for seller when true", true},
		{"may: buyer may acts for seller when true", true},
		{"may: buyer may penalty for seller when true", true},
	} {
		for _, lines := range [][]string{{ban, x.permission, fine}, {x.permission, fine, ban}} {
			c := written(t, lines...)
			s, _ := impl.StartState(c, 0)
			s, _ = impl.AdvanceState(c, s, 3)
			want := stateOf(3, []string{"act"})
			effect := impl.EffectFree
			if x.breach {
				repair, _ := impl.ClauseNumber(c, "fine")
				effect, want.Duties = impl.EffectBreach, []impl.Duty{{Clause: repair, Since: 3, Due: 8, Status: open}}
			}
			for _, amount := range []int{0, 100} {
				checkApply(t, c, s, paying(3, 0, "act", amount), effect, want)
			}
			if forbidden, ok := impl.IsForbidden(c, s, 0, "act"); !ok || forbidden != x.breach {
				t.Errorf("%s: IsForbidden = %v, %v", x.permission, forbidden, ok)
			}
			for party := 1; party < 3; party++ {
				checkApply(t, c, s, on(3, party, "act"), impl.EffectFree, stateOf(3, []string{"act"}))
			}
		}
	}
	twoPermissions := written(t, "no: buyer may act for seller when not true", ban, fine, "yes: buyer may act for seller when true")
	s, _ := impl.StartState(twoPermissions, 0)
	checkApply(t, twoPermissions, s, on(0, 0, "act"), impl.EffectFree, stateOf(0, []string{"act"}))
}

// repairsOf are the clauses of the duties that an event adds to the state in which a contract
// starts.
func repairsOf(t *testing.T, c impl.Contract, e impl.Event, effect int) []int {
	t.Helper()
	s, _ := impl.StartState(c, 0)
	after, got, ok := impl.ApplyEvent(c, s, e)
	if !ok || got != effect {
		t.Errorf("ApplyEvent(%+v) = %d, %v, not %d", e, got, ok, effect)
	}
	list := []int{}
	for _, d := range after.Duties[len(s.Duties):] {
		list = append(list, d.Clause)
	}
	return list
}

func TestTheFirstProhibitionThatHoldsCounts(t *testing.T) {
	for _, x := range []struct {
		first, second string
		repairs       []int
	}{
		{"true else one", "true else two", []int{2}},
		{"not true else one", "true else two", []int{3}},
		{"true else one", "not true else two", []int{2}},
		{"true", "true else two", nil},
		{"not true", "true else two", []int{3}},
		{"act else one", "not act else two", []int{3}},
		{"true else one", "true", []int{2}},
		{"true", "true", nil},
		{"true else two", "true else two", []int{3}},
	} {
		c := written(t,
			"x: buyer must not act against seller when "+x.first, "y: buyer must not act against bank when "+x.second,
			"one: buyer must pone for seller within 5 days when true", "two: buyer must ptwo for seller within 5 days when true",
			"o: bank must not none against buyer when true else one", "p: bank must not none against buyer when true else two",
		)
		if repairs := repairsOf(t, c, on(0, 0, "act"), impl.EffectBreach); !slices.Equal(repairs, x.repairs) {
			t.Errorf("%s, %s: repairs %v", x.first, x.second, repairs)
		}
	}
}

func TestTheFirstPowerThatHoldsCounts(t *testing.T) {
	for _, x := range []struct {
		first, second string
		repairs       []int
		over          bool
	}{
		{"true then one", "true then two", []int{2}, false},
		{"not true then one", "true then two", []int{3}, false},
		{"true then one", "true", []int{2}, false},
		{"true", "true then two", nil, true},
		{"not true", "true then two", []int{3}, false},
		{"not true then one", "true", nil, true},
		{"act then one", "not act then two", []int{3}, false},
	} {
		c := written(t,
			"x: buyer can act toward seller when "+x.first, "y: buyer can act toward bank when "+x.second,
			"one: buyer must pone for seller within 5 days when true", "two: buyer must ptwo for seller within 5 days when true",
			"o: bank can none toward buyer when true then one", "p: bank can none toward buyer when true then two",
		)
		if repairs := repairsOf(t, c, on(0, 0, "act"), impl.EffectPower); !slices.Equal(repairs, x.repairs) {
			t.Errorf("%s, %s: repairs %v", x.first, x.second, repairs)
		}
		s, _ := impl.StartState(c, 0)
		want := 0
		if strings.HasPrefix(x.first, "not true") || strings.HasPrefix(x.first, "act") {
			want = 1
		}
		if i, ok := impl.PowerFor(c, s, 0, "act"); !ok || i != want {
			t.Errorf("%s, %s: PowerFor = %d, %v", x.first, x.second, i, ok)
		}
		if after, _, _ := impl.ApplyEvent(c, s, on(0, 0, "act")); after.Over != x.over {
			t.Errorf("%s, %s: Over = %v", x.first, x.second, after.Over)
		}
	}
}

func TestProhibitionsComeBeforePowers(t *testing.T) {
	power, ban, may := "end: buyer can act toward seller when true", "ban: buyer must not act against seller when not free", "may: buyer may act for seller when ok"
	c := written(t, power, ban, may)
	s, _ := impl.StartState(c, 0)
	checkApply(t, c, s, on(0, 0, "act"), impl.EffectBreach, stateOf(0, []string{"act"}))
	over := func(facts ...string) impl.State {
		return edit(stateOf(0, facts), func(s *impl.State) { s.Over = true })
	}
	checkApply(t, c, stateOf(0, []string{"ok"}), on(0, 0, "act"), impl.EffectPower, over("act", "ok"))
	checkApply(t, c, stateOf(0, []string{"free"}), on(0, 0, "act"), impl.EffectPower, over("act", "free"))
	checkApply(t, c, s, on(0, 1, "act"), impl.EffectFree, stateOf(0, []string{"act"}))
	// The power stays one while the action is forbidden.
	if i, ok := impl.PowerFor(c, s, 0, "act"); !ok || i != 0 {
		t.Errorf("PowerFor = %d, %v", i, ok)
	}
	if i, ok := impl.PowerFor(c, s, 1, "act"); !ok || i != -1 {
		t.Errorf("PowerFor of the seller = %d, %v", i, ok)
	}
}

func TestARepairIsTriggeredBeforeTheActionIsKnown(t *testing.T) {
	for _, source := range []string{"x: buyer must not act against seller when true else fine", "x: buyer can act toward seller when true then fine"} {
		effect := impl.EffectBreach
		if strings.Contains(source, "can") {
			effect = impl.EffectPower
		}
		after := written(t, source, "fine: buyer must penalty for seller within 5 days when act")
		s, _ := impl.StartState(after, 0)
		s = checkApply(t, after, s, on(0, 0, "act"), effect, stateOf(0, []string{"act"}))
		checkApply(t, after, s, on(0, 0, "act"), effect, stateOf(0, []string{"act"}, impl.Duty{Clause: 1, Due: 5, Status: open}))
		before := written(t, source, "fine: buyer must penalty for seller within 5 days when not act")
		s, _ = impl.StartState(before, 0)
		s = checkApply(t, before, s, on(0, 0, "act"), effect, stateOf(0, []string{"act"}, impl.Duty{Clause: 1, Due: 5, Status: open}))
		checkApply(t, before, s, on(0, 0, "act"), effect, s)
	}
	once := written(t, "ban: buyer must not act against seller when not act", "end: buyer can act toward seller when act")
	s, _ := impl.StartState(once, 0)
	s = checkApply(t, once, s, on(0, 0, "act"), impl.EffectBreach, stateOf(0, []string{"act"}))
	checkApply(t, once, s, on(0, 0, "act"), impl.EffectPower, edit(s, func(s *impl.State) { s.Over = true }))
}

func TestAPowerWithoutARepairEndsTheContract(t *testing.T) {
	c := written(t,
		"end: seller can cancel toward buyer when true",
		"done: buyer must one for seller paying 0.01 within 5 days when true",
		"late: buyer must two for seller within 1 days when true else fine",
		"open: bank must three for seller within 9 days when true",
		"fine: buyer must four for bank within 2 days when true else more",
		"more: buyer must five for bank within 2 days when true",
		"react: seller must refund for buyer within 2 days when cancel",
	)
	s, _ := impl.StartState(c, 0)
	s, _, _ = impl.ApplyEvent(c, s, paying(0, 0, "one", 1))
	over := checkApply(t, c, s, on(3, 1, "cancel"), impl.EffectPower, impl.State{
		Day: 3, Facts: []string{"cancel", "one"}, Balances: []int{-1, 1, 0}, Over: true,
		Duties: []impl.Duty{{Clause: 1, Due: 5, Status: done}, {Clause: 2, Due: 1, Status: broken}, {Clause: 3, Due: 9, Status: ended}, {Clause: 4, Since: 2, Due: 4, Status: ended}},
	})
	for _, e := range []impl.Event{paying(3, 0, "one", 1), on(3, 0, "four"), on(4, 0, "four"), on(3, 1, "cancel"), on(9, 2, "three"), on(1003, 1, "refund"), paying(100, 2, "none", 5)} {
		checkApply(t, c, over, e, impl.EffectLate, edit(over, func(s *impl.State) { s.Day = e.Day }))
	}
	for _, day := range []int{3, 4, 5, 10, 500, 3 + impl.MaxAdvance} {
		checkAdvance(t, c, over, edit(over, func(s *impl.State) { s.Day = day }))
	}
	for _, e := range []impl.Event{on(2, 1, "cancel"), on(4+impl.MaxAdvance, 1, "cancel"), on(3, 3, "cancel"), on(3, 1, "it"), paying(3, 1, "cancel", -1)} {
		checkNoApply(t, c, over, e)
	}
}

func TestActionsBecomeKnownIfTheContractNamesThem(t *testing.T) {
	c := written(t,
		"p: buyer must may for seller within 5 days when dd",
		"q: buyer must not kk against seller when (gg or not from 2000-01-03)",
		"r: buyer may nn for seller when not pp",
		"s: buyer can rr toward seller when tt",
	)
	names := []string{"dd", "gg", "kk", "may", "nn", "pp", "rr", "tt"}
	if got, _ := impl.FactNames(c); !slices.Equal(got, names) {
		t.Fatalf("FactNames = %v", got)
	}
	others := []string{"a", "d", "ddd", "buyer", "p", "q", "zz", "from1"}
	random := rand.New(rand.NewSource(9))
	for range 200 {
		s, _ := impl.StartState(c, 5)
		known := []string{}
		for _, i := range random.Perm(len(names)) {
			if names[i] == "rr" && slices.Contains(known, "tt") {
				continue
			}
			known = append(known, names[i])
			slices.Sort(known)
			for range 2 {
				s, _, _ = impl.ApplyEvent(c, s, paying(5, random.Intn(3), names[i], random.Intn(3)))
				other, effect, ok := impl.ApplyEvent(c, s, on(5, random.Intn(3), others[random.Intn(len(others))]))
				if !slices.Equal(s.Facts, known) || !ok || effect != impl.EffectFree || !sameState(other, s) {
					t.Fatalf("Facts %v, not %v; after another action %+v", s.Facts, known, other)
				}
			}
		}
	}
}

func TestTheNameOfAnActionSettlesOnTheSameDay(t *testing.T) {
	c := written(t,
		"free: seller must one for buyer within 3 days when ffact",
		"perf: buyer must two for seller paying 1.00 within 3 days when true",
		"aperf: seller must three for buyer within 0 days when (two and from 2000-01-01)",
		"ban: buyer must not bad against seller when true else fine",
		"fine: buyer must four for seller within 1 days when true",
		"aban: seller must five for buyer within 2 days when bad",
		"can: bank can use toward seller when true then fine",
		"acan: seller must six for buyer within 1 days when use",
		"end: bank can stop toward seller when true",
		"aend: seller must seven for buyer within 1 days when stop",
		"later: seller must eight for buyer within 1 days when (ffact and from 2000-01-09)",
	)
	start := impl.Duty{Clause: 1, Due: 3, Status: open}
	s := checkStart(t, c, 0, stateOf(0, nil, start))
	free := checkApply(t, c, s, on(2, 2, "ffact"), impl.EffectFree, stateOf(2, []string{"ffact"}, start, impl.Duty{Clause: 0, Since: 2, Due: 5, Status: open}))
	checkApply(t, c, free, on(2, 2, "ffact"), impl.EffectFree, free)
	checkApply(t, c, s, paying(2, 0, "two", 100), impl.EffectPerformed, impl.State{
		Day: 2, Facts: []string{"two"}, Balances: []int{-100, 100, 0},
		Duties: []impl.Duty{{Clause: 1, Due: 3, Status: done}, {Clause: 2, Since: 2, Due: 2, Status: open}},
	})
	checkApply(t, c, s, on(2, 0, "bad"), impl.EffectBreach, stateOf(2, []string{"bad"}, start, impl.Duty{Clause: 4, Since: 2, Due: 3, Status: open}, impl.Duty{Clause: 5, Since: 2, Due: 4, Status: open}))
	checkApply(t, c, s, on(2, 2, "use"), impl.EffectPower, stateOf(2, []string{"use"}, start, impl.Duty{Clause: 4, Since: 2, Due: 3, Status: open}, impl.Duty{Clause: 7, Since: 2, Due: 3, Status: open}))
	ending := stateOf(2, []string{"stop"}, impl.Duty{Clause: 1, Due: 3, Status: ended})
	ending.Over = true
	checkApply(t, c, s, on(2, 2, "stop"), impl.EffectPower, ending)
	// On a later day the event finds the day begun, with the facts before it.
	checkApply(t, c, free, on(8, 2, "use"), impl.EffectPower, stateOf(8, []string{"ffact", "use"},
		impl.Duty{Clause: 1, Due: 3, Status: broken}, impl.Duty{Clause: 0, Since: 2, Due: 5, Status: broken}, impl.Duty{Clause: 10, Since: 8, Due: 9, Status: open},
		impl.Duty{Clause: 4, Since: 8, Due: 9, Status: open}, impl.Duty{Clause: 7, Since: 8, Due: 9, Status: open}))
}

func TestAnyActionSettles(t *testing.T) {
	// The state is valid although its contract would have settled: that is made up for by the
	// next event or the next day, and not by advancing to the same day.
	c := written(t, "pay: buyer must paid for seller within 3 days when true", "send: seller must sent for buyer within 2 days when not paid")
	s := stateOf(5, nil)
	checkAdvance(t, c, s, s)
	duties := func(day int) []impl.Duty {
		return []impl.Duty{{Clause: 0, Since: day, Due: day + 3, Status: open}, {Clause: 1, Since: day, Due: day + 2, Status: open}}
	}
	checkApply(t, c, s, on(5, 2, "none"), impl.EffectFree, stateOf(5, nil, duties(5)...))
	checkApply(t, c, s, on(5, 2, "sent"), impl.EffectFree, stateOf(5, []string{"sent"}, duties(5)...))
	checkApply(t, c, s, on(5, 2, "paid"), impl.EffectFree, stateOf(5, []string{"paid"}, duties(5)[0]))
	checkAdvance(t, c, s, stateOf(6, nil, duties(6)...))
	checkApply(t, c, s, on(6, 2, "paid"), impl.EffectFree, stateOf(6, []string{"paid"}, duties(6)...))
}

// counter is a contract in which one duty is added on every day, from day 0 on.
func counter(t *testing.T) impl.Contract {
	return written(t, "a: buyer must one for seller within 0 days when true else b", "b: buyer must two for seller within 0 days when true else d", "d: buyer must three for seller within 0 days when true else b",
		"ban: seller must not bad against buyer when true else d", "can: seller can use toward buyer when true then b", "end: bank can stop toward buyer when true",
		"aaa: seller must go for buyer within 0 days when fact", "may: seller may fact for buyer when true")
}

func TestThereAreAtMostMaxDuties(t *testing.T) {
	c := counter(t)
	s, _ := impl.StartState(c, 0)
	for day := range impl.MaxDuties {
		got, ok := impl.AdvanceState(c, s, day)
		if !ok || len(got.Duties) != day+1 || !impl.IsValidState(c, got) {
			t.Errorf("day %d: %+v, %v", day, got, ok)
		}
	}
	for _, day := range []int{impl.MaxDuties, impl.MaxDuties + 1, 100, impl.MaxAdvance} {
		checkNoAdvance(t, c, s, day)
		checkNoApply(t, c, s, on(day, 2, "none"))
		checkNoApply(t, c, s, on(day, 2, "stop"))
	}
	for count, adding := range map[int]bool{impl.MaxDuties - 2: true, impl.MaxDuties - 1: true, impl.MaxDuties: false} {
		s, _ := impl.AdvanceState(c, s, count-1)
		for action, party := range map[string]int{"bad": 1, "use": 1, "fact": 0, "stop": 2, "none": 2} {
			got, _, ok := impl.ApplyEvent(c, s, on(count-1, party, action))
			adds := action != "stop" && action != "none"
			if want := adding || !adds; ok != want || !want && !isZeroState(got) {
				t.Errorf("%s with %d duties: %+v, %v", action, count, got, ok)
			}
			if ok && adds != (len(got.Duties) == count+1) {
				t.Errorf("%s with %d duties: %d duties", action, count, len(got.Duties))
			}
		}
	}
	// An event on the last day with room may perform the duty that would have been broken.
	s, _ = impl.AdvanceState(c, s, impl.MaxDuties-1)
	s, effect, ok := impl.ApplyEvent(c, s, on(impl.MaxDuties-1, 0, "two"))
	if !ok || effect != impl.EffectPerformed {
		t.Fatalf("two: %d, %v", effect, ok)
	}
	checkAdvance(t, c, s, edit(s, func(s *impl.State) { s.Day = 900 }))
}

func TestTwoDutiesOfOneEventFillTheList(t *testing.T) {
	c := written(t, "ban: seller must not bad against buyer when true else fine", "fine: seller must one for buyer within 5 days when true", "aban: seller must two for buyer within 5 days when bad", "a: seller can one toward buyer when true then fine")
	for count := impl.MaxDuties - 3; count <= impl.MaxDuties; count++ {
		s := stateOf(3, nil, slices.Repeat([]impl.Duty{{Clause: 1, Since: 3, Due: 8, Status: done}}, count)...)
		want := edit(s, func(s *impl.State) {
			s.Facts = []string{"bad"}
			s.Duties = append(s.Duties, impl.Duty{Clause: 1, Since: 3, Due: 8, Status: open}, impl.Duty{Clause: 2, Since: 3, Due: 8, Status: open})
		})
		if count+2 <= impl.MaxDuties {
			checkApply(t, c, s, on(3, 1, "bad"), impl.EffectBreach, want)
		} else {
			checkNoApply(t, c, s, on(3, 1, "bad"))
		}
	}
}

func TestADueIsADay(t *testing.T) {
	const within = 10
	last := impl.MaxDay - within
	plain := written(t, "pay: buyer must paid for seller within 10 days when true")
	checkStart(t, plain, last, stateOf(last, nil, impl.Duty{Since: last, Due: impl.MaxDay, Status: open}))
	for _, day := range []int{last + 1, last + 2, impl.MaxDay} {
		got, ok := impl.StartState(plain, day)
		checkIsNoState(t, "StartState", got, ok)
	}
	// The duty is added by settling after an event, by a ban, by a power, by a broken duty, and
	// by settling on a new day.
	c := written(t,
		"sett: buyer must one for seller within 10 days when fact", "ban: buyer must not bad against seller when true else fine", "can: buyer can use toward seller when true then fine",
		"fine: buyer must two for seller within 10 days when true", "soon: buyer must three for seller within 0 days when go else fine",
		"day: buyer must four for seller within 10 days when from 2099-12-29",
	)
	for action, effect := range map[string]int{"fact": impl.EffectFree, "bad": impl.EffectBreach, "use": impl.EffectPower} {
		s := stateOf(last-3, nil)
		clause := 3
		if action == "fact" {
			clause = 0
		}
		checkApply(t, c, s, on(last, 0, action), effect, stateOf(last, withFact(c, nil, action), impl.Duty{Clause: clause, Since: last, Due: impl.MaxDay, Status: open}))
		checkNoApply(t, c, s, on(last+1, 0, action))
	}
	s := stateOf(last-3, []string{"go"}, impl.Duty{Clause: 4, Since: last - 3, Due: last - 3, Status: open})
	checkAdvance(t, c, s, stateOf(last, s.Facts, impl.Duty{Clause: 4, Since: last - 3, Due: last - 3, Status: broken}, impl.Duty{Clause: 3, Since: last - 2, Due: impl.MaxDay - 2, Status: open}))
	s = stateOf(last, []string{"go"}, impl.Duty{Clause: 4, Since: last, Due: last, Status: open})
	checkNoAdvance(t, c, s, last+1)
	checkNoApply(t, c, s, on(last+1, 2, "none"))
	checkAdvance(t, c, stateOf(last, nil), stateOf(impl.MaxDay-3, nil))
	for day := impl.MaxDay - 2; day <= impl.MaxDay; day++ {
		checkNoAdvance(t, c, stateOf(last, nil), day)
	}
	// A duty whose Due is the last day is never broken.
	s = checkAdvance(t, plain, stateOf(last, nil, impl.Duty{Since: last, Due: impl.MaxDay, Status: open}), stateOf(impl.MaxDay, nil, impl.Duty{Since: last, Due: impl.MaxDay, Status: open}))
	checkNoAdvance(t, plain, s, impl.MaxDay+1)
	checkApply(t, plain, s, on(impl.MaxDay, 0, "paid"), impl.EffectPerformed, stateOf(impl.MaxDay, []string{"paid"}, impl.Duty{Since: last, Due: impl.MaxDay, Status: done}))
}

func TestBalancesAreAmounts(t *testing.T) {
	c := written(t, "pay: buyer must paid for seller paying 100.00 within 10 days when true")
	const price = 10000
	for _, x := range []struct {
		balances []int
		ok       bool
	}{
		{[]int{0, 0, 0}, true},
		{[]int{0, impl.MaxMoney - price, price - impl.MaxMoney}, true},
		{[]int{0, impl.MaxMoney - price + 1, price - impl.MaxMoney - 1}, false},
		{[]int{0, impl.MaxMoney, -impl.MaxMoney}, false},
		{[]int{price - impl.MaxMoney, 0, impl.MaxMoney - price}, true},
		{[]int{price - impl.MaxMoney - 1, 0, impl.MaxMoney - price + 1}, false},
		{[]int{-impl.MaxMoney, 0, impl.MaxMoney}, false},
		{[]int{price - impl.MaxMoney, impl.MaxMoney - price, 0}, true},
		{[]int{price - impl.MaxMoney - 1, impl.MaxMoney - price + 1, 0}, false},
		{[]int{-impl.MaxMoney, impl.MaxMoney, 0}, false},
		{[]int{impl.MaxMoney, -impl.MaxMoney, 0}, true},
	} {
		s := impl.State{Day: 4, Duties: []impl.Duty{{Since: 3, Due: 13, Status: open}}, Balances: x.balances}
		if !impl.IsValidState(c, s) {
			t.Errorf("IsValidState(%v) = false", x.balances)
		}
		want := impl.State{Day: 5, Facts: []string{"paid"}, Duties: []impl.Duty{{Since: 3, Due: 13, Status: done}}, Balances: []int{x.balances[0] - price, x.balances[1] + price, x.balances[2]}}
		if x.ok {
			checkApply(t, c, s, paying(5, 0, "paid", price), impl.EffectPerformed, want)
		} else {
			checkNoApply(t, c, s, paying(5, 0, "paid", price))
		}
		// Another event and time change no balance.
		checkApply(t, c, s, paying(5, 0, "paid", price-1), impl.EffectFree, edit(s, func(s *impl.State) { s.Day, s.Facts = 5, []string{"paid"} }))
		checkAdvance(t, c, s, edit(s, func(s *impl.State) { s.Day, s.Duties[0].Status = 20, broken }))
	}
}

func TestDaysToAdvanceTo(t *testing.T) {
	c := written(t, "pay: buyer must paid for seller within 400 days when from 2003-01-01")
	for _, over := range []bool{false, true} {
		for _, day := range []int{0, 1, 50, 5000, impl.MaxDay - impl.MaxAdvance, impl.MaxDay - impl.MaxAdvance + 1, impl.MaxDay - 1, impl.MaxDay} {
			s := impl.State{Day: day, Over: over, Balances: []int{0, 0, 0}}
			if day > 1000 && !over {
				s.Duties = []impl.Duty{{Since: 1096, Due: 1496, Status: done}}
			}
			for _, days := range []int{0, 1, 2, impl.MaxAdvance - 1, impl.MaxAdvance} {
				want := edit(s, func(s *impl.State) { s.Day += days })
				if want.Day > impl.MaxDay {
					checkNoAdvance(t, c, s, want.Day)
					checkNoApply(t, c, s, on(want.Day, 1, "none"))
					continue
				}
				effect := impl.EffectFree
				if over {
					effect = impl.EffectLate
				}
				checkAdvance(t, c, s, want)
				checkApply(t, c, s, on(want.Day, 1, "none"), effect, want)
			}
			for _, other := range append([]int{day - 1, day + impl.MaxAdvance + 1, day - impl.MaxAdvance, day + 2*impl.MaxAdvance}, notDays...) {
				checkNoAdvance(t, c, s, other)
				checkNoApply(t, c, s, on(other, 1, "none"))
			}
		}
	}
}

func TestContractsStartOnDays(t *testing.T) {
	for _, c := range []impl.Contract{trade(t), counter(t)} {
		for _, day := range notDays {
			got, ok := impl.StartState(c, day)
			checkIsNoState(t, "StartState", got, ok)
		}
		for _, day := range []int{0, 1, 1000, impl.MaxDay} {
			want, _ := modelStart(c, day)
			checkStart(t, c, day, want)
		}
	}
}

func TestEventsOfStatesAreValid(t *testing.T) {
	c := trade(t)
	s, _ := impl.StartState(c, 5)
	for name, e := range oddEvents() {
		if e.Party == impl.MaxParties-1 {
			t.Errorf("%s is not odd", name)
		}
		checkNoApply(t, c, s, e)
	}
	for party := -1; party < 6; party++ {
		for count := 2; count <= impl.MaxParties; count++ {
			c := contractOf(clauseOf(impl.Permission, "may"))
			c.Parties = manyParties(count)
			s, _ := impl.StartState(c, 5)
			if party >= 0 && party < count {
				checkApply(t, c, s, on(5, party, "act"), impl.EffectFree, impl.State{Day: 5, Facts: []string{"act"}, Balances: make([]int, count)})
			} else {
				checkNoApply(t, c, s, on(5, party, "act"))
			}
		}
	}
}

// demandsOfStates are edits of the state fullState that break one demand each.
func demandsOfStates() map[string]func(s *impl.State) {
	edits := map[string]func(s *impl.State){
		"a Day before the Sinces":  func(s *impl.State) { s.Day = 1 },
		"a Day before":             func(s *impl.State) { s.Day = 5 },
		"a Day later":              func(s *impl.State) { s.Day = 8 },
		"Facts descend":            func(s *impl.State) { s.Facts = []string{"sent", "paid"} },
		"a Fact twice":             func(s *impl.State) { s.Facts = []string{"paid", "paid", "sent"} },
		"a Fact of other names":    func(s *impl.State) { s.Facts = []string{"paid", "sentt"} },
		"a Fact that is a party":   func(s *impl.State) { s.Facts = []string{"buyer", "paid"} },
		"a Fact that is an Id":     func(s *impl.State) { s.Facts = []string{"ban", "paid"} },
		"a Fact that is no name":   func(s *impl.State) { s.Facts = []string{"paid", "true"} },
		"an empty Fact":            func(s *impl.State) { s.Facts = []string{"", "paid"} },
		"a million Facts":          func(s *impl.State) { s.Facts = make([]string, 1000000) },
		"25 Duties":                func(s *impl.State) { s.Duties = append(s.Duties, manyFines(impl.MaxDuties+1-len(s.Duties))...) },
		"a million Duties":         func(s *impl.State) { s.Duties = manyFines(1000000) },
		"Sinces descend":           func(s *impl.State) { s.Duties[1], s.Duties[2] = s.Duties[2], s.Duties[1] },
		"the last Since descends":  func(s *impl.State) { s.Duties[3] = impl.Duty{Clause: 1, Since: 2, Due: 5, Status: done} },
		"a Duty of a prohibition":  func(s *impl.State) { s.Duties[3].Clause, s.Duties[3].Due = 3, s.Duties[3].Since },
		"a Duty of a power":        func(s *impl.State) { s.Duties[3].Clause, s.Duties[3].Due = 4, s.Duties[3].Since },
		"a Duty of a permission":   func(s *impl.State) { s.Duties[3].Clause, s.Duties[3].Due = 5, s.Duties[3].Since },
		"Since after Day":          func(s *impl.State) { s.Duties[3].Since, s.Duties[3].Due = 8, 11 },
		"Since before day 0":       func(s *impl.State) { s.Duties[0].Since, s.Duties[0].Due = -1, 4 },
		"Due too early":            func(s *impl.State) { s.Duties[3].Due-- },
		"Due too late":             func(s *impl.State) { s.Duties[3].Due++ },
		"Due of another clause":    func(s *impl.State) { s.Duties[3].Clause = 0 },
		"an overdue Duty is open":  func(s *impl.State) { s.Duties[1].Status = open },
		"a broken Duty is not due": func(s *impl.State) { s.Duties[3].Status = broken },
		"due today and broken":     func(s *impl.State) { s.Duties[2].Status = broken },
		"an ended Duty":            func(s *impl.State) { s.Duties[3].Status = ended },
		"Over with open Duties":    func(s *impl.State) { s.Over = true },
		"two Duties of a clause":   func(s *impl.State) { s.Duties = append(s.Duties, impl.Duty{Clause: 6, Since: 7, Due: 7, Status: open}) },
		"no Balances":              func(s *impl.State) { s.Balances = nil },
		"two Balances":             func(s *impl.State) { s.Balances = []int{100, -100} },
		"four Balances":            func(s *impl.State) { s.Balances = append(s.Balances, 0) },
		"a million Balances":       func(s *impl.State) { s.Balances = make([]int, 1000000) },
		"great Balances":           func(s *impl.State) { s.Balances = []int{impl.MaxMoney + 1, -impl.MaxMoney, -1} },
		"small Balances":           func(s *impl.State) { s.Balances = []int{1, impl.MaxMoney, -impl.MaxMoney - 1} },
		"Balances that wrap":       func(s *impl.State) { s.Balances = []int{math.MinInt, math.MinInt, 0} },
		"Balances add up to 1":     func(s *impl.State) { s.Balances[2]++ },
		"Balances add up to -1":    func(s *impl.State) { s.Balances[0]-- },
		"the zero State":           func(s *impl.State) { *s = impl.State{} },
	}
	for _, day := range notDays {
		edits["Day "+strconv.Itoa(day)] = func(s *impl.State) { s.Day = day }
		edits["Day without duties "+strconv.Itoa(day)] = func(s *impl.State) { s.Day, s.Duties = day, nil }
		edits["Since "+strconv.Itoa(day)] = func(s *impl.State) { s.Duties[0].Since = day }
		edits["Since with its Due "+strconv.Itoa(day)] = func(s *impl.State) { s.Duties[0].Since, s.Duties[0].Due = day, day+3 }
		edits["Due "+strconv.Itoa(day)] = func(s *impl.State) { s.Duties[0].Due = day }
	}
	for _, clause := range []int{-1, 7, 8, 12, math.MinInt, math.MaxInt, 1 << 32} {
		edits["Clause "+strconv.Itoa(clause)] = func(s *impl.State) { s.Duties[3].Clause = clause }
	}
	for _, status := range notStatuses {
		edits["Status "+strconv.Itoa(status)] = func(s *impl.State) { s.Duties[3].Status = status }
	}
	return edits
}

// manyFines are duties of the dependent clause of the contract of fullState.
func manyFines(count int) []impl.Duty {
	return slices.Repeat([]impl.Duty{{Clause: 1, Since: 7, Due: 10, Status: open}}, count)
}

// fullState is a state with duties of all kinds, and its contract.
func fullState(t *testing.T) (impl.Contract, impl.State) {
	c := written(t,
		"pay: buyer must paid for seller paying 1.00 within 5 days when sent else fine",
		"fine: buyer must penalty for bank within 3 days when true",
		"send: seller must sent for buyer within 3 days when true else fine",
		"ban: buyer must not resold against seller when not paid else fine",
		"can: seller can cancel toward buyer when not paid",
		"may: buyer may resold for seller when waived",
		"now: seller must sign for buyer within 0 days when (paid and from 2000-01-08)",
	)
	return c, impl.State{
		Day: 7, Facts: []string{"paid", "sent"}, Balances: []int{-100, 100, 0},
		Duties: []impl.Duty{{Clause: 2, Since: 3, Due: 6, Status: done}, {Clause: 1, Since: 3, Due: 6, Status: broken}, {Clause: 6, Since: 7, Due: 7, Status: open}, {Clause: 1, Since: 7, Due: 10, Status: open}},
	}
}

// checkNoAnswers checks that all functions reject a contract with a state.
func checkNoAnswers(t *testing.T, name string, c impl.Contract, s impl.State) {
	t.Helper()
	if impl.IsValidState(c, s) {
		t.Errorf("%s: IsValidState = true", name)
	}
	for _, day := range []int{0, s.Day, s.Day + 1, 7, 8} {
		checkNoAdvance(t, c, s, day)
		for party := range 2 {
			checkNoApply(t, c, s, on(day, party, "resold"))
			checkNoApply(t, c, s, on(day, party, "cancel"))
		}
	}
	for i := -1; i < 3; i++ {
		if holds, ok := impl.HoldsNow(c, s, i); holds || ok {
			t.Errorf("%s: HoldsNow(%d) = %v, %v", name, i, holds, ok)
		}
		for _, action := range []string{"resold", "cancel", "none", "it"} {
			if forbidden, ok := impl.IsForbidden(c, s, i, action); forbidden || ok {
				t.Errorf("%s: IsForbidden(%d, %s) = %v, %v", name, i, action, forbidden, ok)
			}
			if power, ok := impl.PowerFor(c, s, i, action); power != 0 || ok {
				t.Errorf("%s: PowerFor(%d, %s) = %v, %v", name, i, action, power, ok)
			}
		}
	}
}

func TestEveryDemandOfAStateCounts(t *testing.T) {
	c, s := fullState(t)
	if !impl.IsValidState(c, s) || len(stateFaults(c, s)) > 0 {
		t.Fatalf("IsValidState = %v, faults %v", impl.IsValidState(c, s), stateFaults(c, s))
	}
	for name, change := range demandsOfStates() {
		odd := edit(s, change)
		if len(odd.Facts) < 100 && len(odd.Duties) < 100 && len(stateFaults(c, odd)) == 0 {
			t.Errorf("%s: no fault", name)
		}
		checkNoAnswers(t, name, c, odd)
	}
	// The zero values of a state of fewer parties are not those of more of them.
	for count := 2; count <= impl.MaxParties; count++ {
		for balances := range 7 {
			c := contractOf(clauseOf(impl.Permission, "may"))
			c.Parties = manyParties(count)
			if got := impl.IsValidState(c, impl.State{Balances: make([]int, balances)}); got != (balances == count) {
				t.Errorf("IsValidState with %d balances of %d parties = %v", balances, count, got)
			}
		}
	}
}

func TestValidStatesAtTheirLimits(t *testing.T) {
	c, s := fullState(t)
	for name, change := range map[string]func(s *impl.State){
		"the day before the open duty": func(s *impl.State) { s.Duties = s.Duties[:1]; s.Day = 3 },
		"a later day":                  func(s *impl.State) { s.Duties = s.Duties[:2]; s.Day = impl.MaxDay },
		"no Facts":                     func(s *impl.State) { s.Facts = nil },
		"all Facts": func(s *impl.State) {
			s.Facts = []string{"cancel", "paid", "penalty", "resold", "sent", "sign", "waived"}
		},
		"24 Duties":          func(s *impl.State) { s.Duties = append(s.Duties, manyFines(impl.MaxDuties-len(s.Duties))...) },
		"no Duties":          func(s *impl.State) { s.Duties = nil },
		"a Since of 0":       func(s *impl.State) { s.Duties[0].Since, s.Duties[0].Due = 0, 3 },
		"done before Due":    func(s *impl.State) { s.Duties[3].Status = done },
		"done today":         func(s *impl.State) { s.Duties[2].Status = done },
		"Over, and ended":    func(s *impl.State) { s.Over, s.Duties[2].Status, s.Duties[3].Status = true, ended, ended },
		"Over, and all done": func(s *impl.State) { s.Over, s.Duties[2].Status, s.Duties[3].Status = true, done, done },
		"Over later": func(s *impl.State) {
			s.Over, s.Duties[2].Status, s.Duties[3].Status, s.Day = true, ended, broken, impl.MaxDay
		},
		"great Balances":       func(s *impl.State) { s.Balances = []int{impl.MaxMoney, 0, -impl.MaxMoney} },
		"Due on the last day":  func(s *impl.State) { s.Day, s.Duties = impl.MaxDay-3, dutiesOn(impl.MaxDay-3) },
		"two equal duties":     func(s *impl.State) { s.Duties[2] = s.Duties[3] },
		"any order of clauses": func(s *impl.State) { s.Duties[2], s.Duties[3] = s.Duties[3], s.Duties[2] },
	} {
		even := edit(s, change)
		if got, faults := impl.IsValidState(c, even), stateFaults(c, even); !got || len(faults) > 0 {
			t.Errorf("%s: IsValidState = %v, faults %v", name, got, faults)
		}
		if got, ok := impl.AdvanceState(c, even, even.Day); !ok || !sameState(got, even) {
			t.Errorf("%s: AdvanceState to the same day = %+v, %v", name, got, ok)
		}
	}
	for name, change := range map[string]func(s *impl.State){
		"a Due after the last day":     func(s *impl.State) { s.Day, s.Duties = impl.MaxDay-2, dutiesOn(impl.MaxDay-2) },
		"done, but after the last day": func(s *impl.State) { s.Day, s.Duties = impl.MaxDay, dutiesOn(impl.MaxDay-2); s.Duties[0].Status = done },
		"Over, and after the last day": func(s *impl.State) {
			s.Over, s.Day, s.Duties = true, impl.MaxDay, dutiesOn(impl.MaxDay)
			s.Duties[0].Status = ended
		},
	} {
		checkNoAnswers(t, name, c, edit(s, change))
	}
}

// dutiesOn is an open duty of the dependent clause of the contract of fullState.
func dutiesOn(day int) []impl.Duty {
	return []impl.Duty{{Clause: 1, Since: day, Due: day + 3, Status: open}}
}

func TestFullFactLists(t *testing.T) {
	c := contractOf(clauseOf(impl.Permission, "may"))
	c.Clauses[0].Action, c.Clauses[0].When = manyNames[0], allOf(manyNames[:8], true)
	other := clauseOf(impl.Permission, "too")
	other.Action, other.When = manyNames[0], allOf(manyNames[8:16], true)
	c.Clauses = append(c.Clauses, other)
	if !impl.IsValidContract(c) {
		t.Fatal("no contract")
	}
	s := impl.State{Balances: []int{0, 0}}
	for count := range impl.MaxFacts + 1 {
		s.Facts = manyNames[:count]
		if !impl.IsValidState(c, s) {
			t.Errorf("IsValidState with %d Facts = false", count)
		}
		got, _, ok := impl.ApplyEvent(c, s, on(1, 0, manyNames[min(count, 15)]))
		if !ok || !slices.Equal(got.Facts, manyNames[:min(count+1, 16)]) {
			t.Errorf("Facts %v, %v", got.Facts, ok)
		}
	}
	s.Facts = manyNames
	checkNoAnswers(t, "17 Facts", c, s)
}

func TestInvalidContractsHaveNoStates(t *testing.T) {
	base, _ := impl.StartState(sale(), 7)
	if !impl.IsValidState(sale(), base) {
		t.Fatal("no start")
	}
	for name, c := range invalidContracts() {
		for _, day := range []int{0, 7, -1} {
			got, ok := impl.StartState(c, day)
			checkIsNoState(t, name, got, ok)
		}
		checkNoAnswers(t, name, c, base)
		checkNoAnswers(t, name, c, impl.State{})
		checkNoAnswers(t, name, c, impl.State{Day: 7, Balances: make([]int, len(c.Parties))})
	}
}

func TestWhensThatHoldNow(t *testing.T) {
	c := written(t,
		"a: buyer must one for seller within 400 days when true", "b: buyer must not two against seller when from 2000-01-06", "d: buyer may three for seller when fact", "e: buyer can four toward seller when (fact and not from 2000-01-06)",
		"f: seller must five for buyer within 3 days when not fact else g", "g: seller must six for buyer within 400 days when (fact or from 2000-01-06)",
	)
	for _, x := range []struct {
		facts []string
		day   int
		want  []bool
	}{
		{nil, 4, []bool{true, false, false, false, true, false}},
		{nil, 5, []bool{true, true, false, false, true, true}},
		{[]string{"fact"}, 4, []bool{true, false, true, true, false, true}},
		{[]string{"fact"}, 5, []bool{true, true, true, false, false, true}},
		{[]string{"fact"}, impl.MaxDay, []bool{true, true, true, false, false, true}},
	} {
		for _, over := range []bool{false, true} {
			s := impl.State{Day: x.day, Facts: x.facts, Balances: []int{0, 0, 0}, Over: over}
			for i, want := range x.want {
				if got, ok := impl.HoldsNow(c, s, i); !ok || got != want {
					t.Errorf("HoldsNow(%+v, %d) = %v, %v", s, i, got, ok)
				}
			}
			for _, i := range []int{-1, 6, 7, 100, math.MinInt, math.MaxInt} {
				if got, ok := impl.HoldsNow(c, s, i); ok || got {
					t.Errorf("HoldsNow(%d) = %v, %v", i, got, ok)
				}
			}
		}
	}
}

func TestForbiddenActionsAndPowers(t *testing.T) {
	c := written(t,
		"a: buyer must not act against seller when not paid", "b: buyer must not act against bank when from 2000-01-06", "d: seller must not use against buyer when true",
		"e: seller can use toward buyer when paid", "f: seller can use toward bank when from 2000-01-06 then g", "g: seller must gone for buyer within 3 days when true", "h: buyer must paid for seller within 9 days when true",
		"i: bank must not paid against buyer when true", "j: seller may use for bank when asked",
	)
	for _, x := range []struct {
		day    int
		facts  []string
		act    bool
		use    bool
		power  int
		gone   bool
		actors []int
	}{
		{4, nil, true, true, -1, false, nil}, {5, nil, true, true, 4, false, nil}, {4, []string{"paid"}, false, true, 3, false, nil},
		{5, []string{"paid"}, true, true, 3, false, nil}, {4, []string{"asked"}, true, false, -1, false, nil}, {5, []string{"asked", "paid"}, true, false, 3, false, nil},
	} {
		s := stateOf(x.day, x.facts, impl.Duty{Clause: 6, Since: 1, Due: 10, Status: open})
		for party := range 3 {
			for action, want := range map[string]bool{"act": x.act && party == 0, "use": x.use && party == 1, "paid": party == 2, "gone": false, "none": false, "asked": false} {
				if got, ok := impl.IsForbidden(c, s, party, action); !ok || got != want {
					t.Errorf("IsForbidden(%+v, %d, %s) = %v, %v", s, party, action, got, ok)
				}
				power := -1
				if action == "use" && party == 1 {
					power = x.power
				}
				if got, ok := impl.PowerFor(c, s, party, action); !ok || got != power {
					t.Errorf("PowerFor(%+v, %d, %s) = %d, %v", s, party, action, got, ok)
				}
			}
		}
	}
	// An open duty to do what is forbidden does not change what is forbidden.
	same := written(t, "a: buyer must act for seller within 3 days when true", "b: buyer must not act against seller when true", "d: buyer can act toward seller when true")
	s, _ := impl.StartState(same, 0)
	if forbidden, ok := impl.IsForbidden(same, s, 0, "act"); !ok || !forbidden {
		t.Errorf("IsForbidden with a duty = %v, %v", forbidden, ok)
	}
	if power, ok := impl.PowerFor(same, s, 0, "act"); !ok || power != 2 {
		t.Errorf("PowerFor with a duty = %v, %v", power, ok)
	}
}

// checkNoAction checks that no action is forbidden and that there is no answer about powers.
func checkNoAction(t *testing.T, c impl.Contract, s impl.State, party int, action string) {
	t.Helper()
	if got, ok := impl.IsForbidden(c, s, party, action); ok || got {
		t.Errorf("IsForbidden(%d, %.20q) = %v, %v", party, action, got, ok)
	}
	if got, ok := impl.PowerFor(c, s, party, action); ok || got != 0 {
		t.Errorf("PowerFor(%d, %.20q) = %d, %v", party, action, got, ok)
	}
}

func TestQuestionsAboutActionsThatHaveNoAnswer(t *testing.T) {
	c := written(t, "a: buyer must not act against seller when true", "b: buyer can act toward seller when true", "d: bank can act toward seller when true", "e: seller can use toward buyer when true")
	s, _ := impl.StartState(c, 3)
	for _, party := range []int{-1, 3, 4, math.MinInt, math.MaxInt, 1 << 32} {
		checkNoAction(t, c, s, party, "act")
		checkNoAction(t, c, s, party, "none")
	}
	for _, action := range append(slices.Clone(notANameAtAll), noNames...) {
		for party := range 3 {
			checkNoAction(t, c, s, party, action)
		}
	}
	over := edit(s, func(s *impl.State) { s.Over = true })
	if !impl.IsValidState(c, over) {
		t.Error("IsValidState = false")
	}
	for party := -1; party < 4; party++ {
		for _, action := range []string{"act", "use", "none", "it"} {
			checkNoAction(t, c, over, party, action)
		}
	}
}

func TestStatesAreEqualInAllFields(t *testing.T) {
	full := impl.State{Day: 7, Facts: []string{"paid", "sent"}, Duties: []impl.Duty{{Clause: 2, Since: 3, Due: 6, Status: 2}, {Clause: 1, Since: 3, Due: 6, Status: 3}}, Balances: []int{-100, 100, 0}}
	edits := map[string]func(s *impl.State){
		"Day":             func(s *impl.State) { s.Day++ },
		"Over":            func(s *impl.State) { s.Over = true },
		"first Fact":      func(s *impl.State) { s.Facts[0] = "pai" },
		"last Fact":       func(s *impl.State) { s.Facts[1] = "sen" },
		"fewer Facts":     func(s *impl.State) { s.Facts = s.Facts[:1] },
		"more Facts":      func(s *impl.State) { s.Facts = append(s.Facts, "") },
		"no Facts":        func(s *impl.State) { s.Facts = nil },
		"swapped Facts":   func(s *impl.State) { slices.Reverse(s.Facts) },
		"Clause":          func(s *impl.State) { s.Duties[0].Clause++ },
		"Since":           func(s *impl.State) { s.Duties[0].Since++ },
		"Due":             func(s *impl.State) { s.Duties[0].Due++ },
		"Status":          func(s *impl.State) { s.Duties[0].Status++ },
		"last Clause":     func(s *impl.State) { s.Duties[1].Clause-- },
		"last Status":     func(s *impl.State) { s.Duties[1].Status = 0 },
		"fewer Duties":    func(s *impl.State) { s.Duties = s.Duties[:1] },
		"more Duties":     func(s *impl.State) { s.Duties = append(s.Duties, impl.Duty{}) },
		"no Duties":       func(s *impl.State) { s.Duties = []impl.Duty{} },
		"swapped Duties":  func(s *impl.State) { slices.Reverse(s.Duties) },
		"first Balance":   func(s *impl.State) { s.Balances[0] = 100 },
		"last Balance":    func(s *impl.State) { s.Balances[2] = 1 },
		"fewer Balances":  func(s *impl.State) { s.Balances = s.Balances[:2] },
		"more Balances":   func(s *impl.State) { s.Balances = append(s.Balances, 0) },
		"no Balances":     func(s *impl.State) { s.Balances = nil },
		"great Balance":   func(s *impl.State) { s.Balances[0] = math.MinInt },
		"odd Day":         func(s *impl.State) { s.Day = math.MinInt },
		"odd Fact":        func(s *impl.State) { s.Facts[0] = "\xff" },
		"a million Facts": func(s *impl.State) { s.Facts = make([]string, 1000000) },
		"zero":            func(s *impl.State) { *s = impl.State{} },
	}
	for name, change := range edits {
		odd := edit(full, change)
		if impl.EqualStates(full, odd) || impl.EqualStates(odd, full) {
			t.Errorf("%s: EqualStates = true", name)
		}
		if !impl.EqualStates(odd, deepCopyState(odd)) {
			t.Errorf("%s: EqualStates with itself = false", name)
		}
		for other, change := range edits {
			if other != name && impl.EqualStates(odd, edit(full, change)) {
				t.Errorf("%s and %s: EqualStates = true", name, other)
			}
		}
	}
	empty := impl.State{Facts: []string{}, Duties: []impl.Duty{}, Balances: []int{}}
	if !impl.EqualStates(full, deepCopyState(full)) || !impl.EqualStates(empty, impl.State{}) || !impl.EqualStates(impl.State{}, empty) || !impl.EqualStates(full, full) {
		t.Error("EqualStates of equal states = false")
	}
}

// busyNames are the actions and facts of busy contracts.
var busyNames = []string{"a", "b", "d", "e"}

// busyCondition is a condition on the days from 0 on and the names of a busy contract.
func busyCondition(random *rand.Rand, first int, size int) impl.Condition {
	switch random.Intn(6 + size) {
	case 0, 1:
		return always()
	case 2, 3:
		return fact(busyNames[random.Intn(len(busyNames))])
	case 4:
		return from(min(first+random.Intn(20), impl.MaxDay))
	case 5:
		return not(busyCondition(random, first, size/2))
	case 6:
		return both(busyCondition(random, first, size/2-1), busyCondition(random, first, size/2-1))
	}
	return either(busyCondition(random, first, max(0, size/2-1)), busyCondition(random, first, max(0, size/2-1)))
}

// busyContract is a contract in which much happens in a few days from first on.
func busyContract(random *rand.Rand, first int) impl.Contract {
	kinds := []int{impl.Obligation, impl.Obligation, impl.Obligation, impl.Prohibition, impl.Prohibition, impl.Permission, impl.Power}
	c := impl.Contract{Parties: manyParties(2 + random.Intn(3))}
	for i := range 1 + random.Intn(impl.MaxClauses) {
		x := clauseOf(kinds[random.Intn(len(kinds))], "c"+strconv.Itoa(i))
		parties := random.Perm(len(c.Parties))
		x.Party, x.Other = parties[0], parties[1]
		x.Action = busyNames[random.Intn(3)]
		x.When = busyCondition(random, first, random.Intn(4))
		if x.Kind == impl.Obligation {
			x.Within, x.Amount = random.Intn(5), []int{0, 0, 1, 50}[random.Intn(4)]
		}
		c.Clauses = append(c.Clauses, x)
	}
	for i := range c.Clauses {
		repair := c.Clauses[random.Intn(len(c.Clauses))]
		if repair.Kind == impl.Obligation && repair.Id != c.Clauses[i].Id && c.Clauses[i].Kind != impl.Permission {
			c.Clauses[i].Repair = repair.Id
		}
		// The end of a contract is rare, so that more happens before it.
		if c.Clauses[i].Kind == impl.Power && c.Clauses[i].Repair == "" && random.Intn(3) > 0 {
			c.Clauses[i].Kind = impl.Permission
		}
	}
	return c
}

// busyEvent is an event that fits a clause of the contract, or nearly so.
func busyEvent(random *rand.Rand, c impl.Contract, day int) impl.Event {
	x := c.Clauses[random.Intn(len(c.Clauses))]
	e := paying(day, x.Party, x.Action, x.Amount)
	switch random.Intn(6) {
	case 0:
		e.Party = random.Intn(len(c.Parties))
	case 1:
		e.Amount = random.Intn(2)
	case 2:
		e.Action = append(busyNames, "other")[random.Intn(5)]
	}
	return e
}

// checkStep checks what an event on a valid state does, and returns the state after it, or the
// state before if the event fails.
func checkStep(t *testing.T, c impl.Contract, s impl.State, e impl.Event) (impl.State, int) {
	t.Helper()
	want, wantEffect, wantOk := modelApply(c, s, e)
	got, effect, ok := impl.ApplyEvent(c, s, e)
	if !wantOk {
		want, wantEffect = impl.State{}, 0
	}
	if ok != wantOk || effect != wantEffect || !sameState(got, want) {
		t.Fatalf("%s%+v %+v: ApplyEvent = %+v, %d, %v, not %+v, %d, %v", modelContract(c), s, e, got, effect, ok, want, wantEffect, wantOk)
	}
	if !ok {
		return s, 0
	}
	checkFollows(t, c, s, got)
	return got, effect
}

// checkFollows checks that a state is valid, that its balances add up to 0, that nothing of an
// earlier state was lost, and that no open duty is overdue.
func checkFollows(t *testing.T, c impl.Contract, before impl.State, after impl.State) {
	t.Helper()
	if !impl.IsValidState(c, after) || len(stateFaults(c, after)) > 0 {
		t.Fatalf("%sIsValidState(%+v) = %v, faults %v", modelContract(c), after, impl.IsValidState(c, after), stateFaults(c, after))
	}
	sum := 0
	for _, balance := range after.Balances {
		sum += balance
	}
	if sum != 0 || after.Day < before.Day || before.Over && !after.Over || len(after.Duties) < len(before.Duties) {
		t.Fatalf("%+v follows %+v", after, before)
	}
	for _, name := range before.Facts {
		if !slices.Contains(after.Facts, name) {
			t.Fatalf("%s is not known anymore", name)
		}
	}
	for i, d := range before.Duties {
		next := after.Duties[i]
		if d.Status != open && next != d || next.Clause != d.Clause || next.Since != d.Since || next.Due != d.Due {
			t.Fatalf("%+v became %+v", d, next)
		}
	}
	for i, d := range after.Duties {
		if d.Status == open && d.Due < after.Day || i >= len(before.Duties) && d.Since < before.Day {
			t.Fatalf("%+v after day %d on day %d", d, before.Day, after.Day)
		}
	}
}

// checkParts checks what time does to a valid state, at once and in two parts.
func checkParts(t *testing.T, c impl.Contract, s impl.State, first int, second int) {
	t.Helper()
	want, wantOk := modelAdvance(c, s, s.Day+first+second)
	got, ok := impl.AdvanceState(c, s, s.Day+first+second)
	if !wantOk {
		want = impl.State{}
	}
	if ok != wantOk || !sameState(got, want) {
		t.Fatalf("%s%+v: AdvanceState = %+v, %v, not %+v, %v", modelContract(c), s, got, ok, want, wantOk)
	}
	half, halfOk := impl.AdvanceState(c, s, s.Day+first)
	again, againOk := impl.State{}, false
	if halfOk {
		checkFollows(t, c, s, half)
		again, againOk = impl.AdvanceState(c, half, s.Day+first+second)
	}
	if ok != againOk || !sameState(got, again) {
		t.Fatalf("%s%+v: %+v, %v in two parts, %+v, %v at once", modelContract(c), s, again, againOk, got, ok)
	}
	if ok {
		checkFollows(t, c, s, got)
		checkFollows(t, c, half, got)
	}
}

// checkQuestions checks the answers about a valid state.
func checkQuestions(t *testing.T, c impl.Contract, s impl.State) {
	t.Helper()
	m := newModelMachine(c, s)
	for i := range c.Clauses {
		if got, ok := impl.HoldsNow(c, s, i); !ok || got != m.holds(i) {
			t.Fatalf("%s%+v: HoldsNow(%d) = %v, %v", modelContract(c), s, i, got, ok)
		}
	}
	for party := range c.Parties {
		for _, action := range busyNames {
			if s.Over {
				checkNoAction(t, c, s, party, action)
				continue
			}
			if got, ok := impl.IsForbidden(c, s, party, action); !ok || got != m.isForbidden(party, action) {
				t.Fatalf("%s%+v: IsForbidden(%d, %s) = %v, %v", modelContract(c), s, party, action, got, ok)
			}
			want := append(m.holding(impl.Power, party, action), -1)[0]
			if got, ok := impl.PowerFor(c, s, party, action); !ok || got != want {
				t.Fatalf("%s%+v: PowerFor(%d, %s) = %d, %v", modelContract(c), s, party, action, got, ok)
			}
		}
	}
}

// changedState is a state in which one number or name was changed.
func changedState(random *rand.Rand, s impl.State) impl.State {
	return edit(s, func(s *impl.State) {
		step := random.Intn(3) - 1
		switch random.Intn(6) {
		case 0:
			s.Day += step
		case 1:
			s.Facts = withoutOrWith(s.Facts, busyNames[random.Intn(4)])
		case 2:
			s.Over = !s.Over
		case 3:
			k := random.Intn(len(s.Balances))
			s.Balances[k] += step
			s.Balances[(k+1)%len(s.Balances)] -= step * random.Intn(2)
		default:
			if len(s.Duties) == 0 {
				return
			}
			d := &s.Duties[random.Intn(len(s.Duties))]
			for _, field := range [][]*int{{&d.Since}, {&d.Due}, {&d.Since, &d.Due}, {&d.Clause}, {&d.Status}, {&d.Status}}[random.Intn(6)] {
				*field += step
			}
		}
	})
}

// withoutOrWith is a list without a name that it has, or with one that it does not have, behind
// or in its order.
func withoutOrWith(list []string, name string) []string {
	if i := slices.Index(list, name); i >= 0 {
		return slices.Delete(list, i, i+1)
	}
	list = append(list, name)
	if len(list)%2 == 0 {
		slices.Sort(list)
	}
	return list
}

func TestRandomExecutions(t *testing.T) {
	random := rand.New(rand.NewSource(90))
	effects, failures, valid, invalid := map[int]int{}, 0, 0, 0
	for k := range 1500 {
		start := []int{0, 0, 500, impl.MaxDay - 9}[random.Intn(4)]
		c := busyContract(random, start)
		s, ok := impl.StartState(c, start)
		want, wantOk := modelStart(c, start)
		if !wantOk || !ok || !sameState(s, want) {
			t.Fatalf("%sStartState = %+v, %v, not %+v, %v", modelContract(c), s, ok, want, wantOk)
		}
		for range 12 {
			checkQuestions(t, c, s)
			checkParts(t, c, s, random.Intn(6), random.Intn(6))
			day := s.Day + []int{0, 0, 0, 1, 1, 2, 3, 5}[random.Intn(8)]
			next, effect := checkStep(t, c, s, busyEvent(random, c, min(day, impl.MaxDay)))
			if effects[effect]++; effect == 0 {
				failures++
			}
			s = next
			odd := changedState(random, s)
			isValid := len(stateFaults(c, odd)) == 0
			if got := impl.IsValidState(c, odd); got != isValid {
				t.Fatalf("%sIsValidState(%+v) = %v, faults %v", modelContract(c), odd, got, stateFaults(c, odd))
			}
			if isValid {
				valid++
			} else {
				invalid++
			}
			if isValid && k%3 == 0 {
				s = odd
			}
		}
	}
	if failures < 100 || valid < 1000 || invalid < 1000 || len(effects) != 6 {
		t.Errorf("effects %v, %d failures, %d valid and %d invalid states", effects, failures, valid, invalid)
	}
	for effect, count := range effects {
		if count < 100 {
			t.Errorf("effect %d is met only %d times", effect, count)
		}
	}
}

func TestRandomContractsAreAdvancedFar(t *testing.T) {
	random := rand.New(rand.NewSource(91))
	for range 40 {
		c := busyContract(random, 300)
		s, _ := impl.StartState(c, 0)
		for range 3 {
			first := random.Intn(impl.MaxAdvance + 1)
			checkParts(t, c, s, first, impl.MaxAdvance-first)
			s, _ = checkStep(t, c, s, busyEvent(random, c, s.Day+random.Intn(400)))
		}
	}
}

func TestContractsOfChapterSixAreExecuted(t *testing.T) {
	random := rand.New(rand.NewSource(92))
	for _, c := range validContracts() {
		start := []int{0, 4, 999, impl.MaxDay - impl.MaxWithin}[random.Intn(4)]
		s, ok := impl.StartState(c, start)
		if want, wantOk := modelStart(c, start); !ok || !wantOk || !sameState(s, want) {
			t.Fatalf("%sStartState = %+v, %v, not %+v", modelContract(c), s, ok, want)
		}
		for range 4 {
			x := c.Clauses[random.Intn(len(c.Clauses))]
			s, _ = checkStep(t, c, s, paying(s.Day+random.Intn(9), x.Party, x.Action, x.Amount))
			checkParts(t, c, s, random.Intn(9), random.Intn(9))
		}
	}
}

// askState calls all functions of the chapter.
func askState(c impl.Contract, s impl.State, e impl.Event) {
	impl.IsValidState(c, s)
	impl.StartState(c, s.Day)
	impl.AdvanceState(c, s, s.Day)
	impl.AdvanceState(c, s, s.Day+9)
	impl.AdvanceState(c, s, s.Day-1)
	impl.ApplyEvent(c, s, e)
	impl.HoldsNow(c, s, 0)
	impl.IsForbidden(c, s, e.Party, e.Action)
	impl.PowerFor(c, s, e.Party, e.Action)
	impl.EqualStates(s, s)
}

// roomy is a state whose slices have room behind their lengths, and that room.
func roomy(s impl.State) (impl.State, impl.State) {
	room := impl.State{
		Facts:    append(slices.Clone(s.Facts), "paid", "zz", "zzz"),
		Duties:   append(slices.Clone(s.Duties), impl.Duty{Clause: 9}, impl.Duty{Status: 1}, impl.Duty{Due: 5}),
		Balances: append(slices.Clone(s.Balances), 77, 88),
	}
	s.Facts, s.Duties, s.Balances = room.Facts[:len(s.Facts)], room.Duties[:len(s.Duties)], room.Balances[:len(s.Balances)]
	return s, room
}

func TestContractsAndStatesStayAsTheyAre(t *testing.T) {
	random := rand.New(rand.NewSource(93))
	for range 300 {
		c := busyContract(random, 0)
		kept := deepCopyContract(c)
		s, _ := impl.StartState(c, 0)
		for range 12 {
			e := busyEvent(random, c, s.Day+random.Intn(2))
			state, room := roomy(s)
			room, before := room, deepCopyState(room)
			askState(c, state, e)
			if !sameState(room, before) || state.Day != s.Day || state.Over != s.Over {
				t.Fatalf("%+v became %+v", before, room)
			}
			if !impl.EqualContracts(c, kept) {
				t.Fatalf("%sbecame\n%s", modelContract(kept), modelContract(c))
			}
			// What is behind the lengths is not read either.
			want, wantEffect, wantOk := impl.ApplyEvent(c, deepCopyState(s), e)
			got, effect, ok := impl.ApplyEvent(c, state, e)
			if ok != wantOk || effect != wantEffect || !sameState(got, want) || impl.IsValidState(c, state) != impl.IsValidState(c, s) || !impl.EqualStates(state, s) {
				t.Fatalf("ApplyEvent = %+v, %d, %v, not %+v, %d, %v", got, effect, ok, want, wantEffect, wantOk)
			}
			if ok {
				s = got
			}
		}
	}
}

// answersAbout are the states that the functions return.
func answersAbout(c impl.Contract, s impl.State) []impl.State {
	start, _ := impl.StartState(c, s.Day)
	same, _ := impl.AdvanceState(c, s, s.Day)
	later, _ := impl.AdvanceState(c, s, s.Day+1)
	free, _, _ := impl.ApplyEvent(c, s, on(s.Day, 2, "none"))
	named, _, _ := impl.ApplyEvent(c, s, on(s.Day, 2, "waived"))
	known, _, _ := impl.ApplyEvent(c, s, on(s.Day, 2, "sent"))
	performed, _, _ := impl.ApplyEvent(c, s, on(s.Day, 1, "sign"))
	return []impl.State{start, same, later, free, named, known, performed}
}

// spoilState overwrites everything in the slices of a state.
func spoilState(s impl.State) {
	facts, duties, balances := s.Facts[:cap(s.Facts)], s.Duties[:cap(s.Duties)], s.Balances[:cap(s.Balances)]
	for i := range facts {
		facts[i] = "spoiled"
	}
	for i := range duties {
		duties[i] = impl.Duty{Clause: -9, Since: -9, Due: -9, Status: -9}
	}
	for i := range balances {
		balances[i] = -9
	}
}

func TestStatesAreReturnedInMemoryOfTheirOwn(t *testing.T) {
	c, full := fullState(t)
	over := edit(full, func(s *impl.State) { s.Over, s.Duties[2].Status, s.Duties[3].Status = true, ended, ended })
	for _, full := range []impl.State{full, over} {
		kept := answersAbout(c, full)
		for i := range kept {
			s := deepCopyState(full)
			got := answersAbout(c, s)[i]
			spoilState(s)
			if !sameState(got, kept[i]) || len(got.Balances) != 3 {
				t.Errorf("answer %d keeps its argument: %+v", i, got)
			}
			s = deepCopyState(full)
			answers := answersAbout(c, s)
			spoilState(answers[i])
			if !sameState(s, full) {
				t.Errorf("answer %d gives its argument away", i)
			}
			for k, other := range answers {
				if k != i && !sameState(other, kept[k]) {
					t.Errorf("answers %d and %d share memory", i, k)
				}
			}
		}
		if again := answersAbout(c, full); !slices.EqualFunc(again, kept, sameState) {
			t.Errorf("other answers: %+v", again)
		}
	}
}

func TestStatesDoNotKeepTheirContract(t *testing.T) {
	c, full := fullState(t)
	kept := answersAbout(c, full)
	spoiled := deepCopyContract(c)
	got := answersAbout(spoiled, full)
	spoilContract(spoiled)
	if !slices.EqualFunc(got, kept, sameState) {
		t.Errorf("answers keep their contract: %+v", got)
	}
}

func TestFactsAreReturnedInMemoryOfTheirOwn(t *testing.T) {
	c, full := fullState(t)
	strange := []string{strings.Repeat("paid", 1), strings.Clone("sent"), strings.Clone("waived")}
	full.Facts = strange[:2]
	for i, s := range []func() impl.State{
		func() impl.State { s, _ := impl.AdvanceState(c, full, 7); return s },
		func() impl.State { s, _ := impl.AdvanceState(c, full, 9); return s },
		func() impl.State { s, _, _ := impl.ApplyEvent(c, full, on(7, 0, strange[2])); return s },
	} {
		answer := s()
		if len(answer.Facts) < 2 {
			t.Fatalf("answer %d: %+v", i, answer)
		}
		for _, name := range answer.Facts {
			for _, x := range append(slices.Clone(c.Clauses), impl.Clause{Action: strange[0]}, impl.Clause{Action: strange[1]}, impl.Clause{Action: strange[2]}) {
				if isPartOf(name, x.Action) {
					t.Errorf("answer %d shares %s", i, name)
				}
			}
		}
	}
}

func TestStatesAreDetermined(t *testing.T) {
	c, full := fullState(t)
	kept := answersAbout(c, full)
	for range 50 {
		for i, got := range answersAbout(c, full) {
			if !sameState(got, kept[i]) {
				t.Fatalf("answer %d = %+v, not %+v", i, got, kept[i])
			}
			spoilState(got)
		}
	}
}
