package tests

import (
	"math"
	"math/rand"
	"runtime"
	"slices"
	"strconv"
	"strings"
	"sync"
	"testing"
	"time"

	"loop.example/g00902/impl"
)

// kindWords are the words of the kinds of entries.
var kindWords = []string{"", "activated", "broken", "performed", "violated", "power", "free", "late"}

// notTraceKinds are no kinds of entries.
var notTraceKinds = []int{0, 8, -1, -7, 9, 1<<32 + 1, math.MaxInt, math.MinInt}

// entriesOf are the entries that lines such as "6 broken pay buyer" describe.
func entriesOf(t *testing.T, c impl.Contract, lines ...string) []impl.Entry {
	t.Helper()
	list := []impl.Entry{}
	for _, line := range lines {
		words := strings.Fields(line)
		day, err := strconv.Atoi(words[0])
		e := impl.Entry{Day: day, Kind: slices.Index(kindWords, words[1]), Clause: -1, Party: slices.Index(c.Parties, words[3])}
		if words[2] != "-" {
			e.Clause = slices.IndexFunc(c.Clauses, func(x impl.Clause) bool { return x.Id == words[2] })
		}
		if err != nil || e.Kind < 1 || e.Party < 0 || words[2] != "-" && e.Clause < 0 {
			t.Fatalf("no entry: %q", line)
		}
		list = append(list, e)
	}
	return list
}

// modelTraceText is the text of a trace.
func modelTraceText(c impl.Contract, trace []impl.Entry) string {
	text := ""
	for _, e := range trace {
		id := "-"
		if e.Clause >= 0 {
			id = c.Clauses[e.Clause].Id
		}
		text += modelTime(e.Day).Format("2006-01-02") + " " + kindWords[e.Kind] + " " + id + " by " + c.Parties[e.Party] + "\n"
	}
	return text
}

// modelRun is a machine that lists what happens, in the words of the document.
type modelRun struct {
	*modelMachine
	effects []int
	trace   []impl.Entry
}

func (m *modelRun) tell(kind int, clause int, party int) {
	m.trace = append(m.trace, impl.Entry{Day: m.s.Day, Kind: kind, Clause: clause, Party: party})
}

func (m *modelRun) tellNew(old int) {
	for _, d := range m.s.Duties[old:] {
		m.tell(impl.TraceActivated, d.Clause, m.c.Clauses[d.Clause].Party)
	}
}

func (m *modelRun) nextDay() {
	before := slices.Clone(m.s.Duties)
	m.begin(m.s.Day + 1)
	for i, d := range before {
		if d.Status == open && m.s.Duties[i].Status == broken {
			m.tell(impl.TraceBroken, d.Clause, m.c.Clauses[d.Clause].Party)
		}
	}
	m.tellNew(len(before))
}

func (m *modelRun) event(e impl.Event) {
	kind, clause := impl.TraceFree, -1
	powers := m.holding(impl.Power, e.Party, e.Action)
	if m.s.Over {
		kind = impl.TraceLate
	} else if i := m.performed(e); i >= 0 {
		kind, clause = impl.TracePerformed, m.s.Duties[i].Clause
	} else if m.isForbidden(e.Party, e.Action) {
		kind, clause = impl.TraceViolated, m.holding(impl.Prohibition, e.Party, e.Action)[0]
	} else if len(powers) > 0 {
		kind, clause = impl.TracePower, powers[0]
	}
	m.tell(kind, clause, e.Party)
	old := len(m.s.Duties)
	m.effects = append(m.effects, m.execute(e))
	m.tellNew(old)
}

// play executes a run to its end, and reports whether there is such a run and nothing failed.
func (m *modelRun) play(events []impl.Event, until int) bool {
	if until < m.s.Day || until > impl.MaxDay || until-m.s.Day > impl.MaxAdvance || !impl.IsValidEvents(events, len(m.c.Parties)) {
		return false
	}
	for _, e := range events {
		if e.Day < m.s.Day || e.Day > until {
			return false
		}
	}
	for m.isSound() && (m.s.Day < until || len(events) > 0) {
		if len(events) > 0 && events[0].Day == m.s.Day {
			m.event(events[0])
			events = events[1:]
		} else {
			m.nextDay()
		}
	}
	return m.isSound()
}

// newModelRun is a run of a contract from a day on, and whether it can start.
func newModelRun(c impl.Contract, start int) (*modelRun, bool) {
	s, ok := modelStart(c, start)
	m := &modelRun{modelMachine: newModelMachine(c, s)}
	m.tellNew(0)
	return m, ok
}

// checkIsRun checks what a call returned for a run.
func checkIsRun(t *testing.T, call string, c impl.Contract, got impl.State, effects []int, ok bool, want *modelRun, wantOk bool) {
	t.Helper()
	if !wantOk {
		checkIsNoRun(t, call, got, effects, ok)
		return
	}
	if !ok || !sameState(got, want.s) || !slices.Equal(effects, want.effects) || !impl.IsValidState(c, got) {
		t.Fatalf("%s%s = %+v, %v, %v, not %+v, %v", modelContract(c), call, got, effects, ok, want.s, want.effects)
	}
}

// checkIsNoRun checks that a call returned no run.
func checkIsNoRun(t *testing.T, call string, got impl.State, effects []int, ok bool) {
	t.Helper()
	if ok || !isZeroState(got) || len(effects) > 0 {
		t.Errorf("%s = %+v, %v, %v", call, got, effects, ok)
	}
}

// checkRun checks a run, in its parts, too, and returns its last state and its trace.
func checkRun(t *testing.T, c impl.Contract, start int, events []impl.Event, until int) (impl.State, []impl.Entry, bool) {
	t.Helper()
	want, wantOk := newModelRun(c, start)
	wantOk = wantOk && want.play(events, until)
	s, effects, ok := impl.RunContract(c, start, events, until)
	checkIsRun(t, "RunContract", c, s, effects, ok, want, wantOk)
	trace, ok := impl.TraceContract(c, start, events, until)
	if !wantOk {
		if ok || len(trace) > 0 {
			t.Errorf("TraceContract = %+v, %v", trace, ok)
		}
	} else if !ok || !slices.Equal(trace, want.trace) {
		t.Fatalf("%sTraceContract = %v\n%s, not\n%s", modelContract(c), ok, modelTraceText(c, trace), modelTraceText(c, want.trace))
	}
	checkRunInParts(t, c, start, events, until)
	if wantOk {
		checkSteps(t, c, start, events, until)
		checkAccount(t, c, s, events, trace)
		checkTraceAnswers(t, c, trace)
	}
	return s, trace, wantOk
}

// checkRunInParts checks that a run in two parts is the run at once, wherever it is parted.
func checkRunInParts(t *testing.T, c impl.Contract, start int, events []impl.Event, until int) {
	t.Helper()
	whole, effects, ok := impl.RunContract(c, start, events, until)
	if !ok && until-start > impl.MaxAdvance {
		return // The parts may be short enough where the run at once is not.
	}
	for k := range len(events) + 1 {
		first, last := start, until
		if k > 0 {
			first = events[k-1].Day
		}
		if k < len(events) {
			last = events[k].Day
		}
		for _, day := range []int{first, (first + last) / 2, last} {
			half, before, halfOk := impl.RunContract(c, start, events[:k], day)
			again, after, againOk := impl.ContinueRun(c, half, events[k:], until)
			if againOk != ok || againOk && !halfOk || !sameState(again, whole) || ok && !slices.Equal(slices.Concat(before, after), effects) {
				t.Fatalf("%s%d events until %d: %+v, %v, %v, not %+v, %v, %v", modelContract(c), k, day, again, after, againOk, whole, effects, ok)
			}
		}
	}
}

// checkSteps checks that a run is made of the operations of the machine.
func checkSteps(t *testing.T, c impl.Contract, start int, events []impl.Event, until int) {
	t.Helper()
	s, effects, _ := impl.RunContract(c, start, events, until)
	step, ok := impl.StartState(c, start)
	for i, e := range events {
		next, effect, nextOk := impl.ApplyEvent(c, step, e)
		step, ok = next, ok && nextOk && effect == effects[i]
	}
	last, lastOk := impl.AdvanceState(c, step, until)
	if !ok || !lastOk || !sameState(last, s) || len(effects) != len(events) {
		t.Fatalf("%sRunContract = %+v, %v, and step by step %+v", modelContract(c), s, effects, last)
	}
}

// checkAccount checks that the trace of a run accounts for every duty of its last state and for
// every event.
func checkAccount(t *testing.T, c impl.Contract, s impl.State, events []impl.Event, trace []impl.Entry) {
	t.Helper()
	activated, seen, left := 0, 0, slices.Clone(s.Duties)
	remove := func(wanted func(d impl.Duty) bool) bool {
		i := slices.IndexFunc(left, wanted)
		if i >= 0 {
			left = slices.Delete(left, i, i+1)
		}
		return i >= 0
	}
	for i, e := range trace {
		right := i == 0 || trace[i-1].Day <= e.Day
		switch e.Kind {
		case impl.TraceActivated:
			d := s.Duties[activated]
			right = right && d.Clause == e.Clause && d.Since == e.Day && c.Clauses[d.Clause].Party == e.Party
			activated++
		case impl.TraceBroken:
			// It is broken on the day after its Due, before anything else happens on this day.
			right = right && c.Clauses[e.Clause].Party == e.Party && (trace[i-1].Day < e.Day || trace[i-1].Kind == impl.TraceBroken)
			right = right && remove(func(d impl.Duty) bool { return d.Clause == e.Clause && d.Due == e.Day-1 && d.Status == broken })
		default:
			right = right && events[seen].Day == e.Day && events[seen].Party == e.Party && (e.Clause == -1) == (e.Kind >= impl.TraceFree)
			if e.Kind == impl.TracePerformed {
				right = right && remove(func(d impl.Duty) bool {
					return d.Clause == e.Clause && d.Since <= e.Day && e.Day <= d.Due && d.Status == done
				})
			}
			seen++
		}
		if !right {
			t.Fatalf("%sentry %d is not right in\n%sof %+v", modelContract(c), i, modelTraceText(c, trace), s)
		}
	}
	isAccountedFor := func(d impl.Duty) bool { return d.Status == broken || d.Status == done }
	if activated != len(s.Duties) || seen != len(events) || slices.ContainsFunc(left, isAccountedFor) {
		t.Fatalf("%sduties of %+v without entries in\n%s", modelContract(c), s, modelTraceText(c, trace))
	}
}

// checkTraceAnswers checks the answers about a valid trace.
func checkTraceAnswers(t *testing.T, c impl.Contract, trace []impl.Entry) {
	t.Helper()
	counts, first, breaches := make([]int, 8), -1, make([][]impl.Entry, len(c.Parties))
	for i, e := range trace {
		counts[e.Kind]++
		if e.Kind == impl.TraceBroken || e.Kind == impl.TraceViolated {
			breaches[e.Party] = append(breaches[e.Party], e)
			if first < 0 {
				first = i
			}
		}
	}
	for kind := 1; kind <= 7; kind++ {
		if count, ok := impl.CountEntries(c, trace, kind); !ok || count != counts[kind] {
			t.Errorf("CountEntries(%s) = %d, %v, not %d", kindWords[kind], count, ok, counts[kind])
		}
	}
	if i, ok := impl.FirstBreach(c, trace); !ok || i != first {
		t.Errorf("FirstBreach = %d, %v, not %d", i, ok, first)
	}
	for party, want := range breaches {
		if list, ok := impl.BreachesBy(c, trace, party); !ok || !slices.Equal(list, want) {
			t.Errorf("BreachesBy(%d) = %+v, %v, not %+v", party, list, ok, want)
		}
	}
	if text, ok := impl.FormatTrace(c, trace); !ok || text != modelTraceText(c, trace) {
		t.Errorf("FormatTrace = %v\n%s, not\n%s", ok, text, modelTraceText(c, trace))
	}
}

// checkNoTraceAnswers checks that there are no answers about a contract with a trace.
func checkNoTraceAnswers(t *testing.T, name string, c impl.Contract, trace []impl.Entry) {
	t.Helper()
	for kind := -1; kind <= 8; kind++ {
		if count, ok := impl.CountEntries(c, trace, kind); ok || count != 0 {
			t.Errorf("%s: CountEntries(%d) = %d, %v", name, kind, count, ok)
		}
	}
	if i, ok := impl.FirstBreach(c, trace); ok || i != 0 {
		t.Errorf("%s: FirstBreach = %d, %v", name, i, ok)
	}
	for party := -1; party <= 4; party++ {
		if list, ok := impl.BreachesBy(c, trace, party); ok || len(list) > 0 {
			t.Errorf("%s: BreachesBy(%d) = %+v, %v", name, party, list, ok)
		}
	}
	if text, ok := impl.FormatTrace(c, trace); ok || text != "" {
		t.Errorf("%s: FormatTrace = %q, %v", name, text, ok)
	}
}

// checkTrace checks the trace of a run, and returns its last state.
func checkTrace(t *testing.T, c impl.Contract, start int, events []impl.Event, until int, lines ...string) impl.State {
	t.Helper()
	s, trace, ok := checkRun(t, c, start, events, until)
	if !ok || !slices.Equal(trace, entriesOf(t, c, lines...)) {
		t.Errorf("run from %d to %d: %v\n%s, not\n%s", start, until, ok, modelTraceText(c, trace), strings.Join(lines, "\n"))
	}
	return s
}

// checkNoRun checks that there is no run, neither from a day nor from the state in which the
// contract starts on it.
func checkNoRun(t *testing.T, name string, c impl.Contract, start int, events []impl.Event, until int) {
	t.Helper()
	s, effects, ok := impl.RunContract(c, start, events, until)
	checkIsNoRun(t, name+": RunContract", s, effects, ok)
	if trace, ok := impl.TraceContract(c, start, events, until); ok || len(trace) > 0 {
		t.Errorf("%s: TraceContract = %+v, %v", name, trace, ok)
	}
	first, _ := impl.StartState(c, start)
	checkNoContinuation(t, name, c, first, events, until)
}

// checkNoContinuation checks that a run cannot go on from a state.
func checkNoContinuation(t *testing.T, name string, c impl.Contract, s impl.State, events []impl.Event, until int) {
	t.Helper()
	got, effects, ok := impl.ContinueRun(c, s, events, until)
	checkIsNoRun(t, name+": ContinueRun", got, effects, ok)
}

// checkEffects checks the effects of the events of a run.
func checkEffects(t *testing.T, c impl.Contract, start int, events []impl.Event, until int, want ...int) {
	t.Helper()
	if _, effects, ok := impl.RunContract(c, start, events, until); !ok || !slices.Equal(effects, want) {
		t.Errorf("effects %v, %v, not %v", effects, ok, want)
	}
}

func TestAContractIsRun(t *testing.T) {
	c := trade(t)
	events := []impl.Event{on(3, 1, "sent"), on(4, 0, "resold"), paying(6, 0, "penalty", 50), paying(8, 0, "paid", 100), on(8, 1, "cancel"), on(9, 1, "claim")}
	s := checkTrace(t, c, 3, events, 12,
		"3 free - seller", "3 activated pay buyer", "4 violated ban buyer", "4 activated late buyer", "6 performed late buyer",
		"8 performed pay buyer", "8 free - seller", "9 power claim seller", "9 activated late buyer", "12 broken late buyer",
	)
	checkEffects(t, c, 3, events, 12, impl.EffectFree, impl.EffectBreach, impl.EffectPerformed, impl.EffectPerformed, impl.EffectFree, impl.EffectPower)
	checkIsState(t, "RunContract", c, s, true, impl.State{
		Day: 12, Facts: []string{"cancel", "claim", "paid", "penalty", "resold", "sent"}, Balances: []int{-150, 100, 50},
		Duties: []impl.Duty{{Clause: 0, Since: 3, Due: 8, Status: done}, {Clause: 1, Since: 4, Due: 6, Status: done}, {Clause: 1, Since: 9, Due: 11, Status: broken}},
	})
	text, ok := impl.FormatTrace(c, entriesOf(t, c, "3 free - seller", "3 activated pay buyer", "60 broken late bank"))
	if want := "2000-01-04 free - by seller\n2000-01-04 activated pay by buyer\n2000-03-01 broken late by bank\n"; !ok || text != want {
		t.Errorf("FormatTrace = %q, %v", text, ok)
	}
}

func TestRunsWithoutEvents(t *testing.T) {
	c := written(t,
		"pay: buyer must paid for seller within 2 days when true else late", "late: bank must penalty for seller within 1 days when true",
		"send: seller must sent for buyer within 9 days when from 2000-01-05",
	)
	for _, events := range [][]impl.Event{nil, {}} {
		s := checkTrace(t, c, 0, events, 0, "0 activated pay buyer")
		checkIsState(t, "RunContract", c, s, true, stateOf(0, nil, impl.Duty{Clause: 0, Due: 2, Status: open}))
		checkTrace(t, c, 0, events, 2, "0 activated pay buyer")
		checkTrace(t, c, 0, events, 3, "0 activated pay buyer", "3 broken pay buyer", "3 activated late bank")
		s = checkTrace(t, c, 0, events, 5, "0 activated pay buyer", "3 broken pay buyer", "3 activated late bank", "4 activated send seller", "5 broken late bank")
		checkIsState(t, "RunContract", c, s, true, stateOf(5, nil, impl.Duty{Clause: 0, Due: 2, Status: broken}, impl.Duty{Clause: 1, Since: 3, Due: 4, Status: broken}, impl.Duty{Clause: 2, Since: 4, Due: 13, Status: open}))
		checkTrace(t, c, 7, events, 7, "7 activated pay buyer", "7 activated send seller")
		checkEffects(t, c, 7, events, 7)
	}
	checkTrace(t, written(t, "may: buyer may act for seller when true"), 0, nil, 500)
}

func TestSeveralEventsOnOneDayActInTheirOrder(t *testing.T) {
	c := written(t,
		"f: buyer must fine for seller paying 0.10 within 0 days when true",
		"o: buyer must act for seller within 3 days when true",
		"p: buyer must not act against seller when (act and not fine) else f",
		"w: seller can act toward buyer when fine",
	)
	// The same event performs a duty and breaks a prohibition, each by what the one before did.
	events := []impl.Event{on(2, 0, "act"), on(2, 0, "act"), paying(2, 0, "fine", 10), on(2, 1, "act"), on(2, 1, "act"), on(2, 2, "act")}
	lines := []string{
		"0 activated o buyer", "2 performed o buyer", "2 violated p buyer", "2 activated f buyer", "2 performed f buyer",
		"2 power w seller", "2 late - seller", "2 late - bank",
	}
	for _, until := range []int{2, 3, 50} {
		s := checkTrace(t, c, 0, events, until, lines...)
		checkIsState(t, "RunContract", c, s, true, impl.State{
			Day: until, Facts: []string{"act", "fine"}, Balances: []int{-10, 10, 0}, Over: true,
			Duties: []impl.Duty{{Clause: 1, Due: 3, Status: done}, {Clause: 0, Since: 2, Due: 2, Status: done}},
		})
	}
	checkEffects(t, c, 0, events, 2, impl.EffectPerformed, impl.EffectBreach, impl.EffectPerformed, impl.EffectPower, impl.EffectLate, impl.EffectLate)
	// Without the fine the seller has no power, and the duty that was triggered is broken.
	events = slices.Delete(events, 2, 3)
	checkTrace(t, c, 2, events, 3,
		"2 activated o buyer", "2 performed o buyer", "2 violated p buyer", "2 activated f buyer",
		"2 free - seller", "2 free - seller", "2 free - bank", "3 broken f buyer",
	)
	slices.Reverse(events)
	checkNoRun(t, "reversed", c, 0, events, 3)
}

func TestEventsOfOneDaySettleForEachOther(t *testing.T) {
	c := written(t,
		"one: buyer must b for seller within 0 days when a", "two: seller must c for buyer within 1 days when b", "three: seller must d for bank within 9 days when c",
		"four: bank must e for buyer within 0 days when (d and from 2000-01-06)",
	)
	events := []impl.Event{on(5, 0, "a"), on(5, 0, "b"), on(5, 1, "c"), on(5, 1, "d"), on(5, 2, "e"), on(5, 2, "e")}
	s := checkTrace(t, c, 3, events, 5,
		"5 free - buyer", "5 activated one buyer", "5 performed one buyer", "5 activated two seller", "5 performed two seller", "5 activated three seller",
		"5 performed three seller", "5 activated four bank", "5 performed four bank", "5 free - bank",
	)
	if fulfilled, ok := impl.IsFulfilled(c, s); !ok || !fulfilled || len(s.Duties) != 4 {
		t.Errorf("IsFulfilled(%+v) = %v, %v", s, fulfilled, ok)
	}
	// One day earlier the last clause is not settled by its event, but by the next day.
	for i := range events {
		events[i].Day--
	}
	checkTrace(t, c, 3, events, 6,
		"4 free - buyer", "4 activated one buyer", "4 performed one buyer", "4 activated two seller", "4 performed two seller", "4 activated three seller",
		"4 performed three seller", "4 free - bank", "4 free - bank", "5 activated four bank", "6 broken four bank",
	)
}

func TestEventsOfOneDayPermitAndForbidEachOther(t *testing.T) {
	c := written(t,
		"ban: seller must not act against buyer when not late else fine", "may: seller may act for buyer when allow",
		"fine: bank must fine for seller within 4 days when true", "can: bank can act toward buyer when act then fine",
	)
	checkTrace(t, c, 0, []impl.Event{on(0, 0, "allow"), on(0, 1, "act"), on(0, 2, "act")}, 0,
		"0 free - buyer", "0 free - seller", "0 power can bank", "0 activated fine bank")
	checkTrace(t, c, 0, []impl.Event{on(0, 0, "late"), on(0, 1, "act"), on(0, 2, "act")}, 0,
		"0 free - buyer", "0 free - seller", "0 power can bank", "0 activated fine bank")
	checkTrace(t, c, 0, []impl.Event{on(0, 1, "act"), on(0, 1, "allow"), on(0, 2, "act"), on(0, 2, "fine"), on(0, 2, "fine"), on(0, 2, "fine")}, 0,
		"0 violated ban seller", "0 activated fine bank", "0 free - seller", "0 power can bank", "0 activated fine bank", "0 performed fine bank", "0 performed fine bank", "0 free - bank")
	checkTrace(t, c, 0, []impl.Event{on(0, 1, "act"), on(0, 1, "act"), on(1, 0, "allow"), on(1, 1, "act")}, 9,
		"0 violated ban seller", "0 activated fine bank", "0 violated ban seller", "0 activated fine bank", "1 free - buyer", "1 free - seller", "5 broken fine bank", "5 broken fine bank")
}

func TestEventsOnTheFirstAndOnTheLastDay(t *testing.T) {
	c := written(t, "pay: buyer must paid for seller within 3 days when true else late", "late: seller must penalty for buyer within 0 days when true")
	for _, start := range []int{0, 1, 400, impl.MaxDay - 3} {
		day := func(text string, after int) string { return strconv.Itoa(start+after) + " " + text }
		checkTrace(t, c, start, []impl.Event{on(start, 0, "paid")}, start, day("activated pay buyer", 0), day("performed pay buyer", 0))
		checkTrace(t, c, start, []impl.Event{on(start, 0, "paid")}, start+3, day("activated pay buyer", 0), day("performed pay buyer", 0))
		checkTrace(t, c, start, []impl.Event{on(start+3, 0, "paid")}, start+3, day("activated pay buyer", 0), day("performed pay buyer", 3))
		checkTrace(t, c, start, []impl.Event{on(start, 1, "paid"), on(start+3, 0, "paid")}, start+3, day("activated pay buyer", 0), day("free - seller", 0), day("performed pay buyer", 3))
		if start+5 > impl.MaxDay {
			continue
		}
		checkTrace(t, c, start, []impl.Event{on(start+4, 0, "paid")}, start+4, day("activated pay buyer", 0), day("broken pay buyer", 4), day("activated late seller", 4), day("free - buyer", 4))
		checkTrace(t, c, start, []impl.Event{on(start+4, 1, "penalty")}, start+5, day("activated pay buyer", 0), day("broken pay buyer", 4), day("activated late seller", 4), day("performed late seller", 4))
		checkTrace(t, c, start, []impl.Event{on(start+5, 1, "penalty")}, start+5, day("activated pay buyer", 0), day("broken pay buyer", 4), day("activated late seller", 4), day("broken late seller", 5), day("free - seller", 5))
		checkNoRun(t, "before the start", c, start+1, []impl.Event{on(start, 0, "paid")}, start+5)
		checkNoRun(t, "after the end", c, start, []impl.Event{on(start+5, 0, "paid")}, start+4)
	}
}

func TestDaysBetweenEventsCount(t *testing.T) {
	c := written(t,
		"a: buyer must one for seller within 1 days when go else b", "b: seller must two for buyer within 1 days when true else d", "d: bank must three for buyer within 2 days when from 2000-01-06",
		"e: bank must four for seller within 1 days when from 2000-01-09", "ban: seller must not act against buyer when not from 2000-01-11", "can: bank can act toward buyer when from 2000-01-12 then d",
	)
	s := checkTrace(t, c, 0, []impl.Event{on(1, 2, "go"), on(9, 1, "act"), on(10, 1, "act"), on(10, 2, "act"), on(11, 2, "act")}, 20,
		"1 free - bank", "1 activated a buyer", "3 broken a buyer", "3 activated b seller", "5 broken b seller", "5 activated d bank", "8 broken d bank", "8 activated e bank",
		"9 violated ban seller", "10 broken e bank", "10 free - seller", "10 free - bank", "11 power can bank", "11 activated d bank", "14 broken d bank",
	)
	checkIsState(t, "RunContract", c, s, true, stateOf(20, []string{"act", "go"},
		impl.Duty{Clause: 0, Since: 1, Due: 2, Status: broken}, impl.Duty{Clause: 1, Since: 3, Due: 4, Status: broken}, impl.Duty{Clause: 2, Since: 5, Due: 7, Status: broken},
		impl.Duty{Clause: 3, Since: 8, Due: 9, Status: broken}, impl.Duty{Clause: 2, Since: 11, Due: 13, Status: broken}))
	// An event in between ends the chain of repairs.
	checkTrace(t, c, 0, []impl.Event{on(1, 2, "go"), on(4, 1, "two")}, 7,
		"1 free - bank", "1 activated a buyer", "3 broken a buyer", "3 activated b seller", "4 performed b seller")
}

func TestARunThatIsEnded(t *testing.T) {
	c := written(t,
		"end: seller can cancel toward buyer when true", "late: buyer must one for seller within 1 days when true else fine", "open: bank must two for seller within 9 days when true",
		"fine: buyer must three for bank within 2 days when true else fine2", "fine2: buyer must four for bank within 2 days when true",
		"react: seller must refund for buyer within 2 days when cancel", "day: seller must five for buyer within 1 days when from 2000-01-06", "ban: buyer must not act against seller when true",
	)
	before := []string{"0 activated late buyer", "0 activated open bank", "2 broken late buyer", "2 activated fine buyer", "3 power end seller"}
	end := []impl.Event{on(3, 1, "cancel")}
	s := checkTrace(t, c, 0, end, 3, before...)
	want := stateOf(3, []string{"cancel"}, impl.Duty{Clause: 1, Due: 1, Status: broken}, impl.Duty{Clause: 2, Due: 9, Status: ended}, impl.Duty{Clause: 3, Since: 2, Due: 4, Status: ended})
	want.Over = true
	checkIsState(t, "RunContract", c, s, true, want)
	events := append(end, on(3, 2, "two"), on(4, 0, "act"), on(4, 0, "three"), on(4, 1, "cancel"), paying(7, 1, "refund", 5))
	after := append(before, "3 late - bank", "4 late - buyer", "4 late - buyer", "4 late - seller", "7 late - seller")
	for _, until := range []int{7, 8, 100, impl.MaxAdvance} {
		s := checkTrace(t, c, 0, events, until, after...)
		checkIsState(t, "RunContract", c, s, true, edit(want, func(s *impl.State) { s.Day = until }))
		checkEffects(t, c, 0, events, until, impl.EffectPower, impl.EffectLate, impl.EffectLate, impl.EffectLate, impl.EffectLate, impl.EffectLate)
	}
	// A state that is over is continued by late events alone.
	got, effects, ok := impl.ContinueRun(c, want, []impl.Event{on(3, 0, "one"), on(9, 1, "cancel")}, 3+impl.MaxAdvance)
	checkIsState(t, "ContinueRun", c, got, ok, edit(want, func(s *impl.State) { s.Day += impl.MaxAdvance }))
	if !slices.Equal(effects, []int{impl.EffectLate, impl.EffectLate}) {
		t.Errorf("effects %v", effects)
	}
}

func TestAllThatBreaksOnADayComesBeforeAllThatIsActivated(t *testing.T) {
	c := written(t,
		"last: buyer must one for seller within 2 days when from 2000-01-04 else fine", "mid: seller must two for buyer within 4 days when from 2000-01-02 else ban",
		"first: bank must three for buyer within 5 days when true else fine", "alone: bank must three for buyer within 5 days when true",
		"ban: seller must four for buyer within 1 days when true", "new: seller must six for buyer within 9 days when from 2000-01-07", "fine: buyer must five for seller within 0 days when true",
	)
	checkTrace(t, c, 0, []impl.Event{on(6, 0, "five"), on(6, 1, "six")}, 8,
		"0 activated first bank", "0 activated alone bank", "1 activated mid seller", "3 activated last buyer",
		"6 broken first bank", "6 broken alone bank", "6 broken mid seller", "6 broken last buyer",
		"6 activated fine buyer", "6 activated ban seller", "6 activated fine buyer", "6 activated new seller",
		"6 performed fine buyer", "6 performed new seller", "7 broken fine buyer", "8 broken ban seller",
	)
}

func TestDutiesOfTheStartStandInTheirOrder(t *testing.T) {
	c := written(t,
		"z: bank must one for seller within 3 days when true", "y: buyer must two for seller within 1 days when from 2000-01-05", "x: seller must three for bank within 2 days when not act",
		"w: seller may act for bank when true", "v: buyer must four for bank within 0 days when act", "u: buyer must five for bank within 0 days when not from 2000-01-05",
	)
	checkTrace(t, c, 3, nil, 3, "3 activated z bank", "3 activated x seller", "3 activated u buyer")
	checkTrace(t, c, 4, nil, 4, "4 activated z bank", "4 activated y buyer", "4 activated x seller")
	s := checkTrace(t, c, 4, []impl.Event{on(4, 2, "act")}, 4, "4 activated z bank", "4 activated y buyer", "4 activated x seller", "4 free - bank", "4 activated v buyer")
	for _, d := range s.Duties {
		if d.Since != 4 {
			t.Errorf("Since of %+v", d)
		}
	}
	checkTrace(t, written(t, "may: buyer may act for seller when true"), 4, nil, 4)
}

func TestEntriesNameTheFirstClauseThatCounts(t *testing.T) {
	c := written(t,
		"da: buyer must act for seller within 3 days when from 2000-01-02", "db: buyer must act for bank within 3 days when true", "de: buyer must act for bank paying 0.01 within 3 days when true",
		"ba: buyer must not act against seller when not true", "bb: buyer must not act against seller when true else fine", "bd: buyer must not act against bank when true",
		"pa: seller can use toward buyer when not use then fine", "pb: seller can use toward bank when true then late", "pd: seller can use toward bank when true",
		"fine: bank must f for buyer within 9 days when true", "late: seller must g for buyer within 9 days when true",
	)
	checkTrace(t, c, 0, []impl.Event{on(1, 0, "act"), on(1, 0, "act"), on(1, 0, "act"), paying(1, 0, "act", 1), on(1, 1, "use"), on(1, 1, "use"), on(1, 2, "act"), on(1, 2, "use")}, 1,
		"0 activated db buyer", "0 activated de buyer", "1 activated da buyer",
		"1 performed db buyer", "1 performed da buyer", "1 violated bb buyer", "1 activated fine bank", "1 performed de buyer",
		"1 power pa seller", "1 activated fine bank", "1 power pb seller", "1 activated late seller", "1 free - bank", "1 free - bank",
	)
}

func TestEntriesOfRepairsNameThePartyOfTheRepair(t *testing.T) {
	c := written(t,
		"pay: buyer must paid for seller within 1 days when true else r", "ban: seller must not act against buyer when true else s", "can: bank can use toward buyer when true then r",
		"r: bank must one for buyer within 1 days when true else s", "s: buyer must two for seller within 9 days when true",
	)
	checkTrace(t, c, 0, []impl.Event{on(0, 1, "act"), on(0, 2, "use"), on(3, 0, "two")}, 4,
		"0 activated pay buyer", "0 violated ban seller", "0 activated s buyer", "0 power can bank", "0 activated r bank",
		"2 broken pay buyer", "2 broken r bank", "2 activated r bank", "2 activated s buyer", "3 performed s buyer", "4 broken r bank", "4 activated s buyer",
	)
}

func TestBoundsOfRuns(t *testing.T) {
	c := written(t, "pay: buyer must paid for seller within 2 days when go")
	event := []impl.Event{on(50, 0, "paid")}
	for _, x := range []struct {
		start, until int
		ok           bool
	}{
		{50, 50, true}, {0, 50, true}, {50, 51, true}, {49, 51, true}, {51, 51, false}, {51, 60, false}, {49, 49, false}, {0, 49, false}, {51, 49, false}, {60, 50, false},
		{0, impl.MaxAdvance, true}, {0, impl.MaxAdvance + 1, false}, {1, impl.MaxAdvance + 1, true}, {50, 50 + impl.MaxAdvance, true}, {50, 51 + impl.MaxAdvance, false},
		{0, impl.MaxDay, false}, {50, impl.MaxDay, false},
	} {
		if _, _, ok := checkRun(t, c, x.start, event, x.until); ok != x.ok {
			t.Errorf("run from %d to %d: %v", x.start, x.until, ok)
		}
		if !x.ok {
			checkNoRun(t, "bounds", c, x.start, event, x.until)
		}
	}
	for _, start := range []int{0, 1, 50, 5000, impl.MaxDay - impl.MaxAdvance, impl.MaxDay - 1, impl.MaxDay} {
		for _, days := range []int{-impl.MaxAdvance - 1, -impl.MaxAdvance, -2, -1, 0, 1, 2, impl.MaxAdvance - 1, impl.MaxAdvance, impl.MaxAdvance + 1, impl.MaxAdvance + 2, 2 * impl.MaxAdvance} {
			until := start + days
			if days >= 0 && days <= impl.MaxAdvance && until <= impl.MaxDay {
				s := checkTrace(t, c, start, nil, until)
				checkIsState(t, "RunContract", c, s, true, stateOf(until, nil))
			} else {
				checkNoRun(t, "from "+strconv.Itoa(start)+" to "+strconv.Itoa(until), c, start, nil, until)
			}
		}
		for _, day := range notDays {
			checkNoRun(t, "a day "+strconv.Itoa(day), c, start, nil, day)
			checkNoRun(t, "from day "+strconv.Itoa(day), c, day, nil, start)
			checkNoRun(t, "on day "+strconv.Itoa(day), c, day, nil, day)
			checkNoRun(t, "after day "+strconv.Itoa(day), c, day, nil, day+1)
		}
	}
	// A run may go on for longer than it may last at once.
	s, _, _ := impl.RunContract(c, 0, nil, impl.MaxAdvance)
	got, effects, ok := impl.ContinueRun(c, s, []impl.Event{on(2*impl.MaxAdvance, 1, "act")}, 2*impl.MaxAdvance)
	checkIsState(t, "ContinueRun", c, got, ok, stateOf(2*impl.MaxAdvance, nil))
	if !slices.Equal(effects, []int{impl.EffectFree}) {
		t.Errorf("effects %v", effects)
	}
	checkNoContinuation(t, "longer", c, s, nil, 2*impl.MaxAdvance+1)
	checkNoContinuation(t, "back", c, s, nil, impl.MaxAdvance-1)
	checkNoContinuation(t, "earlier event", c, s, []impl.Event{on(impl.MaxAdvance-1, 1, "act")}, 2*impl.MaxAdvance)
}

func TestTheFirstAndTheLastOfSeveralEventsAreInBounds(t *testing.T) {
	c := written(t, "pay: buyer must paid for seller within 2 days when go")
	for _, x := range []struct {
		days []int
		ok   bool
	}{
		{[]int{20, 30}, true}, {[]int{20, 25, 30}, true}, {[]int{19, 30}, false}, {[]int{19, 25, 30}, false}, {[]int{20, 31}, false}, {[]int{20, 25, 31}, false}, {[]int{19, 31}, false},
		{[]int{0, 25, 25, 25}, false}, {[]int{25, 25, 25, 500}, false}, {[]int{0, 10}, false}, {[]int{40, 50}, false},
	} {
		events := []impl.Event{}
		for _, day := range x.days {
			events = append(events, on(day, 0, "act"))
		}
		if _, _, ok := checkRun(t, c, 20, events, 30); ok != x.ok {
			t.Errorf("events on %v: %v", x.days, ok)
		}
		if !x.ok {
			checkNoRun(t, "bounds of several events", c, 20, events, 30)
		}
	}
}

func TestRunsNeedEventLists(t *testing.T) {
	c := trade(t)
	for name, e := range oddEvents() {
		for _, events := range [][]impl.Event{{e}, {on(5, 0, "act"), e}, {e, on(9, 2, "act")}, {on(5, 0, "act"), e, on(9, 2, "act")}} {
			checkNoRun(t, name, c, 5, events, 9)
			checkNoRun(t, name, c, 0, events, impl.MaxAdvance)
		}
	}
	for name, events := range map[string][]impl.Event{
		"a party too many":    {on(5, 3, "act")},
		"days descend":        {on(6, 0, "act"), on(5, 0, "act")},
		"days descend inside": {on(5, 0, "act"), on(7, 0, "act"), on(6, 0, "act"), on(9, 0, "act")},
		"parties descend":     {on(5, 1, "act"), on(5, 0, "act")},
		"actions descend":     {on(5, 1, "b"), on(5, 1, "a")},
		"amounts descend":     {paying(5, 1, "a", 2), paying(5, 1, "a", 1)},
		"41 events":           sameEvents(impl.MaxEvents + 1),
		"a million events":    sameEvents(1000000),
	} {
		checkNoRun(t, name, c, 5, events, 9)
		checkNoRun(t, name, c, 0, events, impl.MaxAdvance)
	}
	for _, count := range []int{1, 2, impl.MaxEvents - 1, impl.MaxEvents} {
		if _, trace, ok := checkRun(t, c, 5, sameEvents(count), 9); !ok || len(trace) != count {
			t.Errorf("%d events: %+v, %v", count, trace, ok)
		}
		if _, trace, ok := checkRun(t, c, 5, dailyEvents(5, count), 60); !ok || len(trace) != count {
			t.Errorf("%d daily events: %+v, %v", count, trace, ok)
		}
	}
	for parties := 2; parties <= impl.MaxParties; parties++ {
		c := contractOf(clauseOf(impl.Permission, "may"))
		c.Parties = manyParties(parties)
		for party := range 6 {
			if _, _, ok := checkRun(t, c, 0, []impl.Event{on(1, party, "act")}, 1); ok != (party < parties) {
				t.Errorf("party %d of %d: %v", party, parties, ok)
			}
		}
	}
}

func TestRunsHaveAtMostMaxDuties(t *testing.T) {
	c := counter(t)
	for until := range impl.MaxDuties {
		if s, trace, ok := checkRun(t, c, 0, nil, until); !ok || len(s.Duties) != until+1 || len(trace) != 2*until+1 {
			t.Errorf("until %d: %+v, %v", until, s, ok)
		}
	}
	last := impl.MaxDuties - 1
	for _, until := range []int{last + 1, last + 2, 100, impl.MaxAdvance} {
		for name, events := range map[string][]impl.Event{
			"no events": nil, "before": {on(0, 2, "none")}, "on the last day": {on(last, 2, "none")}, "after": {on(last+1, 2, "none")}, "too late to end": {on(last+1, 2, "stop")},
			"before and after": {on(3, 2, "none"), on(last, 2, "none"), on(last+1, 2, "none")},
		} {
			checkNoRun(t, name+" until "+strconv.Itoa(until), c, 0, events, until)
		}
		checkNoRun(t, "a ban", c, 0, []impl.Event{on(last, 1, "bad"), on(last, 2, "stop")}, until)
		checkNoRun(t, "a power", c, 0, []impl.Event{on(last, 1, "use"), on(last, 2, "stop")}, until)
		checkNoRun(t, "settling", c, 0, []impl.Event{on(last, 0, "fact"), on(last, 2, "stop")}, until)
		// An event that ends the contract or breaks the chain on the last day prevents it.
		for _, e := range []impl.Event{on(last, 2, "stop"), on(last, 0, "two")} {
			if _, _, ok := checkRun(t, c, 0, []impl.Event{e}, until); !ok {
				t.Errorf("%s: no run until %d", e.Action, until)
			}
		}
	}
	for _, until := range []int{last - 1, last} {
		events := []impl.Event{on(last-1, 1, "bad")}
		if _, _, ok := checkRun(t, c, 0, events, until); ok != (until < last) {
			t.Errorf("bad, until %d: %v", until, ok)
		}
	}
}

func TestRunsWithDuesAtTheLastDay(t *testing.T) {
	c := written(t,
		"sett: buyer must one for seller within 10 days when fact", "ban: buyer must not bad against seller when true else fine", "can: buyer can use toward seller when true then fine",
		"fine: buyer must two for seller within 10 days when true", "soon: buyer must three for seller within 0 days when go else fine",
	)
	last := impl.MaxDay - 10
	for action, kind := range map[string]string{"fact": "free -", "bad": "violated ban", "use": "power can"} {
		clause := "fine"
		if action == "fact" {
			clause = "sett"
		}
		day := strconv.Itoa(last)
		checkTrace(t, c, last-3, []impl.Event{on(last, 0, action)}, impl.MaxDay, day+" "+kind+" buyer", day+" activated "+clause+" buyer")
		checkNoRun(t, action, c, last-3, []impl.Event{on(last+1, 0, action)}, impl.MaxDay)
		checkNoRun(t, action, c, last+1, []impl.Event{on(last+1, 0, action)}, last+1)
		checkNoRun(t, action, c, last, []impl.Event{on(last+1, 0, action), on(impl.MaxDay, 0, action)}, impl.MaxDay)
	}
	checkTrace(t, c, last-1, []impl.Event{on(last-1, 0, "go")}, impl.MaxDay,
		strconv.Itoa(last-1)+" free - buyer", strconv.Itoa(last-1)+" activated soon buyer", strconv.Itoa(last)+" broken soon buyer", strconv.Itoa(last)+" activated fine buyer")
	checkNoRun(t, "repair", c, last, []impl.Event{on(last, 0, "go")}, impl.MaxDay)
	plain := written(t, "pay: buyer must paid for seller within 10 days when true")
	checkTrace(t, plain, last, []impl.Event{on(impl.MaxDay, 0, "paid")}, impl.MaxDay, strconv.Itoa(last)+" activated pay buyer", strconv.Itoa(impl.MaxDay)+" performed pay buyer")
	checkTrace(t, plain, last, nil, impl.MaxDay, strconv.Itoa(last)+" activated pay buyer")
	for start := last + 1; start <= impl.MaxDay; start++ {
		checkNoRun(t, "start", plain, start, nil, start)
	}
}

func TestRunsWithBalancesAtTheirLimits(t *testing.T) {
	c := written(t,
		"may: bank may rest for seller when true", "back: seller must back for buyer paying 100.00 within 10 days when true", "pay: buyer must paid for seller paying 100.00 within 10 days when true",
	)
	const price = 10000
	events := []impl.Event{paying(5, 0, "paid", price), paying(6, 1, "back", price)}
	for _, x := range []struct {
		balances []int
		ok       bool
	}{
		{[]int{0, 0, 0}, true},
		{[]int{0, impl.MaxMoney - price, price - impl.MaxMoney}, true},
		{[]int{0, impl.MaxMoney - price + 1, price - impl.MaxMoney - 1}, false},
		{[]int{price - impl.MaxMoney, 0, impl.MaxMoney - price}, true},
		{[]int{price - impl.MaxMoney - 1, 0, impl.MaxMoney - price + 1}, false},
		{[]int{-impl.MaxMoney, impl.MaxMoney, 0}, false},
		{[]int{impl.MaxMoney, -impl.MaxMoney, 0}, true},
	} {
		s := impl.State{Day: 4, Duties: []impl.Duty{{Clause: 1, Since: 4, Due: 14, Status: open}, {Clause: 2, Since: 4, Due: 14, Status: open}}, Balances: x.balances}
		if !x.ok {
			// The balances would be amounts again after the second event.
			checkNoContinuation(t, "balances", c, s, events, 9)
			checkNoContinuation(t, "balances", c, s, events[:1], 9)
			checkNoContinuation(t, "balances", c, s, events[:1], 5)
			continue
		}
		got, effects, ok := impl.ContinueRun(c, s, events, 9)
		checkIsState(t, "ContinueRun", c, got, ok, edit(s, func(s *impl.State) {
			s.Day, s.Facts, s.Duties[0].Status, s.Duties[1].Status = 9, []string{"back", "paid"}, done, done
		}))
		if !slices.Equal(effects, []int{impl.EffectPerformed, impl.EffectPerformed}) {
			t.Errorf("effects %v", effects)
		}
		half, _, ok := impl.ContinueRun(c, s, events[:1], 5)
		want := edit(s, func(s *impl.State) { s.Day, s.Facts, s.Duties[1].Status = 5, []string{"paid"}, done })
		want.Balances = []int{x.balances[0] - price, x.balances[1] + price, x.balances[2]}
		checkIsState(t, "ContinueRun", c, half, ok, want)
	}
}

func TestTheLongestTraceOfARun(t *testing.T) {
	c := written(t, "ban: seller must not bad against buyer when not stop else fine", "fine: seller must one for buyer within 0 days when true")
	events := slices.Repeat([]impl.Event{on(4, 1, "bad")}, impl.MaxDuties)
	events = append(events, slices.Repeat([]impl.Event{on(4, 2, "none")}, impl.MaxEvents-impl.MaxDuties)...)
	lines := slices.Repeat([]string{"4 violated ban seller", "4 activated fine seller"}, impl.MaxDuties)
	lines = append(lines, slices.Repeat([]string{"4 free - bank"}, impl.MaxEvents-impl.MaxDuties)...)
	checkTrace(t, c, 4, events, 4, lines...)
	lines = append(lines, slices.Repeat([]string{"5 broken fine seller"}, impl.MaxDuties)...)
	if len(lines) != impl.MaxEvents+2*impl.MaxDuties || len(lines) > impl.MaxTrace {
		t.Errorf("%d entries", len(lines))
	}
	checkTrace(t, c, 4, events, 4+impl.MaxAdvance, lines...)
}

func TestInvalidContractsHaveNoRuns(t *testing.T) {
	base, _ := impl.StartState(sale(), 7)
	for name, c := range invalidContracts() {
		for _, events := range [][]impl.Event{nil, {on(7, 0, "resold")}, {on(8, 1, "cancel")}} {
			checkNoRun(t, name, c, 7, events, 9)
			for _, s := range []impl.State{base, {}, {Day: 7, Balances: make([]int, len(c.Parties))}} {
				checkNoContinuation(t, name, c, s, events, 9)
				checkNoContinuation(t, name, c, s, events, s.Day)
			}
		}
		for _, s := range []impl.State{base, {}, {Day: 7, Balances: make([]int, len(c.Parties))}} {
			if fulfilled, ok := impl.IsFulfilled(c, s); fulfilled || ok {
				t.Errorf("%s: IsFulfilled = %v, %v", name, fulfilled, ok)
			}
		}
		checkNoTraceAnswers(t, name, c, nil)
		checkNoTraceAnswers(t, name, c, []impl.Entry{{Day: 3, Kind: impl.TraceFree, Clause: -1, Party: 1}})
		checkNoTraceAnswers(t, name, c, []impl.Entry{{Day: 3, Kind: impl.TraceBroken, Clause: 0, Party: 0}})
	}
}

func TestInvalidStatesAreNotContinued(t *testing.T) {
	c, full := fullState(t)
	if _, effects, ok := impl.ContinueRun(c, full, []impl.Event{on(7, 1, "sign"), on(8, 1, "cancel")}, 9); !ok || !slices.Equal(effects, []int{impl.EffectPerformed, impl.EffectFree}) {
		t.Fatalf("ContinueRun = %v, %v", effects, ok)
	}
	for name, change := range demandsOfStates() {
		odd := edit(full, change)
		for _, until := range []int{0, odd.Day, odd.Day + 1, 7, 8, 9, impl.MaxAdvance} {
			checkNoContinuation(t, name, c, odd, nil, until)
			checkNoContinuation(t, name, c, odd, []impl.Event{on(min(max(until, 0), impl.MaxDay), 1, "sign")}, until)
		}
		if fulfilled, ok := impl.IsFulfilled(c, odd); fulfilled || ok {
			t.Errorf("%s: IsFulfilled = %v, %v", name, fulfilled, ok)
		}
	}
}

func TestARunGoesOnFromAnyValidState(t *testing.T) {
	// The contract would have settled: that is made up for by the next event or the next day.
	c := written(t, "pay: buyer must paid for seller within 3 days when true", "send: seller must sent for buyer within 2 days when not paid")
	s := stateOf(5, nil)
	pay, send := impl.Duty{Clause: 0, Since: 5, Due: 8, Status: open}, impl.Duty{Clause: 1, Since: 5, Due: 7, Status: open}
	for _, x := range []struct {
		events []impl.Event
		until  int
		want   impl.State
	}{
		{nil, 5, s},
		{nil, 6, stateOf(6, nil, impl.Duty{Clause: 0, Since: 6, Due: 9, Status: open}, impl.Duty{Clause: 1, Since: 6, Due: 8, Status: open})},
		{[]impl.Event{on(5, 2, "none")}, 5, stateOf(5, nil, pay, send)},
		{[]impl.Event{on(5, 2, "paid")}, 5, stateOf(5, []string{"paid"}, pay)},
		{[]impl.Event{on(5, 2, "paid")}, 6, stateOf(6, []string{"paid"}, pay)},
	} {
		got, effects, ok := impl.ContinueRun(c, s, x.events, x.until)
		checkIsState(t, "ContinueRun", c, got, ok, x.want)
		if len(effects) != len(x.events) {
			t.Errorf("effects %v", effects)
		}
	}
}

func TestAContractIsFulfilledIfNoDutyIsOpenOrBroken(t *testing.T) {
	c := written(t, "ban: seller must not bad against buyer when true else fine", "fine: seller must one for buyer within 3 days when true")
	for _, x := range []struct {
		statuses []int
		over     bool
		want     bool
	}{
		{nil, false, true}, {nil, true, true}, {[]int{open}, false, false}, {[]int{done}, false, true}, {[]int{done}, true, true}, {[]int{broken}, false, false}, {[]int{broken}, true, false}, {[]int{ended}, true, true},
		{[]int{done, done}, false, true}, {[]int{done, open}, false, false}, {[]int{open, done}, false, false}, {[]int{done, broken, done}, false, false}, {[]int{broken, open}, false, false},
		{[]int{ended, done, ended}, true, true}, {[]int{ended, done, broken}, true, false}, {[]int{broken, ended, ended}, true, false},
	} {
		s := impl.State{Day: 9, Over: x.over, Balances: []int{0, 0, 0}}
		for _, status := range x.statuses {
			d := impl.Duty{Clause: 1, Since: 5, Due: 8, Status: status}
			if status == open {
				d.Since, d.Due = 9, 12
			}
			s.Duties = append(s.Duties, d)
		}
		slices.SortFunc(s.Duties, func(a, b impl.Duty) int { return a.Since - b.Since })
		if got, ok := impl.IsFulfilled(c, s); !ok || got != x.want {
			t.Errorf("IsFulfilled(%+v) = %v, %v", s, got, ok)
		}
	}
}

// fullTrace is a trace with entries of all kinds, and its contract.
func fullTrace(t *testing.T) (impl.Contract, []impl.Entry) {
	c, _ := fullState(t)
	return c, entriesOf(t, c,
		"0 activated send seller", "0 free - bank", "4 broken send seller", "4 activated fine buyer", "5 performed fine buyer", "5 violated ban buyer", "5 activated fine buyer",
		"8 violated ban buyer", "9 broken fine buyer", "9 power can seller", "9 late - buyer", "36524 late - bank",
	)
}

func TestAnswersAboutATrace(t *testing.T) {
	c, trace := fullTrace(t)
	checkTraceAnswers(t, c, trace)
	for kind, want := range map[int]int{
		impl.TraceActivated: 3, impl.TraceBroken: 2, impl.TracePerformed: 1, impl.TraceViolated: 2, impl.TracePower: 1, impl.TraceFree: 1, impl.TraceLate: 2,
	} {
		if count, ok := impl.CountEntries(c, trace, kind); !ok || count != want {
			t.Errorf("CountEntries(%d) = %d, %v", kind, count, ok)
		}
	}
	for from, want := range []int{2, 1, 0, 2, 1, 0, 1, 0, 0, -1, -1, -1, -1} {
		if i, ok := impl.FirstBreach(c, trace[from:]); !ok || i != want {
			t.Errorf("FirstBreach from %d on = %d, %v", from, i, ok)
		}
	}
	for party, want := range [][]string{{"5 violated ban buyer", "8 violated ban buyer", "9 broken fine buyer"}, {"4 broken send seller"}, {}} {
		if list, ok := impl.BreachesBy(c, trace, party); !ok || !slices.Equal(list, entriesOf(t, c, want...)) {
			t.Errorf("BreachesBy(%d) = %+v, %v", party, list, ok)
		}
	}
	want := "2000-01-01 activated send by seller\n2000-01-01 free - by bank\n2000-01-05 broken send by seller\n2000-01-05 activated fine by buyer\n2000-01-06 performed fine by buyer\n" +
		"2000-01-06 violated ban by buyer\n2000-01-06 activated fine by buyer\n2000-01-09 violated ban by buyer\n2000-01-10 broken fine by buyer\n2000-01-10 power can by seller\n" +
		"2000-01-10 late - by buyer\n2099-12-31 late - by bank\n"
	if text, ok := impl.FormatTrace(c, trace); !ok || text != want {
		t.Errorf("FormatTrace = %q, %v", text, ok)
	}
	for length := range len(trace) + 1 {
		checkTraceAnswers(t, c, trace[:length])
	}
}

func TestATraceWithoutEntries(t *testing.T) {
	c, _ := fullTrace(t)
	for _, trace := range [][]impl.Entry{nil, {}} {
		checkTraceAnswers(t, c, trace)
		if i, ok := impl.FirstBreach(c, trace); !ok || i != -1 {
			t.Errorf("FirstBreach = %d, %v", i, ok)
		}
		if text, ok := impl.FormatTrace(c, trace); !ok || text != "" {
			t.Errorf("FormatTrace = %q, %v", text, ok)
		}
		for _, kind := range notTraceKinds {
			if count, ok := impl.CountEntries(c, trace, kind); ok || count != 0 {
				t.Errorf("CountEntries(%d) = %d, %v", kind, count, ok)
			}
		}
	}
}

func TestKindsAndPartiesThatThereAreNot(t *testing.T) {
	c, trace := fullTrace(t)
	for _, kind := range notTraceKinds {
		if count, ok := impl.CountEntries(c, trace, kind); ok || count != 0 {
			t.Errorf("CountEntries(%d) = %d, %v", kind, count, ok)
		}
	}
	for _, party := range []int{-1, 3, 4, 1 << 32, math.MinInt, math.MaxInt} {
		if list, ok := impl.BreachesBy(c, trace, party); ok || len(list) > 0 {
			t.Errorf("BreachesBy(%d) = %+v, %v", party, list, ok)
		}
		if list, ok := impl.BreachesBy(c, nil, party); ok || len(list) > 0 {
			t.Errorf("BreachesBy(%d) of no entries = %+v, %v", party, list, ok)
		}
	}
	// The last party of four has no entry, and the one after it does not exist.
	c.Parties = manyParties(4)
	for party, want := range []bool{true, true, true, true, false} {
		if list, ok := impl.BreachesBy(c, trace, party); ok != want || party >= 2 && len(list) > 0 {
			t.Errorf("BreachesBy(%d) = %+v, %v", party, list, ok)
		}
	}
}

// traceFaults are the demands that a trace does not fulfil for a valid contract.
func traceFaults(c impl.Contract, trace []impl.Entry) []string {
	faults := []string{}
	demand := func(fulfilled bool, name string) {
		if !fulfilled {
			faults = append(faults, name)
		}
	}
	demand(len(trace) <= impl.MaxTrace, "number")
	for i, e := range trace {
		demand(e.Day >= 0 && e.Day <= impl.MaxDay, "Day")
		demand(i == 0 || e.Day >= trace[i-1].Day, "order")
		demand(e.Kind >= 1 && e.Kind <= 7, "Kind")
		demand(e.Party >= 0 && e.Party < len(c.Parties), "Party")
		if e.Kind == impl.TraceFree || e.Kind == impl.TraceLate {
			demand(e.Clause == -1, "no Clause")
		} else {
			demand(e.Clause >= 0 && e.Clause < len(c.Clauses), "Clause")
		}
	}
	return faults
}

func TestEveryDemandOfATraceCounts(t *testing.T) {
	c, trace := fullTrace(t)
	check := func(name string, odd []impl.Entry, fault string) {
		t.Helper()
		if faults := traceFaults(c, odd); len(faults) != 1 || faults[0] != fault {
			t.Errorf("%s has the faults %v, not %s", name, faults, fault)
		}
		checkNoTraceAnswers(t, name, c, odd)
	}
	for i, e := range trace {
		at := kindWords[e.Kind] + " " + strconv.Itoa(i) + ": "
		change := func(name string, fault string, edit func(e *impl.Entry)) {
			t.Helper()
			// Alone, so that the order of the days is not disturbed, and in its place.
			alone := e
			edit(&alone)
			check(at+name+" alone", []impl.Entry{alone}, fault)
			odd := slices.Clone(trace)
			edit(&odd[i])
			if fault != "Day" {
				check(at+name, odd, fault)
			} else {
				checkNoTraceAnswers(t, at+name, c, odd)
			}
		}
		for _, day := range notDays {
			change("Day "+strconv.Itoa(day), "Day", func(e *impl.Entry) { e.Day = day })
		}
		for _, party := range []int{-1, 3, 4, 1 << 32, math.MinInt, math.MaxInt} {
			change("Party "+strconv.Itoa(party), "Party", func(e *impl.Entry) { e.Party = party })
		}
		if e.Clause == -1 {
			for _, clause := range []int{0, 1, 6, 7, -2, math.MinInt, math.MaxInt} {
				change("Clause "+strconv.Itoa(clause), "no Clause", func(e *impl.Entry) { e.Clause = clause })
			}
			continue
		}
		for _, clause := range []int{-1, -2, 7, 8, 12, 1 << 32, math.MinInt, math.MaxInt} {
			change("Clause "+strconv.Itoa(clause), "Clause", func(e *impl.Entry) { e.Clause = clause })
		}
		for _, kind := range notTraceKinds {
			change("Kind "+strconv.Itoa(kind), "Kind", func(e *impl.Entry) { e.Kind = kind })
		}
		for _, kind := range []int{impl.TraceFree, impl.TraceLate} {
			change("another Kind", "no Clause", func(e *impl.Entry) { e.Kind = kind })
		}
	}
	for _, kind := range notTraceKinds {
		for _, clause := range []int{-1, 0} {
			checkNoTraceAnswers(t, "Kind "+strconv.Itoa(kind), c, []impl.Entry{{Kind: kind, Clause: clause}})
		}
	}
}

func TestDaysOfATraceDoNotDecrease(t *testing.T) {
	c, trace := fullTrace(t)
	for i := 1; i < len(trace); i++ {
		same := slices.Clone(trace)
		same[i].Day = same[i-1].Day
		for k := i + 1; k < len(same); k++ {
			same[k].Day = impl.MaxDay
		}
		checkTraceAnswers(t, c, same)
		if same[i-1].Day == 0 {
			same[i-1].Day = 1
		}
		same[i].Day = same[i-1].Day - 1
		checkNoTraceAnswers(t, "entry "+strconv.Itoa(i), c, same)
		checkNoTraceAnswers(t, "entries "+strconv.Itoa(i), c, same[i-1:i+1])
	}
}

func TestTracesAtTheirLimits(t *testing.T) {
	c, trace := fullTrace(t)
	for _, e := range trace {
		for _, count := range []int{impl.MaxTrace - 1, impl.MaxTrace} {
			checkTraceAnswers(t, c, slices.Repeat([]impl.Entry{e}, count))
		}
		for _, count := range []int{impl.MaxTrace + 1, impl.MaxTrace + 2, 100000} {
			checkNoTraceAnswers(t, strconv.Itoa(count), c, slices.Repeat([]impl.Entry{e}, count))
		}
	}
	// The text of a trace may be longer than a string of chapter 1.
	long := changed(c, func(c *impl.Contract) { c.Parties[1], c.Clauses[2].Id = "abcdefgh", "hgfedcba" })
	text, ok := impl.FormatTrace(long, slices.Repeat([]impl.Entry{{Day: 0, Kind: impl.TraceActivated, Clause: 2, Party: 1}}, impl.MaxTrace))
	if want := strings.Repeat("2000-01-01 activated hgfedcba by abcdefgh\n", impl.MaxTrace); !ok || text != want || len(text) <= impl.MaxString {
		t.Errorf("FormatTrace of %d entries has %d bytes, %v", impl.MaxTrace, len(text), ok)
	}
	// A trace names any clause and any party, also those that do not go together.
	for kind := impl.TraceActivated; kind <= impl.TracePower; kind++ {
		for clause := range c.Clauses {
			for party := range c.Parties {
				checkTraceAnswers(t, c, []impl.Entry{{Day: 0, Kind: kind, Clause: clause, Party: party}, {Day: impl.MaxDay, Kind: impl.TraceLate, Clause: -1, Party: party}})
			}
		}
	}
}

func TestTheTextOfEveryKind(t *testing.T) {
	c, _ := fullTrace(t)
	for kind, want := range map[int]string{
		impl.TraceActivated: "2004-02-29 activated pay by bank\n", impl.TraceBroken: "2004-02-29 broken pay by bank\n", impl.TracePerformed: "2004-02-29 performed pay by bank\n",
		impl.TraceViolated: "2004-02-29 violated pay by bank\n", impl.TracePower: "2004-02-29 power pay by bank\n", impl.TraceFree: "2004-02-29 free - by bank\n", impl.TraceLate: "2004-02-29 late - by bank\n",
	} {
		e := impl.Entry{Day: 1520, Kind: kind, Clause: 0, Party: 2}
		if kind >= impl.TraceFree {
			e.Clause = -1
		}
		if text, ok := impl.FormatTrace(c, []impl.Entry{e}); !ok || text != want {
			t.Errorf("FormatTrace = %q, %v, not %q", text, ok, want)
		}
		if text, ok := impl.FormatTrace(c, []impl.Entry{e, e}); !ok || text != want+want {
			t.Errorf("FormatTrace of two = %q, %v", text, ok)
		}
	}
}

func TestRandomTraces(t *testing.T) {
	random := rand.New(rand.NewSource(101))
	valid, invalid := 0, 0
	for range 4000 {
		c := busyContract(random, 0)
		trace, day := []impl.Entry{}, random.Intn(3)
		for range random.Intn(20) {
			day += random.Intn(3)
			e := impl.Entry{Day: day, Kind: 1 + random.Intn(7), Clause: random.Intn(len(c.Clauses)), Party: random.Intn(len(c.Parties))}
			if e.Kind >= impl.TraceFree {
				e.Clause = -1
			}
			trace = append(trace, e)
		}
		if len(trace) > 0 && random.Intn(2) == 0 {
			e := &trace[random.Intn(len(trace))]
			for _, field := range [][]*int{{&e.Day}, {&e.Kind}, {&e.Kind}, {&e.Clause}, {&e.Party}}[random.Intn(5)] {
				*field += random.Intn(9) - 4
			}
		}
		if len(traceFaults(c, trace)) == 0 {
			checkTraceAnswers(t, c, trace)
			valid++
		} else {
			checkNoTraceAnswers(t, "random", c, trace)
			invalid++
		}
	}
	if valid < 500 || invalid < 500 {
		t.Errorf("%d valid and %d invalid traces", valid, invalid)
	}
}

// busyEvents are events of a busy contract in their order, many of them on one day.
func busyEvents(random *rand.Rand, c impl.Contract, start int, until int) []impl.Event {
	days := make([]int, 1+random.Intn(4))
	for i := range days {
		days[i] = min(start+random.Intn(until-start+1), impl.MaxDay)
	}
	events := make([]impl.Event, random.Intn(14))
	for i := range events {
		events[i] = busyEvent(random, c, days[random.Intn(len(days))])
	}
	return modelSorted(events)
}

func TestRandomRuns(t *testing.T) {
	random := rand.New(rand.NewSource(102))
	kinds, runs, failures, ended, crowded := make([]int, 8), 0, 0, 0, 0
	for range 2500 {
		start := []int{0, 0, 500, impl.MaxDay - 12}[random.Intn(4)]
		until := start + random.Intn(20)
		c := busyContract(random, start)
		s, trace, ok := checkRun(t, c, start, busyEvents(random, c, start, until), until)
		if !ok {
			failures++
			continue
		}
		runs++
		for i, e := range trace {
			kinds[e.Kind]++
			if i > 1 && trace[i-2].Day == e.Day && e.Kind > impl.TraceBroken && trace[i-2].Kind > impl.TraceBroken {
				crowded++
			}
		}
		if s.Over {
			ended++
		}
	}
	if runs < 1000 || failures < 100 || ended < 100 || crowded < 1000 || slices.Min(kinds[1:]) < 200 {
		t.Errorf("%d runs, %d of them ended, %d failures, %d neighbors, kinds %v", runs, ended, failures, crowded, kinds)
	}
}

func TestRandomContinuations(t *testing.T) {
	random := rand.New(rand.NewSource(103))
	runs, failures, odd := 0, 0, 0
	for range 1500 {
		start := []int{0, 300, impl.MaxDay - 15}[random.Intn(3)]
		c := busyContract(random, start)
		s, _ := impl.StartState(c, start)
		for range 4 {
			if other := changedState(random, s); len(stateFaults(c, other)) == 0 {
				s = other
				odd++
			}
			until := s.Day + random.Intn(8)
			events := busyEvents(random, c, s.Day, until)
			want := &modelRun{modelMachine: newModelMachine(c, s)}
			wantOk := want.play(events, until)
			got, effects, ok := impl.ContinueRun(c, s, events, until)
			checkIsRun(t, "ContinueRun", c, got, effects, ok, want, wantOk)
			if !ok {
				failures++
				break
			}
			runs++
			s = got
		}
	}
	if runs < 2000 || failures < 100 || odd < 500 {
		t.Errorf("%d runs, %d failures, %d changed states", runs, failures, odd)
	}
}

func TestRandomRunsThatAreLong(t *testing.T) {
	random := rand.New(rand.NewSource(104))
	runs := 0
	for range 60 {
		c := busyContract(random, 300)
		events := modelSorted(append(busyEvents(random, c, 0, 900), busyEvents(random, c, 290, 320)...))
		if _, _, ok := checkRun(t, c, 0, events, impl.MaxAdvance-random.Intn(3)); ok {
			runs++
		}
	}
	if runs < 20 {
		t.Errorf("only %d runs", runs)
	}
}

func TestContractsOfChapterSixAreRun(t *testing.T) {
	random := rand.New(rand.NewSource(105))
	for _, c := range validContracts() {
		start := []int{0, 4, 999, impl.MaxDay - impl.MaxWithin}[random.Intn(4)]
		events := []impl.Event{}
		for range 5 {
			x := c.Clauses[random.Intn(len(c.Clauses))]
			events = append(events, paying(start+random.Intn(9), x.Party, x.Action, x.Amount))
		}
		checkRun(t, c, start, modelSorted(events), start+8+random.Intn(20))
	}
}

// askRuns calls all functions of the chapter.
func askRuns(c impl.Contract, s impl.State, events []impl.Event, until int, trace []impl.Entry) {
	impl.RunContract(c, s.Day, events, until)
	impl.RunContract(c, s.Day, events, until-1)
	impl.ContinueRun(c, s, events, until)
	impl.ContinueRun(c, s, events, s.Day)
	impl.TraceContract(c, s.Day, events, until)
	impl.IsFulfilled(c, s)
	impl.FirstBreach(c, trace)
	impl.FormatTrace(c, trace)
	for i := range 8 {
		impl.CountEntries(c, trace, i)
		impl.BreachesBy(c, trace, i)
	}
}

func TestArgumentsOfRunsStayAsTheyAre(t *testing.T) {
	random := rand.New(rand.NewSource(106))
	for range 300 {
		c := busyContract(random, 0)
		kept := deepCopyContract(c)
		s, _ := impl.StartState(c, 0)
		for range 3 {
			until := s.Day + random.Intn(6)
			events := busyEvents(random, c, s.Day, until)
			trace, _ := impl.TraceContract(c, s.Day, events, until)
			// The arguments have room behind their lengths, which is to stay as it is, too.
			state, stateRoom := roomy(s)
			stateBefore := deepCopyState(stateRoom)
			eventRoom := append(slices.Clone(events), impl.Event{Day: -1}, on(s.Day, 0, "a"))
			traceRoom := append(slices.Clone(trace), impl.Entry{Kind: 9}, impl.Entry{Kind: impl.TraceBroken})
			eventsBefore, traceBefore := slices.Clone(eventRoom), slices.Clone(traceRoom)
			askRuns(c, state, eventRoom[:len(events)], until, traceRoom[:len(trace)])
			if !sameState(stateRoom, stateBefore) || state.Day != s.Day || state.Over != s.Over || !slices.Equal(eventRoom, eventsBefore) || !slices.Equal(traceRoom, traceBefore) {
				t.Fatalf("%+v, %+v, %+v became %+v, %+v, %+v", stateBefore, eventsBefore, traceBefore, stateRoom, eventRoom, traceRoom)
			}
			if !impl.EqualContracts(c, kept) {
				t.Fatalf("%sbecame\n%s", modelContract(kept), modelContract(c))
			}
			want, effects, ok := impl.ContinueRun(c, deepCopyState(s), slices.Clone(events), until)
			got, same, gotOk := impl.ContinueRun(c, state, eventRoom[:len(events)], until)
			if ok != gotOk || !sameState(got, want) || !slices.Equal(same, effects) {
				t.Fatalf("ContinueRun = %+v, %v, not %+v, %v", got, same, want, effects)
			}
			if ok {
				s = got
			}
		}
	}
}

// runAnswers are the slices that the functions of the chapter return.
type runAnswers struct {
	states   []impl.State
	effects  [][]int
	traces   [][]impl.Entry
	breaches [][]impl.Entry
}

// answersOfRuns are the answers for the contract of fullState.
func answersOfRuns(c impl.Contract, s impl.State, events []impl.Event, trace []impl.Entry) runAnswers {
	run, effects, _ := impl.RunContract(c, 7, events, 12)
	again, againEffects, _ := impl.ContinueRun(c, s, events, 12)
	same, sameEffects, _ := impl.ContinueRun(c, s, nil, 7)
	traced, _ := impl.TraceContract(c, 7, events, 12)
	buyer, _ := impl.BreachesBy(c, trace, 0)
	all, _ := impl.BreachesBy(c, trace[7:9], 0)
	return runAnswers{[]impl.State{run, again, same}, [][]int{effects, againEffects, sameEffects}, [][]impl.Entry{traced}, [][]impl.Entry{buyer, all}}
}

// spoil overwrites everything in the answers, with the room behind their lengths.
func (a runAnswers) spoil() {
	for _, s := range a.states {
		spoilState(s)
	}
	for _, effects := range a.effects {
		for i := range effects[:cap(effects)] {
			effects[:cap(effects)][i] = -5
		}
	}
	for _, trace := range append(slices.Clone(a.traces), a.breaches...) {
		clear(trace[:cap(trace)])
	}
}

// equal compares all answers.
func (a runAnswers) equal(b runAnswers) bool {
	return slices.EqualFunc(a.states, b.states, sameState) && slices.EqualFunc(a.effects, b.effects, slices.Equal[[]int]) &&
		slices.EqualFunc(a.traces, b.traces, slices.Equal[[]impl.Entry]) && slices.EqualFunc(a.breaches, b.breaches, slices.Equal[[]impl.Entry])
}

func TestRunsAreReturnedInMemoryOfTheirOwn(t *testing.T) {
	c, full := fullState(t)
	_, trace := fullTrace(t)
	events := []impl.Event{on(7, 1, "sent"), on(7, 1, "sign"), on(8, 0, "penalty"), on(8, 0, "resold")}
	kept := answersOfRuns(c, full, events, trace)
	if len(kept.effects[1]) != 4 || len(kept.traces[0]) < 5 || len(kept.breaches[0]) != 3 || len(kept.states[1].Duties) != 5 {
		t.Fatalf("answers %+v", kept)
	}
	spoiled, s, list, entries := deepCopyContract(c), deepCopyState(full), slices.Clone(events), slices.Clone(trace)
	got := answersOfRuns(spoiled, s, list, entries)
	spoilContract(spoiled)
	spoilState(s)
	clear(list)
	clear(entries)
	if !got.equal(kept) {
		t.Errorf("answers keep their arguments: %+v", got)
	}
	s, list, entries = deepCopyState(full), slices.Clone(events), slices.Clone(trace)
	got = answersOfRuns(c, s, list, entries)
	got.spoil()
	if !sameState(s, full) || !slices.Equal(list, events) || !slices.Equal(entries, trace) {
		t.Error("answers give their arguments away")
	}
	if again := answersOfRuns(c, full, events, trace); !again.equal(kept) {
		t.Errorf("other answers: %+v", again)
	}
	// The two results of one call have nothing in common either.
	run, effects, _ := impl.RunContract(c, 7, events, 12)
	runKept := deepCopyState(run)
	runAnswers{effects: [][]int{effects}}.spoil()
	if !sameState(run, runKept) {
		t.Errorf("the effects are part of %+v", run)
	}
}

func TestFactsOfRunsHaveMemoryOfTheirOwn(t *testing.T) {
	c := trade(t)
	events := []impl.Event{on(3, 1, "sent"), on(4, 0, "resold")}
	for i := range events {
		events[i].Action = strings.Clone(events[i].Action)
	}
	s, _, _ := impl.RunContract(c, 3, events, 4)
	facts := slices.Clone(s.Facts)
	again, _, _ := impl.ContinueRun(c, s, nil, 9)
	for _, name := range append(facts, again.Facts...) {
		for _, e := range events {
			if isPartOf(name, e.Action) {
				t.Errorf("%s is the Action of an event", name)
			}
		}
		for _, x := range c.Clauses {
			if isPartOf(name, x.Action) {
				t.Errorf("%s is the Action of a clause", name)
			}
		}
	}
	if len(facts) != 2 || isPartOf(again.Facts[0], s.Facts[0]) {
		t.Errorf("facts %v", facts)
	}
}

func TestRunsAreDeterminedAndLeaveNothingBehind(t *testing.T) {
	c, full := fullState(t)
	_, trace := fullTrace(t)
	events := []impl.Event{on(7, 1, "sent"), on(7, 1, "sign"), on(8, 0, "penalty"), on(8, 0, "resold")}
	kept := answersOfRuns(c, full, events, trace)
	before := runtime.NumGoroutine()
	var group sync.WaitGroup
	for range 8 {
		group.Go(func() {
			for range 50 {
				got := answersOfRuns(c, full, events, trace)
				if !got.equal(kept) {
					t.Errorf("answers %+v, not %+v", got, kept)
				}
				got.spoil()
				impl.RunContract(counter(t), 0, events, impl.MaxAdvance)
			}
		})
	}
	group.Wait()
	// A goroutine that has nothing more to do may take a moment to disappear.
	for range 100 {
		if runtime.NumGoroutine() <= before {
			return
		}
		time.Sleep(10 * time.Millisecond)
	}
	t.Errorf("%d goroutines, and %d before", runtime.NumGoroutine(), before)
}
