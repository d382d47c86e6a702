package tests

import (
	"math"
	"slices"
	"strings"
	"testing"

	"loop.example/thingstead/impl"
)

// progOf is the program with that text.
func progOf(t *testing.T, text string) []impl.Ins {
	t.Helper()
	prog, ok := impl.ProgRead(text)
	if !ok {
		t.Fatalf("%q is no program", text)
	}
	return prog
}

// boxesOf is the boxes with that text.
func boxesOf(t *testing.T, text string) []impl.Box {
	t.Helper()
	list, ok := impl.BoxRead(text)
	if !ok {
		t.Fatalf("%q is no boxes", text)
	}
	return list
}

// sameRun holds runs against each other without the program's own ExecSame.
func sameRun(a impl.Run, b impl.Run) bool {
	return slices.Equal(a.Reads, b.Reads) && slices.Equal(a.Puts, b.Puts) && a.Val == b.Val && a.Code == b.Code
}

func wantRun(t *testing.T, list []impl.Box, prog []impl.Ins, want impl.Run) {
	t.Helper()
	got := impl.ExecRun(list, prog)
	if !sameRun(got, want) {
		t.Errorf("%q on %q is %v, not %v", impl.ProgText(prog), impl.BoxText(list), got, want)
	}
	if !impl.ExecOk(got) {
		t.Errorf("%q on %q is %v, which is not ok", impl.ProgText(prog), impl.BoxText(list), got)
	}
}

// someBoxes has another Ver and another number in each box, so that none can be taken for another one.
const someBoxes = "100/10 200/20 300/30 -400/40"

type runCase struct {
	prog string
	want impl.Run
}

func wantRuns(t *testing.T, boxes string, cases []runCase) {
	t.Helper()
	for _, c := range cases {
		wantRun(t, boxesOf(t, boxes), progOf(t, c.prog), c.want)
	}
}

// draws is numbers that hang on nothing but the seed.
type draws uint32

func (d *draws) below(most int) int {
	*d = *d*1664525 + 1013904223
	return int(*d>>8) % most
}

func (d *draws) boxes() []impl.Box {
	vals := []int{-impl.BoxMax, 1 - impl.BoxMax, -3, -1, 0, 1, 2, 5, 700, impl.BoxMax - 1, impl.BoxMax}
	vers := []int{0, 1, 2, 9, impl.BoxMax - 1, impl.BoxMax}
	list := make([]impl.Box, impl.BoxAll)
	for place := range list {
		list[place] = impl.Box{Ver: vers[d.below(len(vers))], Val: vals[d.below(len(vals))]}
	}
	return list
}

// ins leaves fails rare, so that most runs get far.
func (d *draws) ins() impl.Ins {
	nums := []int{-impl.BoxMax, -2, -1, 0, 1, 2, 3, impl.BoxMax}
	a, b := d.below(4), d.below(4)
	switch kind := d.below(26); {
	case kind < 6:
		return impl.Ins{Kind: impl.ProgLoad, A: a, B: b}
	case kind < 12:
		return impl.Ins{Kind: impl.ProgPut, A: a, B: b}
	case kind < 15:
		return impl.Ins{Kind: impl.ProgNum, A: a, N: nums[d.below(len(nums))]}
	case kind < 18:
		return impl.Ins{Kind: impl.ProgAdd, A: a, B: b}
	case kind < 21:
		return impl.Ins{Kind: impl.ProgSub, A: a, B: b}
	case kind < 25:
		return impl.Ins{Kind: impl.ProgLess, A: a, B: b, N: 1 + d.below(impl.ProgMax)}
	}
	return impl.Ins{Kind: impl.ProgFail}
}

func (d *draws) prog() []impl.Ins {
	list := make([]impl.Ins, d.below(impl.ProgMax+1))
	for place := range list {
		list[place] = d.ins()
	}
	return list
}

func looksInto(r impl.Run, box int) bool {
	return slices.ContainsFunc(r.Reads, func(read impl.Read) bool { return read.Box == box })
}

// wantSameOnOthers changes all boxes that the run did not look into, together and one by one.
func wantSameOnOthers(t *testing.T, list []impl.Box, prog []impl.Ins, others []impl.Box) {
	t.Helper()
	run := impl.ExecRun(list, prog)
	together := slices.Clone(list)
	for box := range list {
		if looksInto(run, box) {
			continue
		}
		together[box] = others[box]
		alone := slices.Clone(list)
		alone[box] = others[box]
		wantRun(t, alone, prog, run)
	}
	wantRun(t, together, prog, run)
}

// Promise 3.
func TestARunHangsOnTheBoxesThatItLookedInto(t *testing.T) {
	d := draws(3)
	for range 20000 {
		wantSameOnOthers(t, d.boxes(), d.prog(), d.boxes())
	}
}

// Promise 3, where a box is met, but not looked into.
func TestARunDoesNotHangOnBoxesThatItMetWithoutALook(t *testing.T) {
	for _, text := range []string{
		"", "fail", "num 0 4", "put 0 1,put 1 1,put 2 1,put 3 1",
		"num 1 7,put 2 1,load 0 2", "put 2 0,put 2 1,load 0 2,load 1 2", "load 0 1,put 2 0,load 3 2",
		"num 1 1,less 0 1 1,load 0 2,num 2 3", "fail,load 0 2", "num 0 1000000,add 0 0,load 0 2", "num 1 1,less 0 1 10,load 0 2",
	} {
		for _, box := range append(edgeBoxes(), impl.Box{Ver: 12, Val: 77}) {
			others := []impl.Box{box, box, box, box}
			wantSameOnOthers(t, boxesOf(t, someBoxes), progOf(t, text), others)
		}
	}
}

// model is another runner, by lists alone, that the program's runs are held against.
type model struct {
	regs  []int
	reads []impl.Read
	puts  []impl.Put
}

func (m *model) placeOf(box int) int {
	return slices.IndexFunc(m.puts, func(put impl.Put) bool { return put.Box == box })
}

func (m *model) look(list []impl.Box, box int) int {
	if place := m.placeOf(box); place >= 0 {
		return m.puts[place].Val
	}
	read := impl.Read{Box: box, Ver: list[box].Ver}
	if !slices.Contains(m.reads, read) {
		m.reads = append(m.reads, read)
	}
	return list[box].Val
}

// run does the first instruction, and then the ones that are left behind it.
func (m *model) run(list []impl.Box, prog []impl.Ins) impl.Run {
	for _, number := range m.regs {
		if number < -1000000 || number > 1000000 {
			return impl.Run{Reads: m.reads, Code: 2}
		}
	}
	if len(prog) == 0 {
		return impl.Run{Reads: m.reads, Puts: m.puts, Val: m.regs[0]}
	}
	ins, behind := prog[0], prog[1:]
	switch ins.Kind {
	case 1:
		m.regs[ins.A] = m.look(list, ins.B)
	case 2:
		if place := m.placeOf(ins.A); place >= 0 {
			m.puts[place].Val = m.regs[ins.B]
		} else {
			m.puts = append(m.puts, impl.Put{Box: ins.A, Val: m.regs[ins.B]})
		}
	case 3:
		m.regs[ins.A] = ins.N
	case 4:
		m.regs[ins.A] += m.regs[ins.B]
	case 5:
		m.regs[ins.A] -= m.regs[ins.B]
	case 6:
		if m.regs[ins.A] < m.regs[ins.B] {
			behind = behind[min(ins.N, len(behind)):]
		}
	case 7:
		return impl.Run{Reads: m.reads, Code: 1}
	}
	return m.run(list, behind)
}

func TestExecRunIsWhatTheModelIs(t *testing.T) {
	d := draws(1)
	codes := map[int]int{}
	for range 60000 {
		list, prog := d.boxes(), d.prog()
		m := model{regs: make([]int, 4)}
		want := m.run(list, prog)
		wantRun(t, list, prog, want)
		codes[want.Code]++
	}
	for code := range 3 {
		if codes[code] < 1000 {
			t.Errorf("%d runs ended with the code %d", codes[code], code)
		}
	}
}

func TestExecCodes(t *testing.T) {
	got := []int{impl.ExecFine, impl.ExecFails, impl.ExecGreat, impl.ExecForm}
	if !slices.Equal(got, []int{0, 1, 2, 3}) {
		t.Error(got)
	}
}

func TestExecRunOfNoInstructions(t *testing.T) {
	wantRun(t, impl.BoxOpen(), nil, impl.Run{})
	wantRun(t, boxesOf(t, someBoxes), []impl.Ins{}, impl.Run{})
}

func TestExecRunOfEachKind(t *testing.T) {
	wantRuns(t, someBoxes, []runCase{
		{"load 0 3", impl.Run{Reads: []impl.Read{{Box: 3, Ver: 40}}, Val: -400}},
		{"load 3 0", impl.Run{Reads: []impl.Read{{Box: 0, Ver: 10}}}},
		{"num 2 7,put 1 2", impl.Run{Puts: []impl.Put{{Box: 1, Val: 7}}}},
		{"num 0 7,put 1 2", impl.Run{Puts: []impl.Put{{Box: 1}}, Val: 7}},
		{"num 0 -12", impl.Run{Val: -12}},
		{"num 3 12", impl.Run{}},
		{"num 0 5,num 0 6", impl.Run{Val: 6}},
		{"num 0 5,num 1 8,add 0 1", impl.Run{Val: 13}},
		{"num 0 5,num 1 8,add 1 0", impl.Run{Val: 5}},
		{"num 0 5,num 1 8,add 1 0,add 0 1", impl.Run{Val: 18}},
		{"num 0 5,add 0 0", impl.Run{Val: 10}},
		{"num 0 5,num 1 8,sub 0 1", impl.Run{Val: -3}},
		{"num 0 5,num 1 8,sub 1 0,add 0 1", impl.Run{Val: 8}},
		{"num 0 5,sub 0 0", impl.Run{}},
		{"num 0 5,num 3 -8,sub 0 3", impl.Run{Val: 13}},
		{"fail", impl.Run{Code: impl.ExecFails}},
	})
}

// Registers are 0 at first, and each is its own.
func TestExecRunRegisters(t *testing.T) {
	wantRuns(t, someBoxes, []runCase{
		{"put 0 0,put 1 1,put 2 2,put 3 3", impl.Run{Puts: []impl.Put{{Box: 0}, {Box: 1}, {Box: 2}, {Box: 3}}}},
		{"num 0 1,num 1 2,num 2 3,num 3 4,put 0 3,put 1 2,put 2 1,put 3 0", impl.Run{Puts: []impl.Put{{Box: 0, Val: 4}, {Box: 1, Val: 3}, {Box: 2, Val: 2}, {Box: 3, Val: 1}}, Val: 1}},
		{"add 0 1,sub 0 2,add 0 3", impl.Run{}},
	})
}

func TestExecRunLeavesOutWhatIsBehindALess(t *testing.T) {
	wantRuns(t, someBoxes, []runCase{
		// Just if register A is below register B.
		{"num 1 1,less 0 1 1,fail,num 0 7", impl.Run{Val: 7}},
		{"num 1 1,less 1 0 1,num 0 7,add 0 1", impl.Run{Val: 8}},
		{"less 0 1 1,num 0 7", impl.Run{Val: 7}},
		{"num 0 3,num 1 3,less 0 1 1,num 0 7", impl.Run{Val: 7}},
		{"less 2 2 1,num 0 7", impl.Run{Val: 7}},
		{"num 1 -1,less 0 1 1,num 0 7", impl.Run{Val: 7}},
		{"num 0 -1,less 0 1 1,num 0 7", impl.Run{Val: -1}},
		// The next N, and no more.
		{"num 1 1,less 0 1 2,add 0 1,add 0 1,add 0 1,add 0 1", impl.Run{Val: 2}},
		{"num 1 1,less 0 1 3,add 0 1,add 0 1,add 0 1,add 0 1", impl.Run{Val: 1}},
		{"num 1 1,less 0 1 4,add 0 1,add 0 1,add 0 1,add 0 1", impl.Run{}},
		// Fewer than N are left behind it, or none.
		{"num 1 1,less 0 1 5,add 0 1,add 0 1,add 0 1,add 0 1", impl.Run{}},
		{"num 1 1,less 0 1 10,fail", impl.Run{}},
		{"num 0 -9,less 0 1 1", impl.Run{Val: -9}},
		{"num 0 -9,less 0 1 10", impl.Run{Val: -9}},
		{"num 0 -9,put 2 0,less 0 1 10,put 2 1", impl.Run{Puts: []impl.Put{{Box: 2, Val: -9}}, Val: -9}},
		// What is left out is itself a ProgLess or a ProgFail: it counts as one, and is not done.
		{"num 1 1,less 0 1 1,less 0 1 2,add 0 1,add 0 1,add 0 1", impl.Run{Val: 3}},
		{"num 1 1,less 0 1 2,less 0 1 10,fail,num 0 7", impl.Run{Val: 7}},
		{"num 1 1,less 0 1 2,fail,fail,num 0 7", impl.Run{Val: 7}},
		{"num 1 1,less 0 1 1,fail,fail,num 0 7", impl.Run{Code: impl.ExecFails}},
		{"num 1 1,less 0 1 1,num 0 7,less 0 1 1,fail,num 0 8", impl.Run{Val: 8}},
		{"num 1 1,less 1 0 1,less 0 1 1,fail,num 0 8", impl.Run{Val: 8}},
	})
}

func TestExecRunReads(t *testing.T) {
	one := []impl.Read{{Box: 1, Ver: 20}}
	wantRuns(t, someBoxes, []runCase{
		// Once, however often it looks.
		{"load 0 1,load 1 1,load 2 1,add 0 2", impl.Run{Reads: one, Val: 400}},
		// In the order of the first looks.
		{"load 0 3,load 1 1,load 2 3,load 3 0,load 2 1", impl.Run{Reads: []impl.Read{{Box: 3, Ver: 40}, {Box: 1, Ver: 20}, {Box: 0, Ver: 10}}, Val: -400}},
		{"load 0 3,load 0 2,load 0 1,load 0 0", impl.Run{Reads: []impl.Read{{Box: 3, Ver: 40}, {Box: 2, Ver: 30}, {Box: 1, Ver: 20}, {Box: 0, Ver: 10}}, Val: 100}},
		// What was put into is not looked into.
		{"num 1 5,put 1 1,load 0 1", impl.Run{Puts: []impl.Put{{Box: 1, Val: 5}}, Val: 5}},
		{"put 1 1,load 0 1,load 2 1", impl.Run{Puts: []impl.Put{{Box: 1}}}},
		{"num 1 5,put 1 1,load 0 1,load 2 2", impl.Run{Reads: []impl.Read{{Box: 2, Ver: 30}}, Puts: []impl.Put{{Box: 1, Val: 5}}, Val: 5}},
		// Looked into first, and put into then.
		{"load 0 1,num 1 5,put 1 1", impl.Run{Reads: one, Puts: []impl.Put{{Box: 1, Val: 5}}, Val: 200}},
		{"load 0 1,num 1 5,put 1 1,load 2 1,add 0 2", impl.Run{Reads: one, Puts: []impl.Put{{Box: 1, Val: 5}}, Val: 205}},
		// What is left out looks into nothing.
		{"num 1 1,less 0 1 1,load 0 1", impl.Run{}},
	})
}

func TestExecRunPuts(t *testing.T) {
	wantRuns(t, someBoxes, []runCase{
		{"num 1 5,put 3 1,num 1 6,put 0 1,num 1 7,put 3 1", impl.Run{Puts: []impl.Put{{Box: 3, Val: 7}, {Box: 0, Val: 6}}}},
		{"num 1 5,put 3 1,put 3 2", impl.Run{Puts: []impl.Put{{Box: 3}}}},
		{"put 3 2,num 1 5,put 3 1,put 3 1", impl.Run{Puts: []impl.Put{{Box: 3, Val: 5}}}},
		{"put 3 0,put 2 0,put 1 0,put 0 0,put 1 0,put 2 0", impl.Run{Puts: []impl.Put{{Box: 3}, {Box: 2}, {Box: 1}, {Box: 0}}}},
		// What is put is what was in the register then.
		{"num 0 5,put 1 0,num 0 6", impl.Run{Puts: []impl.Put{{Box: 1, Val: 5}}, Val: 6}},
		// The same number once more is put all the same.
		{"load 0 1,put 1 0", impl.Run{Reads: []impl.Read{{Box: 1, Ver: 20}}, Puts: []impl.Put{{Box: 1, Val: 200}}, Val: 200}},
		{"num 1 1,less 0 1 1,put 1 1,put 2 1", impl.Run{Puts: []impl.Put{{Box: 2, Val: 1}}}},
	})
}

func TestExecRunThatFails(t *testing.T) {
	reads := []impl.Read{{Box: 2, Ver: 30}, {Box: 0, Ver: 10}}
	wantRuns(t, someBoxes, []runCase{
		{"fail,num 0 1", impl.Run{Code: impl.ExecFails}},
		{"num 0 9,fail", impl.Run{Code: impl.ExecFails}},
		{"num 0 9,put 1 0,fail", impl.Run{Code: impl.ExecFails}},
		{"load 0 2,load 1 0,put 1 0,fail,load 3 3", impl.Run{Reads: reads, Code: impl.ExecFails}},
		{"load 0 2,fail,num 0 1000000,add 0 0", impl.Run{Reads: reads[:1], Code: impl.ExecFails}},
	})
}

func TestExecRunThatComesToBeTooGreat(t *testing.T) {
	great := impl.Run{Code: impl.ExecGreat}
	reads := []impl.Read{{Box: 2, Ver: 30}, {Box: 0, Ver: 10}}
	wantRuns(t, someBoxes, []runCase{
		{"num 0 1000000,num 1 1,add 0 1", great},
		{"num 0 -1000000,num 1 -1,add 0 1", great},
		{"num 0 -1000000,num 1 1,sub 0 1", great},
		{"num 0 1000000,num 1 -1,sub 0 1", great},
		{"num 0 1000000,add 0 0", great},
		{"num 0 -1000000,add 0 0", great},
		{"num 0 1000000,num 1 -1000000,sub 0 1", great},
		{"num 0 -1000000,num 1 1000000,sub 0 1", great},
		// In any register, and behind any one instruction: that it would come back is too late.
		{"num 3 1000000,num 1 1,add 3 1", great},
		{"num 3 1000000,num 1 1,add 3 1,sub 3 1", great},
		{"num 2 1000000,add 2 2,num 2 0", great},
		{"num 2 1000000,add 2 2,fail", great},
		{"num 0 1000000,put 1 0,add 0 0,put 2 0", great},
		{"load 0 2,load 1 0,put 1 0,num 0 1000000,add 0 1,load 3 3", impl.Run{Reads: reads, Code: impl.ExecGreat}},
		{"num 0 -1000000,load 1 2,load 2 0,put 3 1,sub 0 1", impl.Run{Reads: reads, Code: impl.ExecGreat}},
	})
}

func TestExecRunAtTheBounds(t *testing.T) {
	wantRuns(t, "1000000/1000000 -1000000/0 999999/1 -999999/2", []runCase{
		{"num 0 1000000", impl.Run{Val: impl.BoxMax}},
		{"num 0 -1000000", impl.Run{Val: -impl.BoxMax}},
		{"num 0 999999,num 1 1,add 0 1", impl.Run{Val: impl.BoxMax}},
		{"num 0 -999999,num 1 -1,add 0 1", impl.Run{Val: -impl.BoxMax}},
		{"num 0 -999999,num 1 1,sub 0 1", impl.Run{Val: -impl.BoxMax}},
		{"num 0 999999,num 1 -1,sub 0 1", impl.Run{Val: impl.BoxMax}},
		{"num 0 1000000,sub 0 0", impl.Run{}},
		{"num 1 -1000000,sub 0 1", impl.Run{Val: impl.BoxMax}},
		{"load 0 0,load 1 1,add 0 1", impl.Run{Reads: []impl.Read{{Box: 0, Ver: impl.BoxMax}, {Box: 1}}}},
		{"load 0 0", impl.Run{Reads: []impl.Read{{Box: 0, Ver: impl.BoxMax}}, Val: impl.BoxMax}},
		{"load 0 1,put 0 0", impl.Run{Reads: []impl.Read{{Box: 1}}, Puts: []impl.Put{{Box: 0, Val: -impl.BoxMax}}, Val: -impl.BoxMax}},
		{"num 1 1000000,num 0 -1000000,less 0 1 1,fail", impl.Run{Val: -impl.BoxMax}},
	})
}

func TestExecRunOfWhatIsNotOk(t *testing.T) {
	form := impl.Run{Code: impl.ExecForm}
	fine, boxes := progOf(t, "load 0 1,put 2 0,num 0 7"), boxesOf(t, someBoxes)
	for _, ins := range badIns() {
		wantRun(t, boxes, append(slices.Clone(fine), ins), form)
		wantRun(t, boxes, append([]impl.Ins{ins}, fine...), form)
		wantRun(t, boxes, append(progOf(t, "fail"), ins), form)
		wantRun(t, nil, []impl.Ins{ins}, form)
	}
	for _, box := range badBoxes() {
		for place := range impl.BoxAll {
			wantRun(t, zerosBut(place, box), fine, form)
			wantRun(t, zerosBut(place, box), nil, form)
		}
	}
	for size := range 3 * impl.BoxAll {
		if size != impl.BoxAll {
			wantRun(t, make([]impl.Box, size), fine, form)
			wantRun(t, make([]impl.Box, size), nil, form)
		}
	}
	wantRun(t, boxes, slices.Repeat([]impl.Ins{{Kind: impl.ProgNum, N: 5}}, impl.ProgMax), impl.Run{Val: 5})
	wantRun(t, boxes, slices.Repeat([]impl.Ins{{Kind: impl.ProgNum, N: 5}}, impl.ProgMax+1), form)
}

// okRuns is runs that are ok, of each code and with each number at its edges.
func okRuns() []impl.Run {
	var out []impl.Run
	for _, reads := range [][]impl.Read{
		nil, {}, {{}}, {{Box: 3, Ver: impl.BoxMax}}, {{Box: 2, Ver: 1}, {Box: 1, Ver: 1}},
		{{Box: 3}, {Box: 0, Ver: 5}, {Box: 2, Ver: impl.BoxMax}, {Box: 1}},
	} {
		for code := range 3 {
			out = append(out, impl.Run{Reads: reads, Code: code}, impl.Run{Reads: reads, Puts: []impl.Put{}, Code: code})
		}
		for _, puts := range [][]impl.Put{
			{{}}, {{Box: 3, Val: impl.BoxMax}}, {{Box: 1, Val: -impl.BoxMax}}, {{Box: 2, Val: 1}, {Box: 1, Val: 1}},
			{{Box: 3}, {Box: 0, Val: -5}, {Box: 2, Val: impl.BoxMax}, {Box: 1, Val: -impl.BoxMax}},
		} {
			for _, val := range []int{-impl.BoxMax, -1, 0, 1, impl.BoxMax} {
				out = append(out, impl.Run{Reads: reads, Puts: puts, Val: val})
			}
		}
	}
	return append(out, impl.Run{Code: impl.ExecForm}, impl.Run{Reads: []impl.Read{}, Puts: []impl.Put{}, Code: impl.ExecForm})
}

// badRuns is runs of which each breaks one condition alone.
func badRuns() []impl.Run {
	out := []impl.Run{
		{Reads: []impl.Read{{}}, Code: impl.ExecForm},
		{Reads: []impl.Read{{Box: 1, Ver: 2}, {Box: 2, Ver: 1}}, Code: impl.ExecForm},
	}
	for _, code := range []int{math.MinInt, -1, 4, 5, 100, math.MaxInt} {
		out = append(out, impl.Run{Code: code}, impl.Run{Reads: []impl.Read{{Box: 1}}, Code: code})
	}
	for _, val := range []int{math.MinInt, -impl.BoxMax - 1, impl.BoxMax + 1, math.MaxInt} {
		out = append(out, impl.Run{Val: val}, impl.Run{Puts: []impl.Put{{Box: 1}, {Box: 2, Val: val}}}, impl.Run{Puts: []impl.Put{{Box: 2, Val: val}, {Box: 1}}})
	}
	for _, code := range []int{impl.ExecFails, impl.ExecGreat, impl.ExecForm} {
		for _, val := range []int{-impl.BoxMax, -1, 1, impl.BoxMax} {
			out = append(out, impl.Run{Val: val, Code: code})
		}
		out = append(out, impl.Run{Puts: []impl.Put{{}}, Code: code}, impl.Run{Puts: []impl.Put{{Box: 1, Val: 2}, {Box: 3}}, Code: code})
	}
	return append(out, badBoxRuns()...)
}

// badBoxRuns is runs with a box that is none, a box twice, or a Ver beyond its bounds.
func badBoxRuns() []impl.Run {
	var out []impl.Run
	for code := range 3 {
		for _, ver := range []int{math.MinInt, -1, impl.BoxMax + 1, math.MaxInt} {
			out = append(out, impl.Run{Reads: []impl.Read{{Box: 1}, {Box: 2, Ver: ver}}, Code: code}, impl.Run{Reads: []impl.Read{{Box: 2, Ver: ver}, {Box: 1}}, Code: code})
		}
		for _, none := range []int{math.MinInt, -1, impl.BoxAll, 64, math.MaxInt} {
			out = append(out, impl.Run{Reads: []impl.Read{{Box: none}}, Code: code}, impl.Run{Reads: []impl.Read{{Box: 1}, {Box: none}, {Box: 2}}, Code: code})
		}
		for box := range impl.BoxAll {
			other := (box + 1) % impl.BoxAll
			out = append(out, impl.Run{Reads: []impl.Read{{Box: box}, {Box: box}}, Code: code}, impl.Run{Reads: []impl.Read{{Box: box, Ver: 1}, {Box: other}, {Box: box, Ver: 2}}, Code: code})
		}
	}
	for _, none := range []int{math.MinInt, -1, impl.BoxAll, 64, math.MaxInt} {
		out = append(out, impl.Run{Puts: []impl.Put{{Box: none}}}, impl.Run{Puts: []impl.Put{{Box: 1}, {Box: none}, {Box: 2}}})
	}
	for box := range impl.BoxAll {
		other := (box + 1) % impl.BoxAll
		out = append(out, impl.Run{Puts: []impl.Put{{Box: box}, {Box: box}}}, impl.Run{Puts: []impl.Put{{Box: box, Val: 1}, {Box: other}, {Box: box, Val: 2}}})
	}
	return append(out, impl.Run{Reads: make([]impl.Read, 1<<16)}, impl.Run{Puts: make([]impl.Put, 1<<16)})
}

func TestExecOkAtItsEdges(t *testing.T) {
	for _, run := range okRuns() {
		if !impl.ExecOk(run) {
			t.Errorf("%v is not ok", run)
		}
	}
	for _, run := range badRuns() {
		if impl.ExecOk(run) {
			t.Errorf("%v is ok", run)
		}
	}
}

func cloneRun(r impl.Run) impl.Run {
	return impl.Run{Reads: slices.Clone(r.Reads), Puts: slices.Clone(r.Puts), Val: r.Val, Code: r.Code}
}

func wantRunsDiffer(t *testing.T, a impl.Run, b impl.Run) {
	t.Helper()
	if impl.ExecSame(a, b) || impl.ExecSame(b, a) {
		t.Errorf("%v and %v are the same", a, b)
	}
}

func TestExecSame(t *testing.T) {
	for _, run := range append(okRuns(), badRuns()...) {
		if !impl.ExecSame(run, cloneRun(run)) {
			t.Errorf("%v differs from itself", run)
		}
	}
	for _, code := range []int{-1, 0, 1, 2, 3, 4} {
		none := impl.Run{Reads: []impl.Read{}, Puts: []impl.Put{}, Code: code}
		if !impl.ExecSame(none, impl.Run{Code: code}) || !impl.ExecSame(impl.Run{Code: code}, none) {
			t.Error("the nil list and the empty list differ")
		}
	}
}

func TestExecSameOfRunsThatDifferInOnePart(t *testing.T) {
	run := impl.Run{
		Reads: []impl.Read{{Box: 3, Ver: 1}, {Box: 0, Ver: 5}, {Box: 2, Ver: 7}},
		Puts:  []impl.Put{{Box: 1, Val: 1}, {Box: 0, Val: 5}, {Box: 2, Val: 7}},
		Val:   4,
	}
	changes := []func(*impl.Run){
		func(r *impl.Run) { r.Val++ },
		func(r *impl.Run) { r.Val = -r.Val },
		func(r *impl.Run) { r.Code++ },
		func(r *impl.Run) { r.Reads = nil },
		func(r *impl.Run) { r.Puts = nil },
		func(r *impl.Run) { r.Reads = r.Reads[:2] },
		func(r *impl.Run) { r.Puts = r.Puts[:2] },
		func(r *impl.Run) { r.Reads = append(r.Reads, impl.Read{}) },
		func(r *impl.Run) { r.Puts = append(r.Puts, impl.Put{}) },
		func(r *impl.Run) { r.Reads[0], r.Reads[1] = r.Reads[1], r.Reads[0] },
		func(r *impl.Run) { r.Puts[1], r.Puts[2] = r.Puts[2], r.Puts[1] },
		func(r *impl.Run) { slices.Reverse(r.Reads) },
		func(r *impl.Run) { slices.Reverse(r.Puts) },
	}
	for place := range 3 {
		changes = append(changes,
			func(r *impl.Run) { r.Reads[place].Box++ }, func(r *impl.Run) { r.Reads[place].Ver++ },
			func(r *impl.Run) { r.Puts[place].Box++ }, func(r *impl.Run) { r.Puts[place].Val++ })
	}
	for _, change := range changes {
		other := cloneRun(run)
		change(&other)
		wantRunsDiffer(t, run, other)
	}
	wantRunsDiffer(t, impl.Run{Reads: []impl.Read{{}}}, impl.Run{})
	wantRunsDiffer(t, impl.Run{Puts: []impl.Put{{}}}, impl.Run{})
}

func TestExecFresh(t *testing.T) {
	boxes := boxesOf(t, someBoxes)
	read := []impl.Read{{Box: 3, Ver: 40}, {Box: 0, Ver: 10}, {Box: 2, Ver: 30}, {Box: 1, Ver: 20}}
	for size := range len(read) + 1 {
		for code := range 3 {
			run := impl.Run{Reads: read[:size], Code: code}
			wantFresh(t, boxes, run, true)
			for box := range boxes {
				for _, ver := range []int{0, boxes[box].Ver - 1, boxes[box].Ver + 1, impl.BoxMax} {
					other := slices.Clone(boxes)
					other[box].Ver = ver
					wantFresh(t, other, run, !looksInto(run, box))
				}
				other := slices.Clone(boxes)
				other[box].Val++
				wantFresh(t, other, run, true)
			}
		}
	}
	// What a run puts says nothing of what it saw.
	wantFresh(t, boxes, impl.Run{Puts: []impl.Put{{Box: 2, Val: 30}}, Val: 9}, true)
	wantFresh(t, boxes, impl.Run{Code: impl.ExecForm}, true)
}

func wantFresh(t *testing.T, list []impl.Box, r impl.Run, want bool) {
	t.Helper()
	if got := impl.ExecFresh(list, r); got != want {
		t.Errorf("%v on %q is fresh: %v", r, impl.BoxText(list), got)
	}
}

func TestExecFreshAndExecDoOfWhatIsNotOk(t *testing.T) {
	fine := impl.Run{Puts: []impl.Put{{Box: 1, Val: 3}}}
	wantNotDone := func(list []impl.Box, r impl.Run) {
		t.Helper()
		wantFresh(t, list, r, false)
		if got := impl.ExecDo(list, r); len(got) != 0 {
			t.Errorf("%v on %q leaves %v", r, impl.BoxText(list), got)
		}
	}
	for _, run := range badRuns() {
		wantNotDone(impl.BoxOpen(), run)
		wantNotDone(nil, run)
	}
	for _, box := range badBoxes() {
		for place := range impl.BoxAll {
			wantNotDone(zerosBut(place, box), fine)
			wantNotDone(zerosBut(place, box), impl.Run{})
		}
	}
	for size := range 3 * impl.BoxAll {
		if size != impl.BoxAll {
			wantNotDone(make([]impl.Box, size), fine)
			wantNotDone(make([]impl.Box, size), impl.Run{Code: impl.ExecFails})
		}
	}
}

// A run is fresh on what it ran on, and no more once a box that it looked into was written.
func TestExecFreshBehindARun(t *testing.T) {
	d := draws(7)
	for range 5000 {
		list, prog := d.boxes(), d.prog()
		run := impl.ExecRun(list, prog)
		wantFresh(t, list, run, true)
		for box := range list {
			if list[box].Ver < impl.BoxMax {
				written := impl.ExecDo(list, impl.Run{Puts: []impl.Put{{Box: box, Val: list[box].Val}}})
				wantFresh(t, written, run, !looksInto(run, box))
			}
		}
	}
}

func wantDone(t *testing.T, list []impl.Box, r impl.Run, want string) {
	t.Helper()
	if got := impl.ExecDo(list, r); impl.BoxText(got) != want {
		t.Errorf("%v on %q leaves %q, not %q", r, impl.BoxText(list), impl.BoxText(got), want)
	}
}

func TestExecDo(t *testing.T) {
	boxes := boxesOf(t, someBoxes)
	for _, c := range []struct {
		puts []impl.Put
		want string
	}{
		{nil, someBoxes},
		{[]impl.Put{{Box: 0}}, "0/11 200/20 300/30 -400/40"},
		{[]impl.Put{{Box: 3, Val: -400}}, "100/10 200/20 300/30 -400/41"},
		{[]impl.Put{{Box: 2, Val: impl.BoxMax}, {Box: 1, Val: -impl.BoxMax}}, "100/10 -1000000/21 1000000/31 -400/40"},
		{[]impl.Put{{Box: 3, Val: 1}, {Box: 1, Val: 2}, {Box: 0, Val: 3}, {Box: 2, Val: 4}}, "3/11 2/21 4/31 1/41"},
	} {
		wantDone(t, boxes, impl.Run{Puts: c.puts}, c.want)
		// It does not ask whether the run is fresh, nor what it says.
		wantDone(t, boxes, impl.Run{Reads: []impl.Read{{Box: 1, Ver: 19}}, Puts: c.puts, Val: 77}, c.want)
	}
	for _, code := range []int{impl.ExecFails, impl.ExecGreat, impl.ExecForm} {
		wantDone(t, boxes, impl.Run{Code: code}, someBoxes)
	}
}

func TestExecDoAtTheMostVer(t *testing.T) {
	puts := []impl.Put{{Box: 0, Val: 5}, {Box: 1, Val: 6}, {Box: 2, Val: 7}}
	wantDone(t, boxesOf(t, "1/1000000 2/999999 3/999998 4/1000000"), impl.Run{Puts: puts}, "5/1000000 6/1000000 7/999999 4/1000000")
}

func TestExecDoLeavesWhatIsOk(t *testing.T) {
	d := draws(11)
	for range 5000 {
		list := d.boxes()
		if got := impl.ExecDo(list, impl.ExecRun(list, d.prog())); !impl.BoxOk(got) {
			t.Errorf("%v becomes %v", list, got)
		}
	}
}

// spoil writes over all lists of a run and their spare room, as its owner may.
func spoil(r impl.Run) {
	overwrite(r.Reads, impl.Read{Box: 77, Ver: 77})
	overwrite(r.Puts, impl.Put{Box: 77, Val: 77})
}

func TestExecRunIsNewMemory(t *testing.T) {
	for _, text := range []string{
		"load 0 1,put 2 0", "load 0 3,load 0 2,load 0 1,load 0 0,put 3 0,put 2 0,put 1 0,put 0 0", "load 0 1,load 1 2,load 2 3,put 1 0,put 2 1,put 3 2", "load 0 1,load 0 2,load 0 3,fail",
	} {
		boxes, prog := boxesOf(t, someBoxes), progOf(t, text)
		first, second := impl.ExecRun(boxes, prog), impl.ExecRun(boxes, prog)
		was := cloneRun(first)
		spoil(first)
		wantRun(t, boxes, prog, was)
		if !sameRun(second, was) || impl.BoxText(boxes) != someBoxes || impl.ProgText(prog) != text {
			t.Errorf("of %q: what is written into one answer shows elsewhere", text)
		}
		overwrite(boxes, impl.Box{Ver: 9, Val: 9})
		overwrite(prog, impl.Ins{Kind: impl.ProgFail})
		if !sameRun(second, was) {
			t.Errorf("of %q: what is written into an argument shows in an answer", text)
		}
	}
}

// Each list of an answer is written over alone: the other one stays as it was.
func TestExecRunListsShareNoMemory(t *testing.T) {
	boxes, prog := boxesOf(t, someBoxes), progOf(t, "load 0 1,load 1 2,load 2 3,put 1 0,put 2 1,put 3 2")
	run := impl.ExecRun(boxes, prog)
	was := cloneRun(run)
	overwrite(run.Reads, impl.Read{Box: 77, Ver: 77})
	if !slices.Equal(run.Puts, was.Puts) {
		t.Error("Puts are written by Reads")
	}
	run = impl.ExecRun(boxes, prog)
	overwrite(run.Puts, impl.Put{Box: 77, Val: 77})
	if !slices.Equal(run.Reads, was.Reads) {
		t.Error("Reads are written by Puts")
	}
}

func TestExecDoIsNewMemory(t *testing.T) {
	for _, run := range []impl.Run{{}, {Code: impl.ExecFails}, {Code: impl.ExecForm}, {Puts: []impl.Put{{Box: 1, Val: 5}}}} {
		boxes := boxesOf(t, someBoxes)
		first, second := impl.ExecDo(boxes, run), impl.ExecDo(boxes, run)
		was := impl.BoxText(second)
		fill(first)
		if impl.BoxText(boxes) != someBoxes || impl.BoxText(second) != was {
			t.Errorf("of %v: what is written into one answer shows elsewhere", run)
		}
		fill(boxes)
		if impl.BoxText(second) != was {
			t.Errorf("of %v: what is written into an argument shows in an answer", run)
		}
	}
}

// Each argument is a part of a longer list, ahead of and behind which nothing may be written either.
func TestExecArgumentsAreNotWritten(t *testing.T) {
	d := draws(5)
	for range 2000 {
		boxes, prog := slices.Concat(d.boxes(), d.boxes(), d.boxes()), slices.Concat(d.prog(), d.prog(), d.prog())
		reads := []impl.Read{{Box: 3, Ver: 1}, {Box: 2, Ver: 2}, {Box: 1, Ver: 3}, {Box: 0, Ver: 4}}
		puts := []impl.Put{{Box: 2, Val: 1}, {Box: 3, Val: 2}, {Box: 0, Val: 3}, {Box: 1, Val: 4}}
		wasBoxes, wasProg, wasReads, wasPuts := slices.Clone(boxes), slices.Clone(prog), slices.Clone(reads), slices.Clone(puts)
		at, end := d.below(len(prog)+1), len(prog)
		part := prog[at:min(at+d.below(impl.ProgMax+1), end)]
		run := impl.Run{Reads: reads[1:3], Puts: puts[1:3], Val: 5}
		for _, list := range [][]impl.Box{boxes, boxes[4:8], boxes[:3], boxes[3:7]} {
			impl.ExecRun(list, part)
			impl.ExecRun(list, prog)
			impl.ExecOk(run)
			impl.ExecSame(run, impl.Run{Reads: reads, Puts: puts})
			impl.ExecFresh(list, run)
			impl.ExecDo(list, run)
		}
		if !slices.Equal(boxes, wasBoxes) || !slices.Equal(prog, wasProg) || !slices.Equal(reads, wasReads) || !slices.Equal(puts, wasPuts) {
			t.Fatalf("arguments are %v, %v, %v, %v", boxes, prog, reads, puts)
		}
	}
}

// What stands behind the end of an argument turns no answer.
func TestExecAnswersHangOnTheListsAlone(t *testing.T) {
	boxes, prog := boxesOf(t, someBoxes), progOf(t, "load 0 1,put 2 0")
	want := impl.Run{Reads: []impl.Read{{Box: 1, Ver: 20}}, Puts: []impl.Put{{Box: 2, Val: 200}}, Val: 200}
	roomBoxes := append(slices.Clone(boxes), impl.Box{Ver: -1}, impl.Box{Val: 7})
	roomProg := append(slices.Clone(prog), impl.Ins{Kind: impl.ProgFail}, impl.Ins{Kind: 77})
	wantRun(t, roomBoxes[:len(boxes)], roomProg[:len(prog)], want)
	room := impl.Run{Reads: append(slices.Clone(want.Reads), impl.Read{Box: 1}), Puts: append(slices.Clone(want.Puts), impl.Put{Box: 2}), Val: 200}
	part := impl.Run{Reads: room.Reads[:1], Puts: room.Puts[:1], Val: 200}
	if !impl.ExecOk(part) || !impl.ExecSame(part, want) || !impl.ExecFresh(roomBoxes[:len(boxes)], part) {
		t.Error(part)
	}
	wantDone(t, roomBoxes[:len(boxes)], part, strings.Replace(someBoxes, "300/30", "200/31", 1))
}
