package tests

import (
	"math"
	"slices"
	"testing"

	"loop.example/thingstead/impl"
)

// alone is another SerialOne: the second runner, and what it puts written down by hand.
func alone(list []impl.Box, prog []impl.Ins) ([]impl.Box, int, int) {
	m := model{regs: make([]int, 4)}
	run := m.run(list, prog)
	out := slices.Clone(list)
	for _, put := range run.Puts {
		out[put.Box] = impl.Box{Ver: min(out[put.Box].Ver+1, 1000000), Val: put.Val}
	}
	return out, run.Val, run.Code
}

// meetsBox says whether an instruction looks into a box or puts into it.
func meetsBox(ins impl.Ins, box int) bool {
	return ins.Kind == impl.ProgLoad && ins.B == box || ins.Kind == impl.ProgPut && ins.A == box
}

// canNotMeet is another SerialFree, for programs that are ok: each two instructions are held against each other.
func canNotMeet(a []impl.Ins, b []impl.Ins) bool {
	for _, one := range a {
		for _, other := range b {
			if one.Kind == impl.ProgPut && meetsBox(other, one.A) || other.Kind == impl.ProgPut && meetsBox(one, other.A) {
				return false
			}
		}
	}
	return true
}

func progsOf(t *testing.T, texts ...string) [][]impl.Ins {
	t.Helper()
	var out [][]impl.Ins
	for _, text := range texts {
		out = append(out, progOf(t, text))
	}
	return out
}

func progTexts(progs [][]impl.Ins) []string {
	var out []string
	for _, prog := range progs {
		out = append(out, impl.ProgText(prog))
	}
	return out
}

func wantOne(t *testing.T, list []impl.Box, prog []impl.Ins, boxes []impl.Box, val int, code int) {
	t.Helper()
	got, gotVal, gotCode := impl.SerialOne(list, prog)
	if !slices.Equal(got, boxes) || gotVal != val || gotCode != code {
		t.Errorf("%q alone on %q leaves %v, %d, %d, not %v, %d, %d", impl.ProgText(prog), impl.BoxText(list), got, gotVal, gotCode, boxes, val, code)
	}
}

func wantAll(t *testing.T, list []impl.Box, progs [][]impl.Ins, boxes []impl.Box, vals []int) {
	t.Helper()
	got, gotVals := impl.SerialAll(list, progs)
	if !slices.Equal(got, boxes) || !slices.Equal(gotVals, vals) {
		t.Errorf("%q on %q leave %v, %v, not %v, %v", progTexts(progs), impl.BoxText(list), got, gotVals, boxes, vals)
	}
}

func wantFree(t *testing.T, a []impl.Ins, b []impl.Ins, want bool) {
	t.Helper()
	if impl.SerialFree(a, b) != want || impl.SerialFree(b, a) != want {
		t.Errorf("%q and %q are free: %v, and the other way round %v", impl.ProgText(a), impl.ProgText(b), impl.SerialFree(a, b), impl.SerialFree(b, a))
	}
}

// confined is the program with its looks and puts turned to the given boxes; without its puts, if there are none to put into.
func confined(prog []impl.Ins, loads []int, puts []int) []impl.Ins {
	var out []impl.Ins
	for _, ins := range prog {
		switch {
		case ins.Kind == impl.ProgLoad:
			ins.B = loads[ins.B%len(loads)]
		case ins.Kind == impl.ProgPut && len(puts) == 0:
			continue
		case ins.Kind == impl.ProgPut:
			ins.A = puts[ins.A%len(puts)]
		}
		out = append(out, ins)
	}
	return out
}

// wantEitherOrder holds the two orders against each other, and what each program says against what it says where it is first.
func wantEitherOrder(t *testing.T, list []impl.Box, a []impl.Ins, b []impl.Ins) {
	t.Helper()
	one, oneVals := impl.SerialAll(list, [][]impl.Ins{a, b})
	two, twoVals := impl.SerialAll(list, [][]impl.Ins{b, a})
	behindA, valA, codeA := impl.SerialOne(list, a)
	behindB, valB, codeB := impl.SerialOne(list, b)
	_, laterB, laterCodeB := impl.SerialOne(behindA, b)
	_, laterA, laterCodeA := impl.SerialOne(behindB, a)
	switch {
	case !impl.BoxOk(one) || !slices.Equal(one, two):
		t.Errorf("%q and %q on %q leave %q, and %q the other way round", impl.ProgText(a), impl.ProgText(b), impl.BoxText(list), impl.BoxText(one), impl.BoxText(two))
	case !slices.Equal(oneVals, []int{valA, valB}) || !slices.Equal(twoVals, []int{valB, valA}):
		t.Errorf("%q and %q on %q say %v, and %v the other way round", impl.ProgText(a), impl.ProgText(b), impl.BoxText(list), oneVals, twoVals)
	case laterA != valA || laterB != valB || laterCodeA != codeA || laterCodeB != codeB:
		t.Errorf("%q and %q on %q end otherwise one behind the other", impl.ProgText(a), impl.ProgText(b), impl.BoxText(list))
	}
}

// Promise 4, for programs as they come.
func TestProgramsThatCanNotMeetRunInEitherOrder(t *testing.T) {
	d := draws(4)
	free, turned := 0, 0
	for range 40000 {
		list, a, b := d.boxes(), d.prog(), d.prog()
		if !impl.SerialFree(a, b) {
			continue
		}
		free++
		if len(impl.ProgPuts(a)) > 0 && len(impl.ProgPuts(b)) > 0 {
			turned++
		}
		wantEitherOrder(t, list, a, b)
	}
	if free < 4000 || turned < 1000 {
		t.Errorf("%d of the programs can not meet, of %d of them both can put", free, turned)
	}
}

// Promise 4, for programs that are made so that they can not meet, but for boxes into which both look.
func TestProgramsInBoxesOfTheirOwnRunInEitherOrder(t *testing.T) {
	d := draws(44)
	for range 4000 {
		list, a, b := d.boxes(), d.prog(), d.prog()
		for _, c := range []struct{ loadsA, putsA, loadsB, putsB []int }{
			{[]int{0, 1}, []int{0, 1}, []int{2, 3}, []int{2, 3}},
			{[]int{0, 2, 3}, []int{0}, []int{1, 2, 3}, []int{1}},
			{[]int{2, 3}, []int{0, 1}, []int{2, 3}, nil},
			{[]int{0, 1, 2}, []int{0}, []int{3, 1, 2}, []int{3}},
		} {
			one, other := confined(a, c.loadsA, c.putsA), confined(b, c.loadsB, c.putsB)
			wantFree(t, one, other, true)
			wantEitherOrder(t, list, one, other)
		}
	}
}

// Promise 4, where a program only looks, has no box, fails or comes to be too great, and where a Ver is BoxMax already.
func TestProgramsThatCanNotMeetAtTheirEdges(t *testing.T) {
	for _, c := range []struct{ a, b string }{
		{"", ""}, {"", "load 0 1,put 1 0"}, {"num 0 3", "fail"},
		{"load 0 1", "load 0 1"}, {"load 0 1,fail", "load 0 1,put 2 0"},
		{"num 0 1000000,add 0 0,put 1 0", "load 0 2,put 2 0"}, {"num 0 4,put 1 0,fail", "load 0 2,put 2 0"},
		{"load 0 0,put 0 0", "load 0 1,put 1 0"}, {"load 0 3,put 0 0", "load 0 3,put 1 0"},
		{"load 0 0,load 1 1,add 0 1,put 1 0", "load 0 0,load 1 2,sub 1 0,put 3 1"},
		{"put 0 0,put 1 0", "put 2 0,put 3 0"}, {"put 3 0", "load 0 0,load 0 1,load 0 2,put 0 0,put 1 0,put 2 0"},
	} {
		for _, text := range []string{someBoxes, "0/0 0/0 0/0 0/0", "1000000/1000000 -1000000/1000000 999999/999999 1/1000000"} {
			wantFree(t, progOf(t, c.a), progOf(t, c.b), true)
			wantEitherOrder(t, boxesOf(t, text), progOf(t, c.a), progOf(t, c.b))
		}
	}
}

// Where programs can meet, the order can be seen: they may not be said to be free.
func TestProgramsThatMeetAreNotFree(t *testing.T) {
	for _, c := range []struct{ a, b string }{
		{"num 0 5,put 1 0", "load 0 1"}, {"num 0 5,put 1 0", "num 0 6,put 1 0"},
		{"load 0 1,add 0 0,put 1 0", "load 0 1,num 1 1,add 0 1,put 1 0"}, {"load 0 1,put 2 0", "load 0 2,put 1 0"},
		{"num 0 5,put 3 0", "load 1 3,put 2 1"}, {"load 0 0,put 3 0", "load 1 2,put 0 1"},
	} {
		a, b := progOf(t, c.a), progOf(t, c.b)
		wantFree(t, a, b, false)
		one, oneVals := impl.SerialAll(boxesOf(t, someBoxes), [][]impl.Ins{a, b})
		two, twoVals := impl.SerialAll(boxesOf(t, someBoxes), [][]impl.Ins{b, a})
		if slices.Equal(one, two) && oneVals[0] == twoVals[1] && oneVals[1] == twoVals[0] {
			t.Errorf("%q and %q leave the same in either order: %v, %v", c.a, c.b, one, oneVals)
		}
	}
}

func TestSerialOneIsWhatTheModelIs(t *testing.T) {
	d := draws(21)
	for range 20000 {
		list, prog := d.boxes(), d.prog()
		boxes, val, code := alone(list, prog)
		wantOne(t, list, prog, boxes, val, code)
		run := impl.ExecRun(list, prog)
		wantOne(t, list, prog, impl.ExecDo(list, run), run.Val, run.Code)
	}
}

func TestSerialOne(t *testing.T) {
	for _, c := range []struct {
		boxes, prog, want string
		val, code         int
	}{
		{someBoxes, "load 0 1,num 1 5,add 0 1,put 2 0", "100/10 200/20 205/31 -400/40", 205, impl.ExecFine},
		{someBoxes, "load 0 1,put 1 0", "100/10 200/21 300/30 -400/40", 200, impl.ExecFine},
		{someBoxes, "num 1 5,put 0 1,put 3 1,put 0 2", "0/11 200/20 300/30 5/41", 0, impl.ExecFine},
		// No instructions, and programs that only look.
		{someBoxes, "", someBoxes, 0, impl.ExecFine},
		{someBoxes, "load 0 3", someBoxes, -400, impl.ExecFine},
		{someBoxes, "load 0 3,load 1 2,add 0 1", someBoxes, -100, impl.ExecFine},
		{someBoxes, "load 1 3", someBoxes, 0, impl.ExecFine},
		{someBoxes, "num 1 1,less 0 1 1,put 2 1", someBoxes, 0, impl.ExecFine},
		// What fails or comes to be too great says 0, and turns nothing.
		{someBoxes, "fail", someBoxes, 0, impl.ExecFails},
		{someBoxes, "load 0 1,put 2 0,fail", someBoxes, 0, impl.ExecFails},
		{someBoxes, "load 0 1,put 2 0,num 1 1000000,add 0 1", someBoxes, 0, impl.ExecGreat},
		{someBoxes, "num 0 -1000000,put 1 0,num 1 1,sub 0 1", someBoxes, 0, impl.ExecGreat},
		// The bounds.
		{"5/1000000 6/999999 7/0 8/1000000", "num 0 9,put 0 0,put 1 0,put 2 0", "9/1000000 9/1000000 9/1 8/1000000", 9, impl.ExecFine},
		{"5/1000000 0/0 0/0 0/0", "num 0 9,put 0 0,put 0 1,put 0 0", "9/1000000 0/0 0/0 0/0", 9, impl.ExecFine},
		{"1000000/0 -1000000/0 0/0 0/0", "load 0 0,load 1 1,put 1 0,put 0 1", "-1000000/1 1000000/1 0/0 0/0", impl.BoxMax, impl.ExecFine},
	} {
		wantOne(t, boxesOf(t, c.boxes), progOf(t, c.prog), boxesOf(t, c.want), c.val, c.code)
	}
	wantOne(t, impl.BoxOpen(), []impl.Ins{}, impl.BoxOpen(), 0, impl.ExecFine)
}

// badLists is lists of boxes that are not ok.
func badLists() [][]impl.Box {
	var out [][]impl.Box
	for place := range impl.BoxAll {
		for _, box := range badBoxes() {
			out = append(out, zerosBut(place, box))
		}
	}
	for size := range 3 * impl.BoxAll {
		if size != impl.BoxAll {
			out = append(out, make([]impl.Box, size))
		}
	}
	return append(out, nil)
}

// badProgs is programs that are not ok.
func badProgs() [][]impl.Ins {
	var out [][]impl.Ins
	for _, ins := range badIns() {
		out = append(out, []impl.Ins{ins}, failsBut(3, 0, ins), failsBut(3, 1, ins), failsBut(impl.ProgMax, impl.ProgMax-1, ins))
	}
	num := []impl.Ins{{Kind: impl.ProgNum, N: 5}}
	return append(out, slices.Repeat(num, impl.ProgMax+1), slices.Repeat(num, 1<<12))
}

func TestSerialOneOfWhatIsNotOk(t *testing.T) {
	for _, prog := range badProgs() {
		wantOne(t, impl.BoxOpen(), prog, nil, 0, impl.ExecForm)
		wantOne(t, boxesOf(t, someBoxes), prog, nil, 0, impl.ExecForm)
		wantOne(t, nil, prog, nil, 0, impl.ExecForm)
	}
	for _, list := range badLists() {
		for _, text := range []string{"", "fail", "load 0 1,put 2 0", "num 0 7,put 0 0", "num 0 1000000,add 0 0"} {
			wantOne(t, list, progOf(t, text), nil, 0, impl.ExecForm)
		}
	}
	num := slices.Repeat([]impl.Ins{{Kind: impl.ProgNum, N: 5}}, impl.ProgMax)
	wantOne(t, boxesOf(t, someBoxes), num, boxesOf(t, someBoxes), 5, impl.ExecFine)
}

func TestSerialAllIsWhatTheModelIs(t *testing.T) {
	d := draws(22)
	for range 2000 {
		list := d.boxes()
		boxes := slices.Clone(list)
		var progs [][]impl.Ins
		var vals []int
		for range d.below(12) {
			prog := d.prog()
			progs = append(progs, prog)
			after, val, _ := alone(boxes, prog)
			boxes, vals = after, append(vals, val)
		}
		wantAll(t, list, progs, boxes, vals)
	}
}

func TestSerialAll(t *testing.T) {
	for _, c := range []struct {
		boxes string
		progs []string
		want  string
		vals  []int
	}{
		{someBoxes, []string{"load 0 1,put 2 0"}, "100/10 200/20 200/31 -400/40", []int{200}},
		// Each sees what the ones ahead of it left, and starts with registers of its own.
		{someBoxes, []string{"num 0 5,put 1 0", "load 0 1,add 0 0,put 2 0", "load 0 2,put 3 0"}, "100/10 5/21 10/31 10/41", []int{5, 10, 10}},
		{someBoxes, []string{"load 0 2,put 3 0", "load 0 1,add 0 0,put 2 0", "num 0 5,put 1 0"}, "100/10 5/21 400/31 300/41", []int{300, 400, 5}},
		{someBoxes, []string{"num 0 9,num 1 9,num 2 9,num 3 9", "put 0 0,put 1 1,put 2 2,put 3 3"}, "0/11 0/21 0/31 0/41", []int{9, 0}},
		{someBoxes, []string{"num 0 1,put 0 0", "num 0 2,put 0 0", "num 0 3,put 0 0"}, "3/13 200/20 300/30 -400/40", []int{1, 2, 3}},
		{someBoxes, []string{"load 0 0,load 1 1,put 0 1,put 1 0", "load 0 0,load 1 1,put 0 1,put 1 0"}, "100/12 200/22 300/30 -400/40", []int{100, 200}},
		// One fails, or comes to be too great: it says 0 at its place, and the others go on.
		{someBoxes, []string{"num 0 5,put 1 0", "load 0 1,put 2 0,fail", "load 0 1,put 3 0"}, "100/10 5/21 300/30 5/41", []int{5, 0, 5}},
		{someBoxes, []string{"fail", "num 0 5,put 1 0"}, "100/10 5/21 300/30 -400/40", []int{0, 5}},
		{someBoxes, []string{"num 0 5,put 1 0", "fail"}, "100/10 5/21 300/30 -400/40", []int{5, 0}},
		{someBoxes, []string{"num 0 5,put 1 0", "num 0 1000000,put 1 0,add 0 0", "load 0 1"}, "100/10 5/21 300/30 -400/40", []int{5, 0, 5}},
		{someBoxes, []string{"num 0 600000,put 0 0", "load 0 0,add 0 0,put 0 0", "load 0 0"}, "600000/11 200/20 300/30 -400/40", []int{600000, 0, 600000}},
		{someBoxes, []string{"fail", "fail", "num 0 1000000,add 0 0"}, someBoxes, []int{0, 0, 0}},
		// Those that only look, and those of no instructions.
		{someBoxes, []string{"load 0 0", "load 0 1", "load 0 2", "load 0 3"}, someBoxes, []int{100, 200, 300, -400}},
		{someBoxes, []string{"", "load 0 3", ""}, someBoxes, []int{0, -400, 0}},
		{"5/1000000 6/999999 0/0 0/0", []string{"num 0 9,put 0 0,put 1 0", "num 0 8,put 0 0,put 1 0"}, "8/1000000 8/1000000 0/0 0/0", []int{9, 8}},
	} {
		wantAll(t, boxesOf(t, c.boxes), progsOf(t, c.progs...), boxesOf(t, c.want), c.vals)
	}
}

func TestSerialAllOfNoPrograms(t *testing.T) {
	for _, text := range []string{someBoxes, "0/0 0/0 0/0 0/0", "1000000/1000000 -1000000/1000000 0/0 1/1"} {
		wantAll(t, boxesOf(t, text), nil, boxesOf(t, text), nil)
		wantAll(t, boxesOf(t, text), [][]impl.Ins{}, boxesOf(t, text), nil)
		wantAll(t, boxesOf(t, text), [][]impl.Ins{nil}, boxesOf(t, text), []int{0})
		wantAll(t, boxesOf(t, text), [][]impl.Ins{{}, nil}, boxesOf(t, text), []int{0, 0})
	}
	for _, list := range badLists() {
		wantAll(t, list, nil, nil, nil)
		wantAll(t, list, [][]impl.Ins{}, nil, nil)
	}
}

func TestSerialAllOfAsManyAsMayBe(t *testing.T) {
	count := progOf(t, "load 0 2,num 1 1,add 0 1,put 2 0")
	for _, size := range []int{1, 2, 99, 100} {
		vals := make([]int, size)
		for place := range vals {
			vals[place] = 301 + place
		}
		want := boxesOf(t, someBoxes)
		want[2] = impl.Box{Ver: 30 + size, Val: 300 + size}
		wantAll(t, boxesOf(t, someBoxes), slices.Repeat([][]impl.Ins{count}, size), want, vals)
		wantAll(t, boxesOf(t, someBoxes), make([][]impl.Ins, size), boxesOf(t, someBoxes), make([]int, size))
	}
	for _, size := range []int{101, 102, 200, 1000, 1 << 16} {
		wantAll(t, boxesOf(t, someBoxes), slices.Repeat([][]impl.Ins{count}, size), nil, nil)
		wantAll(t, boxesOf(t, someBoxes), make([][]impl.Ins, size), nil, nil)
		wantAll(t, nil, make([][]impl.Ins, size), nil, nil)
	}
}

func TestSerialAllOfWhatIsNotOk(t *testing.T) {
	fine := progOf(t, "load 0 1,put 2 0")
	for _, bad := range badProgs() {
		for size := 1; size <= 4; size++ {
			for place := range size {
				progs := slices.Repeat([][]impl.Ins{fine}, size)
				progs[place] = bad
				wantAll(t, boxesOf(t, someBoxes), progs, nil, nil)
			}
		}
		// What is ahead of it fails: that ends no more than that one program.
		wantAll(t, boxesOf(t, someBoxes), [][]impl.Ins{progOf(t, "fail"), bad}, nil, nil)
		for _, place := range []int{0, 50, 99} {
			progs := slices.Repeat([][]impl.Ins{fine}, 100)
			progs[place] = bad
			wantAll(t, boxesOf(t, someBoxes), progs, nil, nil)
		}
	}
	for _, list := range badLists() {
		wantAll(t, list, [][]impl.Ins{fine}, nil, nil)
		wantAll(t, list, [][]impl.Ins{fine, nil, fine}, nil, nil)
		wantAll(t, list, [][]impl.Ins{badProgs()[0]}, nil, nil)
	}
}

func TestSerialFree(t *testing.T) {
	for _, c := range []struct {
		a, b string
		want bool
	}{
		// Programs without a box, and beside others.
		{"", "", true}, {"", "fail", true}, {"num 0 3,add 0 0,sub 1 0,less 0 1 2", "num 0 3", true},
		{"", "load 0 1,put 1 0", true}, {"num 1 2", "load 0 1,put 1 0,put 2 0", true},
		// A box that both only look into.
		{"load 0 1", "load 0 1", true}, {"load 0 1,load 0 2", "load 3 2,load 2 1", true}, {"load 0 1,put 0 0", "load 0 1,put 2 0", true},
		// A box that one puts into and the other one looks into.
		{"put 1 0", "load 0 1", false}, {"load 0 2,put 1 0", "load 0 3,load 0 1,put 0 0", false}, {"put 0 0,put 1 0,put 2 0", "load 0 2", false},
		// A box that both put into.
		{"put 1 0", "put 1 0", false}, {"put 0 0,put 1 0", "put 1 0,put 2 0", false}, {"load 0 3,put 1 0", "put 2 0,put 1 3", false},
		// Boxes of their own.
		{"put 1 0", "put 2 0", true}, {"put 1 0", "load 0 2", true}, {"load 0 1,put 1 0", "load 0 2,put 2 0", true},
		// A register, a number or how many are left out is no box.
		{"put 1 2", "load 1 2", true}, {"put 1 2", "put 2 1", true}, {"put 3 1", "load 3 1,num 3 3,add 3 3,sub 3 3,less 3 3 3", true},
		// What is never come to counts all the same.
		{"fail,put 1 0", "load 0 1", false}, {"put 1 0", "num 0 1,less 1 0 1,load 0 1", false}, {"fail,put 1 0", "fail,put 1 0", false},
		// What a program does with its own boxes alone is no matter, nor how often.
		{"load 0 1,put 1 0,load 0 1,put 1 0", "load 0 0", true}, {"put 1 0,put 1 0,put 1 0", "put 2 0,put 2 0", true},
	} {
		wantFree(t, progOf(t, c.a), progOf(t, c.b), c.want)
	}
}

// Each two boxes and each two ways to meet them.
func TestSerialFreeOfEachTwoBoxes(t *testing.T) {
	for one := range impl.BoxAll {
		for other := range impl.BoxAll {
			load, put := impl.Ins{Kind: impl.ProgLoad, B: one}, impl.Ins{Kind: impl.ProgPut, A: one}
			otherLoad, otherPut := impl.Ins{Kind: impl.ProgLoad, B: other}, impl.Ins{Kind: impl.ProgPut, A: other}
			wantFree(t, []impl.Ins{load}, []impl.Ins{otherLoad}, true)
			wantFree(t, []impl.Ins{load}, []impl.Ins{otherPut}, one != other)
			wantFree(t, []impl.Ins{put}, []impl.Ins{otherLoad}, one != other)
			wantFree(t, []impl.Ins{put}, []impl.Ins{otherPut}, one != other)
		}
	}
}

func TestSerialFreeIsWhatInstructionsSay(t *testing.T) {
	d := draws(23)
	for range 40000 {
		a, b := d.prog(), d.prog()
		wantFree(t, a, b, canNotMeet(a, b))
	}
}

func TestSerialFreeOfWhatIsNotOk(t *testing.T) {
	for _, bad := range badProgs() {
		for _, text := range []string{"", "fail", "load 0 3", "num 0 7,put 3 0"} {
			wantFree(t, bad, progOf(t, text), false)
		}
		wantFree(t, bad, nil, false)
		wantFree(t, bad, bad, false)
	}
	// Numbers that name no box must not be taken for bits either.
	for _, none := range []int{math.MinInt, -1, impl.BoxAll, 31, 32, 63, 64, 65, math.MaxInt} {
		wantFree(t, []impl.Ins{{Kind: impl.ProgPut, A: none}}, []impl.Ins{{Kind: impl.ProgLoad, B: 1}}, false)
		wantFree(t, []impl.Ins{{Kind: impl.ProgLoad, B: none}}, []impl.Ins{{Kind: impl.ProgPut, A: none}}, false)
	}
	num := []impl.Ins{{Kind: impl.ProgNum, N: 5}}
	wantFree(t, slices.Repeat(num, impl.ProgMax), slices.Repeat(num, impl.ProgMax), true)
	wantFree(t, slices.Repeat(num, impl.ProgMax), slices.Repeat(num, impl.ProgMax+1), false)
}

func TestSerialOneIsNewMemory(t *testing.T) {
	for _, text := range []string{"", "load 0 1", "fail", "num 0 1000000,add 0 0", "num 0 5,put 1 0"} {
		boxes, prog := boxesOf(t, someBoxes), progOf(t, text)
		first, _, _ := impl.SerialOne(boxes, prog)
		second, val, code := impl.SerialOne(boxes, prog)
		was := slices.Clone(first)
		fill(first)
		wantOne(t, boxes, prog, was, val, code)
		if !slices.Equal(second, was) || impl.BoxText(boxes) != someBoxes || impl.ProgText(prog) != text {
			t.Errorf("of %q: what is written into one answer shows elsewhere", text)
		}
		fill(boxes)
		overwrite(prog, impl.Ins{Kind: 77})
		if !slices.Equal(second, was) {
			t.Errorf("of %q: what is written into an argument shows in an answer", text)
		}
	}
}

func TestSerialAllIsNewMemory(t *testing.T) {
	for _, texts := range [][]string{
		nil, {""}, {"fail"}, {"load 0 1", "load 0 2"}, {"num 0 5,put 1 0"}, {"num 0 5,put 1 0", "load 0 1,put 2 0", "fail"}, slices.Repeat([]string{"load 0 1,put 2 0"}, 5),
	} {
		boxes, progs := boxesOf(t, someBoxes), progsOf(t, texts...)
		first, firstVals := impl.SerialAll(boxes, progs)
		second, secondVals := impl.SerialAll(boxes, progs)
		was, wasVals := slices.Clone(first), slices.Clone(firstVals)
		fill(first)
		if !slices.Equal(firstVals, wasVals) {
			t.Errorf("of %q: what is written into the boxes shows in what was said", texts)
		}
		overwrite(firstVals, 77)
		wantAll(t, boxes, progs, was, wasVals)
		if !slices.Equal(second, was) || !slices.Equal(secondVals, wasVals) || impl.BoxText(boxes) != someBoxes || !slices.Equal(progTexts(progs), texts) {
			t.Errorf("of %q: what is written into one answer shows elsewhere", texts)
		}
		overwrite(secondVals, 77)
		if !slices.Equal(second, was) {
			t.Errorf("of %q: what is written into what was said shows in the boxes", texts)
		}
		fill(boxes)
		for _, prog := range progs {
			overwrite(prog, impl.Ins{Kind: 77})
		}
		overwrite(progs, []impl.Ins{{Kind: 77}})
		if !slices.Equal(second, was) {
			t.Errorf("of %q: what is written into an argument shows in an answer", texts)
		}
	}
}

// Each argument is a part of a longer list, ahead of and behind which nothing may be written either.
func TestSerialArgumentsAreNotWritten(t *testing.T) {
	d := draws(24)
	for range 1000 {
		boxes, room := slices.Concat(d.boxes(), d.boxes(), d.boxes()), slices.Concat(d.prog(), d.prog(), d.prog(), badIns()[:3])
		var progs [][]impl.Ins
		for range 6 {
			at := d.below(len(room))
			progs = append(progs, room[at:min(at+d.below(impl.ProgMax+1), len(room))])
		}
		wasBoxes, wasRoom, wasTexts := slices.Clone(boxes), slices.Clone(room), progTexts(progs)
		for _, list := range [][]impl.Box{boxes, boxes[4:8], boxes[:3], boxes[3:7], boxes[:4]} {
			impl.SerialOne(list, progs[0])
			impl.SerialOne(list, room)
			impl.SerialAll(list, progs)
			impl.SerialAll(list, progs[2:4])
			impl.SerialAll(list, progs[:0])
			impl.SerialFree(progs[0], progs[1])
			impl.SerialFree(progs[0], room)
		}
		if !slices.Equal(boxes, wasBoxes) || !slices.Equal(room, wasRoom) || !slices.Equal(progTexts(progs), wasTexts) {
			t.Fatalf("arguments are %v, %v, %v", boxes, room, progs)
		}
	}
}

// What stands behind the end of an argument turns no answer.
func TestSerialAnswersHangOnTheListsAlone(t *testing.T) {
	boxes := append(boxesOf(t, someBoxes), impl.Box{Ver: -1}, impl.Box{Val: 7})[:impl.BoxAll]
	prog := append(progOf(t, "load 0 1,put 2 0"), impl.Ins{Kind: impl.ProgPut, A: 3}, impl.Ins{Kind: 77})[:2]
	progs := append([][]impl.Ins{prog, prog}, progOf(t, "fail"), []impl.Ins{{Kind: 77}})
	wantOne(t, boxes, prog, boxesOf(t, "100/10 200/20 200/31 -400/40"), 200, impl.ExecFine)
	wantAll(t, boxes, progs[:2], boxesOf(t, "100/10 200/20 200/32 -400/40"), []int{200, 200})
	wantFree(t, prog, progOf(t, "load 0 3,put 3 0"), true)
}
