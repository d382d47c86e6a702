package tests

import (
	"math"
	"slices"
	"strconv"
	"strings"
	"testing"

	"loop.example/thingstead/impl"
)

// edgeIns is instructions of each kind that are ok, with each number at its edges.
func edgeIns() []impl.Ins {
	var out []impl.Ins
	regs := []int{0, 1, impl.ProgRegs - 1}
	boxes := []int{0, 2, impl.BoxAll - 1}
	for _, reg := range regs {
		for _, box := range boxes {
			out = append(out, impl.Ins{Kind: impl.ProgLoad, A: reg, B: box}, impl.Ins{Kind: impl.ProgPut, A: box, B: reg})
		}
		for _, n := range []int{-impl.BoxMax, 1 - impl.BoxMax, -10, -1, 0, 1, 9, 10, impl.BoxMax - 1, impl.BoxMax} {
			out = append(out, impl.Ins{Kind: impl.ProgNum, A: reg, N: n})
		}
		for _, other := range regs {
			out = append(out, impl.Ins{Kind: impl.ProgAdd, A: reg, B: other}, impl.Ins{Kind: impl.ProgSub, A: reg, B: other})
			for _, n := range []int{1, 2, impl.ProgMax - 1, impl.ProgMax} {
				out = append(out, impl.Ins{Kind: impl.ProgLess, A: reg, B: other, N: n})
			}
		}
	}
	return append(out, impl.Ins{Kind: impl.ProgFail})
}

// badIns is instructions of which each has one thing that is not ok.
func badIns() []impl.Ins {
	var out []impl.Ins
	for _, kind := range []int{math.MinInt, -1, 0, impl.ProgFail + 1, 8, 100, math.MaxInt} {
		out = append(out, impl.Ins{Kind: kind}, impl.Ins{Kind: kind, A: 1, B: 1, N: 1})
	}
	for _, beyond := range []int{math.MinInt, -1, impl.ProgRegs, impl.BoxAll, 10, math.MaxInt} {
		for _, kind := range []int{impl.ProgLoad, impl.ProgPut, impl.ProgAdd, impl.ProgSub} {
			out = append(out, impl.Ins{Kind: kind, A: beyond}, impl.Ins{Kind: kind, B: beyond})
		}
		out = append(out,
			impl.Ins{Kind: impl.ProgNum, A: beyond},
			impl.Ins{Kind: impl.ProgLess, A: beyond, N: 1}, impl.Ins{Kind: impl.ProgLess, B: beyond, N: 1})
	}
	for _, n := range []int{math.MinInt, -impl.BoxMax - 1, impl.BoxMax + 1, math.MaxInt} {
		out = append(out, impl.Ins{Kind: impl.ProgNum, N: n})
	}
	for _, n := range []int{math.MinInt, -1, 0, impl.ProgMax + 1, math.MaxInt} {
		out = append(out, impl.Ins{Kind: impl.ProgLess, N: n})
	}
	return append(out, hasTooMuch()...)
}

// hasTooMuch is instructions with a number that those of their kind have not.
func hasTooMuch() []impl.Ins {
	var out []impl.Ins
	for _, n := range []int{math.MinInt, -1, 1, 3, math.MaxInt} {
		for _, kind := range []int{impl.ProgLoad, impl.ProgPut, impl.ProgAdd, impl.ProgSub, impl.ProgFail} {
			out = append(out, impl.Ins{Kind: kind, N: n})
		}
		out = append(out, impl.Ins{Kind: impl.ProgNum, B: n}, impl.Ins{Kind: impl.ProgFail, A: n}, impl.Ins{Kind: impl.ProgFail, B: n})
	}
	return out
}

// failsBut is a program of that size with the given instruction at a place.
func failsBut(size int, place int, ins impl.Ins) []impl.Ins {
	list := slices.Repeat([]impl.Ins{{Kind: impl.ProgFail}}, size)
	list[place] = ins
	return list
}

func wantProgBack(t *testing.T, list []impl.Ins) {
	t.Helper()
	text := impl.ProgText(list)
	got, ok := impl.ProgRead(text)
	if !impl.ProgOk(list) || !ok || !slices.Equal(got, list) || !impl.ProgSame(got, list) {
		t.Errorf("%v, ok %v, written as %q, is read as %v, %v", list, impl.ProgOk(list), text, got, ok)
	}
}

func wantNoProg(t *testing.T, text string) {
	t.Helper()
	if got, ok := impl.ProgRead(text); ok || len(got) != 0 {
		t.Errorf("%q is read as %v, %v", text, got, ok)
	}
}

// Promise 2.
func TestProgramsAreReadAsTheyWere(t *testing.T) {
	wantProgBack(t, nil)
	wantProgBack(t, []impl.Ins{})
	edges := edgeIns()
	for _, ins := range edges {
		wantProgBack(t, []impl.Ins{ins})
		for place := range impl.ProgMax {
			wantProgBack(t, failsBut(impl.ProgMax, place, ins))
		}
		for _, other := range edges {
			wantProgBack(t, []impl.Ins{ins, other})
		}
	}
	seed := uint32(1)
	next := func(below int) int {
		seed = seed*1664525 + 1013904223
		return int(seed>>8) % below
	}
	for range 5000 {
		list := make([]impl.Ins, next(impl.ProgMax+1))
		for place := range list {
			list[place] = edges[next(len(edges))]
		}
		wantProgBack(t, list)
	}
}

func TestProgKindsAndBounds(t *testing.T) {
	got := []int{impl.ProgLoad, impl.ProgPut, impl.ProgNum, impl.ProgAdd, impl.ProgSub, impl.ProgLess, impl.ProgFail, impl.ProgRegs, impl.ProgMax}
	if !slices.Equal(got, []int{1, 2, 3, 4, 5, 6, 7, 4, 10}) {
		t.Error(got)
	}
}

func TestProgOkAtItsEdges(t *testing.T) {
	for size := range 3 * impl.ProgMax {
		list := slices.Repeat([]impl.Ins{{Kind: impl.ProgFail}}, size)
		if got := impl.ProgOk(list); got != (size <= impl.ProgMax) {
			t.Errorf("%d instructions: %v", size, got)
		}
	}
	if !impl.ProgOk(nil) || !impl.ProgOk([]impl.Ins{}) {
		t.Error("no instructions are not ok")
	}
	for _, ins := range edgeIns() {
		if !impl.ProgOk([]impl.Ins{ins}) {
			t.Errorf("%v is not ok", ins)
		}
	}
	for _, ins := range badIns() {
		for place := range impl.ProgMax {
			if impl.ProgOk(failsBut(impl.ProgMax, place, ins)) {
				t.Errorf("%v at %d is ok", ins, place)
			}
		}
	}
}

// A ProgLess may leave out more instructions than there are behind it.
func TestProgLessAtTheEnd(t *testing.T) {
	wantProgBack(t, []impl.Ins{{Kind: impl.ProgLess, N: impl.ProgMax}})
	wantProgBack(t, failsBut(impl.ProgMax, impl.ProgMax-1, impl.Ins{Kind: impl.ProgLess, A: 3, B: 3, N: 1}))
}

func TestProgSame(t *testing.T) {
	if !impl.ProgSame(nil, []impl.Ins{}) || !impl.ProgSame([]impl.Ins{}, nil) || !impl.ProgSame(nil, nil) {
		t.Error("the nil list and the empty list differ")
	}
	for size := range 2 * impl.ProgMax {
		list := make([]impl.Ins, size)
		for place := range list {
			list[place] = impl.Ins{Kind: place, A: -place, B: 2 * place, N: math.MaxInt - place}
		}
		if !impl.ProgSame(list, slices.Clone(list)) {
			t.Errorf("%v differs from itself", list)
		}
		wantProgsDiffer(t, list, append(slices.Clone(list), impl.Ins{}))
		for place := range list {
			for _, change := range []func(*impl.Ins){
				func(ins *impl.Ins) { ins.Kind++ },
				func(ins *impl.Ins) { ins.A++ },
				func(ins *impl.Ins) { ins.B++ },
				func(ins *impl.Ins) { ins.N-- },
			} {
				other := slices.Clone(list)
				change(&other[place])
				wantProgsDiffer(t, list, other)
			}
		}
	}
	one, two := impl.Ins{Kind: impl.ProgAdd, A: 1, B: 2}, impl.Ins{Kind: impl.ProgAdd, A: 2, B: 1}
	wantProgsDiffer(t, []impl.Ins{one, two}, []impl.Ins{two, one})
	wantProgsDiffer(t, nil, []impl.Ins{{}})
}

func wantProgsDiffer(t *testing.T, a []impl.Ins, b []impl.Ins) {
	t.Helper()
	if impl.ProgSame(a, b) || impl.ProgSame(b, a) {
		t.Errorf("%v and %v are the same", a, b)
	}
}

func TestProgText(t *testing.T) {
	for _, c := range []struct {
		list []impl.Ins
		want string
	}{
		{nil, ""},
		{[]impl.Ins{}, ""},
		{[]impl.Ins{{Kind: impl.ProgLoad, A: 1, B: 2}}, "load 1 2"},
		{[]impl.Ins{{Kind: impl.ProgPut, A: 1, B: 2}}, "put 1 2"},
		{[]impl.Ins{{Kind: impl.ProgNum, A: 1, N: -20}}, "num 1 -20"},
		{[]impl.Ins{{Kind: impl.ProgNum}}, "num 0 0"},
		{[]impl.Ins{{Kind: impl.ProgAdd, A: 1, B: 2}}, "add 1 2"},
		{[]impl.Ins{{Kind: impl.ProgSub, A: 1, B: 2}}, "sub 1 2"},
		{[]impl.Ins{{Kind: impl.ProgLess, A: 1, B: 2, N: 3}}, "less 1 2 3"},
		{[]impl.Ins{{Kind: impl.ProgFail}}, "fail"},
		{[]impl.Ins{{Kind: impl.ProgFail}, {Kind: impl.ProgNum, A: 3, N: impl.BoxMax}, {Kind: impl.ProgFail}}, "fail,num 3 1000000,fail"},
	} {
		if got := impl.ProgText(c.list); got != c.want {
			t.Errorf("%v is written as %q, not %q", c.list, got, c.want)
		}
	}
}

// What is not ok has a text all the same: the numbers of its kind, whatever they are, and `none` of no kind.
func TestProgTextOfWhatIsNotOk(t *testing.T) {
	for _, c := range []struct {
		list []impl.Ins
		want string
	}{
		{[]impl.Ins{{}}, "none"},
		{[]impl.Ins{{Kind: 8, A: 1, B: 2, N: 3}, {Kind: -1}, {Kind: math.MinInt}, {Kind: math.MaxInt}}, "none,none,none,none"},
		{[]impl.Ins{{Kind: impl.ProgLoad, A: -1, B: 4, N: 5}}, "load -1 4"},
		{[]impl.Ins{{Kind: impl.ProgPut, A: 40, B: -30, N: 5}}, "put 40 -30"},
		{[]impl.Ins{{Kind: impl.ProgNum, A: 9, B: 5, N: 1000001}}, "num 9 1000001"},
		{[]impl.Ins{{Kind: impl.ProgLess, A: 9, B: -5}}, "less 9 -5 0"},
		{[]impl.Ins{{Kind: impl.ProgFail, A: 1, B: 2, N: 3}}, "fail"},
		{[]impl.Ins{{Kind: impl.ProgAdd, A: math.MinInt64, B: math.MaxInt64}}, "add -9223372036854775808 9223372036854775807"},
		{slices.Repeat([]impl.Ins{{Kind: impl.ProgFail}}, 12), "fail,fail,fail,fail,fail,fail,fail,fail,fail,fail,fail,fail"},
	} {
		if got := impl.ProgText(c.list); got != c.want {
			t.Errorf("%v is written as %q, not %q", c.list, got, c.want)
		}
	}
}

func TestProgReadOfNoInstructions(t *testing.T) {
	if got, ok := impl.ProgRead(""); !ok || len(got) != 0 {
		t.Errorf("the empty text is read as %v, %v", got, ok)
	}
}

// A number that those of a kind have not is not told, so it can not be read either.
func TestProgReadRefusesWhatIsNotOk(t *testing.T) {
	untold := hasTooMuch()
	for _, ins := range badIns() {
		if slices.Contains(untold, ins) {
			continue
		}
		for place := range impl.ProgMax {
			wantNoProg(t, impl.ProgText(failsBut(impl.ProgMax, place, ins)))
		}
	}
	for size := impl.ProgMax + 1; size < 3*impl.ProgMax; size++ {
		wantNoProg(t, impl.ProgText(slices.Repeat([]impl.Ins{{Kind: impl.ProgFail}}, size)))
	}
}

// Each wrong instruction stands alone, and first, last and amid right ones.
func TestProgReadRefusesWrongInstructions(t *testing.T) {
	for _, one := range wrongInstructions() {
		if one != "" {
			wantNoProg(t, one)
		}
		wantNoProg(t, one+",num 0 1")
		wantNoProg(t, "num 0 1,"+one)
		wantNoProg(t, "fail,"+one+",add 0 1")
	}
}

func wrongInstructions() []string {
	out := []string{
		"", " ", "  ", "0", "1 0 0", "none", "none 0", "fly", "fly 0 1", "Fail", "FAIL", "loads 0 1", "loa 0 1", "fail.", "jump 1",
		"fail 1", "fail 0", "fail 0 0", "fail 0 0 0", "fail ", " fail", "fail  ", "fail\n", "\tfail", "fail\x00", "\xfffail", "fa il", "failfail", "fail;fail",
		"load", "load 0", "put", "put 0", "num", "num 0", "add", "add 0", "sub", "sub 0", "less", "less 0", "less 0 1",
		"load 0 1 2", "put 0 1 2", "num 0 1 2", "num 0 0 1", "add 0 1 2", "sub 0 1 2", "less 0 1 2 3", "load 0 1 0", "num 0 1 0", "less 0 1 1 0",
		"load  0 1", "load 0  1", " load 0 1", "load 0 1 ", "load 0 ", "load  0", "less 0 1 ", "less 0  1", "less 0 1  2", "num 0 1 ", "num  1",
		"load0 1", "load 01", "load\t0 1", "load 0\t1", "load 0\n1", "load 0 1\n", "load 0 1\r", "load 0,1", "load 0/1", "load\u00a00 1",
		"load a 1", "load 0 a", "load 0x0 1", "load 0 0x1", "load 1.0 1", "load 1e0 1", "load 0 1_0", "load \u0660 1", "load 0 \uff11", "load 0 \xff", "num 0 \u22121",
		"load -1 0", "load 0 -1", "put -1 0", "put 0 -1", "num -1 0", "add -1 0", "sub 0 -1", "less -1 0 1", "less 0 -1 1", "less 0 1 -1",
		"load 4 0", "load 0 4", "put 4 0", "put 0 4", "num 4 0", "add 4 0", "add 0 4", "sub 4 0", "sub 0 4", "less 4 0 1", "less 0 4 1", "less 0 1 0", "less 0 1 11",
		"num 0 1000001", "num 0 -1000001", "num 0 10000000", "num 0 4294967296", "num 4294967296 0", "num 0 9223372036854775808", "num 0 -9223372036854775809", "num 0 18446744073709551616",
		"num 0 -", "num 0 +", "num 0 --1", "num 0 1-", "num 0 - 1", "num - 1", "num 0 -+1",
	}
	for _, number := range []string{"00", "01", "-0", "+0", "+1", "-01", "-00", "+", "-", ""} {
		out = append(out,
			"load "+number+" 0", "load 0 "+number, "put "+number+" 0", "put 0 "+number, "num "+number+" 0", "num 0 "+number,
			"add "+number+" 0", "sub 0 "+number, "less "+number+" 0 1", "less 0 "+number+" 1", "less 0 0 "+number)
	}
	return out
}

func TestProgReadRefusesWrongCommas(t *testing.T) {
	for _, text := range []string{
		",", ",,", "fail,", ",fail", "fail,,fail", "fail,fail,", ",fail,fail", "fail,fail,,", "fail,,", ",,fail",
		"fail, fail", "fail ,fail", "fail , fail", "fail fail", "fail;fail", "fail\nfail", "fail\uff0cfail", "num 0 1,", "num 0 1,,num 0 1", "num 0 1, ", "load 0 1,load 0,",
		strings.Repeat("fail,", impl.ProgMax), strings.Repeat("fail,", impl.ProgMax-1) + ",fail",
	} {
		wantNoProg(t, text)
	}
}

// The longest text of a program that is ok has 149 bytes, so texts of 400 bytes and of more are all refused.
func TestProgReadAtTheSizeOfTexts(t *testing.T) {
	longest := strings.TrimSuffix(strings.Repeat("num 3 -1000000,", impl.ProgMax), ",")
	if got, ok := impl.ProgRead(longest); !ok || impl.ProgText(got) != longest || len(longest) != 149 {
		t.Errorf("%v, %v", got, ok)
	}
	for size := len(longest) + 1; size <= 410; size++ {
		more := size - len(longest)
		wantNoProg(t, longest+strings.Repeat(" ", more))
		wantNoProg(t, strings.Repeat(" ", more)+longest)
		wantNoProg(t, longest+strings.Repeat("0", more))
		wantNoProg(t, longest+strings.Repeat(",", more))
		wantNoProg(t, "num 3 -"+strings.Repeat("0", more)+longest[7:])
		wantNoProg(t, strings.Repeat("\x00", size))
		wantNoProg(t, strings.Repeat(",", size))
	}
	for _, size := range []int{80, 81, 1 << 16} {
		wantNoProg(t, strings.TrimSuffix(strings.Repeat("fail,", size), ","))
	}
	wantNoProg(t, strings.Repeat("num 0 1,", 50))
	wantNoProg(t, strings.Repeat("1", 1<<20))
}

// Whatever one byte is changed, put in or left out: what is read is ok and has just that text.
func TestProgReadBesideRightTexts(t *testing.T) {
	bytes := "0123456789, -+\x00\t\nx\xffeadfilnostup"
	for _, text := range []string{"fail", "load 0 1,put 2 3,less 0 1 10", "num 1 -1000000,add 0 1,sub 3 2,num 0 10,fail"} {
		for at := range len(text) + 1 {
			for i := range len(bytes) {
				one := bytes[i : i+1]
				wantProgsOwnText(t, text[:at]+one+text[at:])
				if at < len(text) {
					wantProgsOwnText(t, text[:at]+one+text[at+1:])
				}
			}
			wantProgsOwnText(t, text[:at])
			wantProgsOwnText(t, text[at:])
			if at < len(text) {
				wantProgsOwnText(t, text[:at]+text[at+1:])
			}
		}
	}
}

func wantProgsOwnText(t *testing.T, text string) {
	t.Helper()
	got, ok := impl.ProgRead(text)
	if ok && (!impl.ProgOk(got) || impl.ProgText(got) != text) {
		t.Errorf("%q is read as %v", text, got)
	}
	if !ok && len(got) != 0 {
		t.Errorf("%q is refused with %v", text, got)
	}
}

func TestProgLoadsAndProgPuts(t *testing.T) {
	for _, c := range []struct {
		text        string
		loads, puts []int
	}{
		{"", nil, nil},
		{"fail", nil, nil},
		{"num 1 2,add 1 2,sub 1 2,less 1 2 3", nil, nil},
		{"load 0 1", []int{1}, nil},
		{"put 1 0", nil, []int{1}},
		{"load 0 3,load 1 0,load 2 3,load 3 1", []int{0, 1, 3}, nil},
		{"put 3 0,put 0 1,put 3 2,put 1 3", nil, []int{0, 1, 3}},
		{"load 3 2,put 2 3,load 3 2,put 2 3", []int{2}, []int{2}},
		{"load 0 3,load 0 2,load 0 1,load 0 0,put 3 0,put 2 0,put 1 0,put 0 0", []int{0, 1, 2, 3}, []int{0, 1, 2, 3}},
		{"fail,load 0 1,less 0 1 10,put 2 0", []int{1}, []int{2}},
	} {
		list, ok := impl.ProgRead(c.text)
		if !ok {
			t.Fatalf("%q is not read", c.text)
		}
		wantBoxes(t, list, c.loads, c.puts)
	}
}

func TestProgLoadsAndProgPutsOfWhatIsNotOk(t *testing.T) {
	wantBoxes(t, []impl.Ins{{Kind: impl.ProgLoad, A: 9, B: 2, N: 7}, {Kind: impl.ProgPut, A: 1, B: -9, N: 7}}, []int{2}, []int{1})
	wantBoxes(t, []impl.Ins{{Kind: 0, A: 1, B: 2}, {Kind: 8, A: 1, B: 2}, {Kind: -1, A: 1, B: 2}}, nil, nil)
	var long []impl.Ins
	for place := range 100 {
		long = append(long, impl.Ins{Kind: impl.ProgLoad, B: 3 - place%4}, impl.Ins{Kind: impl.ProgPut, A: 3 - place%3})
	}
	wantBoxes(t, long, []int{0, 1, 2, 3}, []int{1, 2, 3})
	// There are BoxAll boxes; other numbers name none.
	for _, none := range []int{math.MinInt, -1, impl.BoxAll, 64, math.MaxInt} {
		list := []impl.Ins{{Kind: impl.ProgLoad, B: none}, {Kind: impl.ProgPut, A: none}}
		wantBoxes(t, list, nil, nil)
		list = append(list, impl.Ins{Kind: impl.ProgPut, A: 3}, impl.Ins{Kind: impl.ProgLoad, B: 0})
		wantBoxes(t, list, []int{0}, []int{3})
	}
}

func wantBoxes(t *testing.T, list []impl.Ins, loads []int, puts []int) {
	t.Helper()
	if got := impl.ProgLoads(list); !slices.Equal(got, loads) {
		t.Errorf("of %v ProgLoads is %v, not %v", list, got, loads)
	}
	if got := impl.ProgPuts(list); !slices.Equal(got, puts) {
		t.Errorf("of %v ProgPuts is %v, not %v", list, got, puts)
	}
}

// overwrite writes over an answer and its spare room, as its owner may.
func overwrite[T any](list []T, with T) {
	list = list[:cap(list)]
	for place := range list {
		list[place] = with
	}
}

func TestProgAnswersAreNewMemory(t *testing.T) {
	for size := 1; size <= impl.ProgMax; size++ {
		text := strings.TrimSuffix(strings.Repeat("num 1 2,", size), ",")
		first, _ := impl.ProgRead(text)
		second, _ := impl.ProgRead(text)
		overwrite(first, impl.Ins{Kind: 77, A: 77, B: 77, N: 77})
		third, _ := impl.ProgRead(text)
		if impl.ProgText(second) != text || impl.ProgText(third) != text {
			t.Errorf("what is written into one answer of ProgRead of %q shows in another", text)
		}
	}
	list, _ := impl.ProgRead("load 0 2,load 0 1,load 0 0,put 3 0,put 1 0,put 0 0")
	loads, puts := impl.ProgLoads(list), impl.ProgPuts(list)
	overwrite(impl.ProgLoads(list), 77)
	overwrite(impl.ProgPuts(list), 77)
	if !slices.Equal(loads, []int{0, 1, 2}) || !slices.Equal(puts, []int{0, 1, 3}) {
		t.Errorf("what is written into one answer shows in another: %v, %v", loads, puts)
	}
	wantBoxes(t, list, loads, puts)
}

func TestProgArgumentsAreNotWritten(t *testing.T) {
	whole := append(badIns(), edgeIns()...)
	was := slices.Clone(whole)
	for size := range len(whole) + 1 {
		for _, part := range [][]impl.Ins{whole[:size], whole[size:], whole[size:min(size+impl.ProgMax, len(whole))]} {
			impl.ProgOk(part)
			impl.ProgSame(part, whole[len(whole)-len(part):])
			impl.ProgText(part)
			impl.ProgLoads(part)
			impl.ProgPuts(part)
		}
		if !slices.Equal(whole, was) {
			t.Fatalf("at %d the argument is %v", size, whole)
		}
	}
}

// A program does not hang on the memory that it stands in, nor on what is behind its end.
func TestProgAnswersHangOnTheListAlone(t *testing.T) {
	list, _ := impl.ProgRead("load 0 1,put 2 0")
	room := append(slices.Clone(list), impl.Ins{Kind: impl.ProgLoad, B: 3}, impl.Ins{Kind: 77}, impl.Ins{Kind: impl.ProgPut, A: 3})
	part := room[:len(list)]
	if !impl.ProgOk(part) || !impl.ProgSame(part, list) || impl.ProgText(part) != "load 0 1,put 2 0" {
		t.Error(strconv.Quote(impl.ProgText(part)))
	}
	wantBoxes(t, part, []int{1}, []int{2})
}
