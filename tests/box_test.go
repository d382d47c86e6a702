package tests

import (
	"math"
	"slices"
	"strings"
	"testing"

	"loop.example/thingstead/impl"
)

// zerosBut is boxes with the given one at a place, so that each case stands alone.
func zerosBut(place int, box impl.Box) []impl.Box {
	list := make([]impl.Box, impl.BoxAll)
	list[place] = box
	return list
}

func edgeBoxes() []impl.Box {
	var out []impl.Box
	for _, ver := range []int{0, 1, 9, 10, 100, impl.BoxMax - 1, impl.BoxMax} {
		for _, val := range []int{-impl.BoxMax, 1 - impl.BoxMax, -10, -1, 0, 1, 10, impl.BoxMax - 1, impl.BoxMax} {
			out = append(out, impl.Box{Ver: ver, Val: val})
		}
	}
	return out
}

func badBoxes() []impl.Box {
	return []impl.Box{
		{Ver: -1}, {Ver: impl.BoxMax + 1}, {Val: -impl.BoxMax - 1}, {Val: impl.BoxMax + 1},
		{Ver: math.MinInt}, {Ver: math.MaxInt}, {Val: math.MinInt}, {Val: math.MaxInt},
	}
}

func wantReadBack(t *testing.T, list []impl.Box) {
	t.Helper()
	text := impl.BoxText(list)
	got, ok := impl.BoxRead(text)
	if !impl.BoxOk(list) || !ok || !slices.Equal(got, list) {
		t.Errorf("%v, ok %v, written as %q, is read as %v, %v", list, impl.BoxOk(list), text, got, ok)
	}
}

func wantNotRead(t *testing.T, text string) {
	t.Helper()
	if got, ok := impl.BoxRead(text); ok || len(got) != 0 {
		t.Errorf("%q is read as %v, %v", text, got, ok)
	}
}

// Promise 1.
func TestBoxesAreReadAsTheyWere(t *testing.T) {
	wantReadBack(t, impl.BoxOpen())
	edges := edgeBoxes()
	for place := range impl.BoxAll {
		for _, box := range edges {
			wantReadBack(t, zerosBut(place, box))
		}
	}
	seed := uint32(1)
	next := func() impl.Box {
		seed = seed*1664525 + 1013904223
		return edges[int(seed>>8)%len(edges)]
	}
	for range 5000 {
		wantReadBack(t, []impl.Box{next(), next(), next(), next()})
	}
}

func TestBoxOpenIsNothing(t *testing.T) {
	if got := impl.BoxOpen(); !slices.Equal(got, []impl.Box{{}, {}, {}, {}}) || !impl.BoxOk(got) {
		t.Error(got)
	}
}

func TestBoxOkAtItsEdges(t *testing.T) {
	for place := range impl.BoxAll {
		for _, box := range edgeBoxes() {
			if !impl.BoxOk(zerosBut(place, box)) {
				t.Errorf("%v at %d is not ok", box, place)
			}
		}
		for _, box := range badBoxes() {
			if impl.BoxOk(zerosBut(place, box)) {
				t.Errorf("%v at %d is ok", box, place)
			}
		}
	}
	for size := range 3 * impl.BoxAll {
		if got := impl.BoxOk(make([]impl.Box, size)); got != (size == impl.BoxAll) {
			t.Errorf("%d boxes: %v", size, got)
		}
	}
	if impl.BoxOk(nil) {
		t.Error("no boxes are ok")
	}
}

func TestBoxSame(t *testing.T) {
	if !impl.BoxSame(nil, []impl.Box{}) || !impl.BoxSame([]impl.Box{}, nil) || !impl.BoxSame(nil, nil) {
		t.Error("the nil list and the empty list differ")
	}
	for size := range 3 * impl.BoxAll {
		list := make([]impl.Box, size)
		for place := range list {
			list[place] = impl.Box{Ver: place, Val: -place}
		}
		if !impl.BoxSame(list, slices.Clone(list)) {
			t.Errorf("%v differs from itself", list)
		}
		wantDiffer(t, list, append(slices.Clone(list), impl.Box{}))
		for place := range list {
			other := slices.Clone(list)
			other[place].Ver++
			wantDiffer(t, list, other)
			other = slices.Clone(list)
			other[place].Val++
			wantDiffer(t, list, other)
		}
	}
	one, two := impl.Box{Ver: 1, Val: 2}, impl.Box{Ver: 2, Val: 1}
	wantDiffer(t, []impl.Box{one, two, {}, {}}, []impl.Box{two, one, {}, {}})
	wantDiffer(t, nil, make([]impl.Box, impl.BoxAll))
	for _, box := range badBoxes() {
		if !impl.BoxSame(zerosBut(3, box), zerosBut(3, box)) {
			t.Errorf("%v differs from itself", box)
		}
	}
}

func wantDiffer(t *testing.T, a []impl.Box, b []impl.Box) {
	t.Helper()
	if impl.BoxSame(a, b) || impl.BoxSame(b, a) {
		t.Errorf("%v and %v are the same", a, b)
	}
}

func TestBoxText(t *testing.T) {
	for _, c := range []struct {
		list []impl.Box
		want string
	}{
		{nil, ""},
		{[]impl.Box{}, ""},
		{impl.BoxOpen(), "0/0 0/0 0/0 0/0"},
		{[]impl.Box{{Ver: 1, Val: 2}, {Ver: 30, Val: -40}, {Ver: impl.BoxMax, Val: -impl.BoxMax}, {Val: impl.BoxMax}}, "2/1 -40/30 -1000000/1000000 1000000/0"},
		{[]impl.Box{{Ver: -1, Val: 7}}, "7/-1"},
		{make([]impl.Box, 5), "0/0 0/0 0/0 0/0 0/0"},
		{[]impl.Box{{Ver: math.MaxInt64, Val: math.MinInt64}}, "-9223372036854775808/9223372036854775807"},
	} {
		if got := impl.BoxText(c.list); got != c.want {
			t.Errorf("%v is written as %q, not %q", c.list, got, c.want)
		}
	}
}

func TestBoxReadRefusesWhatIsNotOk(t *testing.T) {
	for place := range impl.BoxAll {
		for _, box := range badBoxes() {
			wantNotRead(t, impl.BoxText(zerosBut(place, box)))
		}
	}
	for size := range 3 * impl.BoxAll {
		if size != impl.BoxAll {
			wantNotRead(t, impl.BoxText(make([]impl.Box, size)))
		}
	}
}

// Each wrong word stands at each place once, with right ones beside it.
func TestBoxReadRefusesWrongWords(t *testing.T) {
	words := []string{
		"", "0", "/", "0/", "/0", "-/0", "0/-", "0//0", "0/0/", "/0/0", "0/0/0",
		"00/0", "0/00", "01/0", "0/01", "-01/0", "-0/0", "0/-0", "--1/0", "0/--1", "1-/0",
		"+0/0", "0/+0", "+1/0", "0/+1", "-+1/0", "0/-1", "0/-1000000",
		"1000001/0", "-1000001/0", "0/1000001", "10000000/0", "4294967296/0", "0/4294967296",
		"9223372036854775808/0", "-9223372036854775809/0", "18446744073709551616/0", "0/18446744073709551616",
		"a/0", "0/a", "0x1/0", "1_0/0", "1e3/0", "1.0/0", "1,0/0", "0\\0", "0:0",
		"\x000/0", "0/0\x00", "\xff/0", "0/\xff", "\u0660/0", "\u22121/0", "0\u20440", "\uff10/0", "\t0/0", "0/0\n", "0/0\r", "0\u00a0/0", "0/0,",
		"0 /0", "0/ 0", "- 1/0",
	}
	for _, word := range words {
		for place := range impl.BoxAll {
			all := []string{"1/1", "1/1", "1/1", "1/1"}
			all[place] = word
			wantNotRead(t, strings.Join(all, " "))
		}
	}
}

func TestBoxReadRefusesWrongSpaces(t *testing.T) {
	for _, text := range []string{
		"", " ", "   ", "    ", "/", "0/0",
		" 0/0 0/0 0/0 0/0", "0/0 0/0 0/0 0/0 ", "  0/0 0/0 0/0 0/0", "0/0 0/0 0/0 0/0  ", " 0/0 0/0 0/0 0/0 ",
		"0/0  0/0 0/0 0/0", "0/0 0/0  0/0 0/0", "0/0 0/0 0/0  0/0", "0/0  0/0 0/0", " 0/0 0/0 0/0", "0/0 0/0 0/0 ",
		"0/00/0 0/0 0/0", "0/0\t0/0 0/0 0/0", "0/0\n0/0\n0/0\n0/0", "0/0 0/0 0/0 0/0\n", "\n0/0 0/0 0/0 0/0",
		"0/0,0/0,0/0,0/0", "0/0\u00a00/0 0/0 0/0", "0/0 0/0 0/0 0/0 x",
	} {
		wantNotRead(t, text)
	}
}

// The longest text of boxes that are ok has 67 bytes, so texts of 100 bytes and of more are all refused.
func TestBoxReadAtTheSizeOfTexts(t *testing.T) {
	longest := "-1000000/1000000 -1000000/1000000 -1000000/1000000 -1000000/1000000"
	if got, ok := impl.BoxRead(longest); !ok || impl.BoxText(got) != longest {
		t.Errorf("%v, %v", got, ok)
	}
	for size := len(longest) + 1; size <= 130; size++ {
		gap := strings.Repeat(" ", size-len(longest))
		pad := strings.Repeat("0", size-len(longest))
		wantNotRead(t, longest+gap)
		wantNotRead(t, gap+longest)
		wantNotRead(t, longest+pad)
		wantNotRead(t, "-"+pad+longest[1:])
	}
	wantNotRead(t, strings.Repeat("0/0 ", 24)+"0/00")
	wantNotRead(t, strings.Repeat("0/0 ", 25)+"0")
	wantNotRead(t, strings.Repeat("0/0 ", 1<<18)+"0/0")
	wantNotRead(t, strings.Repeat("1", 1<<20))
}

// Whatever one byte is changed, put in or left out: what is read is ok and has just that text.
func TestBoxReadBesideRightTexts(t *testing.T) {
	bytes := "0123456789/ -+\x00\t\nx\xff"
	for _, text := range []string{"0/0 0/0 0/0 0/0", "1000000/1000000 -1000000/0 -1/1 10/9", "5/7 -70/1 0/12 999999/3"} {
		for at := range len(text) + 1 {
			for i := range len(bytes) {
				one := bytes[i : i+1]
				wantOwnText(t, text[:at]+one+text[at:])
				if at < len(text) {
					wantOwnText(t, text[:at]+one+text[at+1:])
				}
			}
			wantOwnText(t, text[:at])
			wantOwnText(t, text[at:])
			if at < len(text) {
				wantOwnText(t, text[:at]+text[at+1:])
			}
		}
	}
}

func wantOwnText(t *testing.T, text string) {
	t.Helper()
	got, ok := impl.BoxRead(text)
	if ok && (!impl.BoxOk(got) || impl.BoxText(got) != text) {
		t.Errorf("%q is read as %v", text, got)
	}
	if !ok && len(got) != 0 {
		t.Errorf("%q is refused with %v", text, got)
	}
}

// fill writes over an answer and its spare room, as its owner may.
func fill(list []impl.Box) {
	list = list[:cap(list)]
	for place := range list {
		list[place] = impl.Box{Ver: 77, Val: 77}
	}
}

func TestBoxAnswersAreNewMemory(t *testing.T) {
	first, second := impl.BoxOpen(), impl.BoxOpen()
	fill(first)
	if !impl.BoxSame(second, make([]impl.Box, impl.BoxAll)) || !impl.BoxSame(impl.BoxOpen(), second) {
		t.Error("what is written into one answer of BoxOpen shows in another")
	}
	text := "1/2 3/4 5/6 7/8"
	first, _ = impl.BoxRead(text)
	second, _ = impl.BoxRead(text)
	fill(first)
	third, _ := impl.BoxRead(text)
	if impl.BoxText(second) != text || impl.BoxText(third) != text || text != "1/2 3/4 5/6 7/8" {
		t.Error("what is written into one answer of BoxRead shows in another")
	}
}

func TestBoxArgumentsAreNotWritten(t *testing.T) {
	whole := make([]impl.Box, 3*impl.BoxAll)
	for place := range whole {
		whole[place] = impl.Box{Ver: place, Val: -place}
	}
	was := slices.Clone(whole)
	for size := range len(whole) + 1 {
		part := whole[:size]
		impl.BoxOk(part)
		impl.BoxSame(part, part)
		impl.BoxSame(part, whole[len(whole)-size:])
		impl.BoxText(part)
		if !slices.Equal(whole, was) {
			t.Fatalf("with %d boxes the argument is %v", size, whole)
		}
	}
}
