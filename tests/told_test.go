package tests

import (
	"slices"
	"testing"

	"loop.example/thingstead/impl"
)

// askedFirst is another ToldProg.
func askedFirst(w impl.World, q impl.Req) ([]impl.Ins, bool) {
	var prog []impl.Ins
	found := false
	for place := len(w.Asked) - 1; place >= 0; place-- {
		if w.Asked[place].Req == q {
			prog, found = w.Asked[place].Prog, true
		}
	}
	return prog, found
}

// doneOf is another ToldDone, by the other CertApply.
func doneOf(list []impl.Entry) []impl.Req {
	if len(list) > 40 || !all(list, impl.CertEntry) {
		return nil
	}
	var done []impl.Req
	state := impl.CertOpen()
	for _, e := range list {
		after, code := applied(state, e)
		if code == 0 {
			done = append(done, e.Req)
		}
		state = after
	}
	return done
}

// longest is another WorldLog, of worlds that are ok.
func longest(w impl.World) []impl.Entry {
	most := w.Nodes[2].Known
	for _, id := range []int{1, 0} {
		if len(w.Nodes[id].Known) >= len(most) {
			most = w.Nodes[id].Known
		}
	}
	return most
}

// eachAlone is another ToldAlone: what was done goes on by the other CertApply, and beside it the programs by the second runner.
func eachAlone(w impl.World) bool {
	if !worldFits(w) {
		return false
	}
	list := longest(w)
	boxes, state := impl.BoxOpen(), impl.CertOpen()
	for _, e := range list {
		after, code := applied(state, e)
		if code == 0 {
			prog, asked := askedFirst(w, e.Req)
			if !asked {
				return false
			}
			behind, val, _ := alone(boxes, prog)
			if _, says := firstEnd(list, e.Req); says != val {
				return false
			}
			boxes = behind
		}
		state = after
	}
	return slices.Equal(boxes, state.Boxes)
}

// allTrue is another ToldTrue.
func allTrue(w impl.World) bool {
	return worldFits(w) && all(w.Told, func(told impl.Told) bool {
		code, val := firstEnd(longest(w), told.Req)
		return told.Code == code && told.Val == val
	})
}

// allOnce is another ToldOnce: each two answers are held against each other.
func allOnce(w impl.World) bool {
	for place, told := range w.Told {
		for _, other := range w.Told[place+1:] {
			if told.Req == other.Req {
				return false
			}
		}
	}
	return worldFits(w)
}

// answered is what ToldAlone, ToldTrue and ToldOnce say of a world.
type answered struct {
	alone bool
	true  bool
	once  bool
}

var allSo = answered{true, true, true}

func answersOf(w impl.World) answered {
	return answered{impl.ToldAlone(w), impl.ToldTrue(w), impl.ToldOnce(w)}
}

// wantTold wants of a world what is said, by the program and by the models, and that nothing is written into it.
func wantTold(t *testing.T, w impl.World, want answered) {
	t.Helper()
	roomy := roomyCopy(w)
	given := []any{&roomy}
	was := wholeOf(given)
	got := answersOf(roomy)
	if !sameWhole(wholeOf(given), was) {
		t.Errorf("%v is written into", w)
	}
	if by := (answered{eachAlone(w), allTrue(w), allOnce(w)}); got != want || by != want {
		t.Errorf("of %v they say %v, and the models %v, not %v", w, got, by, want)
	}
}

// wantToldAs wants of any world what the models say, and is that.
func wantToldAs(t *testing.T, w impl.World) answered {
	t.Helper()
	got, want := answersOf(w), answered{eachAlone(w), allTrue(w), allOnce(w)}
	if got != want {
		t.Errorf("of %v they say %v, not %v", w, got, want)
	}
	return got
}

// wantToldProg wants of a world what ToldProg says of a request, in memory of its own.
func wantToldProg(t *testing.T, w impl.World, q impl.Req, want []impl.Ins, ok bool) {
	t.Helper()
	roomy := roomyCopy(w)
	given := []any{&roomy}
	was := wholeOf(given)
	first, found := impl.ToldProg(roomy, q)
	second, again := impl.ToldProg(roomy, q)
	if !sameWhole(wholeOf(given), was) {
		t.Errorf("%v is written into", w)
	}
	wantApart(t, []any{&first, &second}, given)
	if !slices.Equal(first, want) || !slices.Equal(second, want) || found != ok || again != ok {
		t.Errorf("of %v in %v the program is %v, %v, not %v, %v", q, w.Asked, first, found, want, ok)
	}
}

// wantToldDone wants of a list what was done, in memory of its own.
func wantToldDone(t *testing.T, list []impl.Entry, want ...impl.Req) {
	t.Helper()
	roomy := roomyCopy(list)
	given := []any{&roomy}
	was := wholeOf(given)
	first, second := impl.ToldDone(roomy), impl.ToldDone(roomy)
	if !sameWhole(wholeOf(given), was) {
		t.Errorf("%v is written into", list)
	}
	wantApart(t, []any{&first, &second}, given)
	if !slices.Equal(first, want) || !slices.Equal(second, want) || !slices.Equal(doneOf(list), want) {
		t.Errorf("of %v was done %v, and by the model %v, not %v", list, first, doneOf(list), want)
	}
}

// worldsAsTheyGo is worlds, each behind so many events of all kinds, and wants of each, behind each event, what promise 10 says.
func worldsAsTheyGo(t *testing.T, seeds int, steps int) []impl.World {
	t.Helper()
	var out []impl.World
	for seed := range seeds {
		d := befalling{making: making{draws: draws(seed + 10000)}, w: impl.WorldOpen()}
		taken := []int{60, 80, 88, 92}[seed%4]
		for range steps {
			e := d.event(t, taken)
			d.w = impl.WorldDo(d.w, e)
			if got := wantToldAs(t, d.w); got != allSo {
				t.Fatalf("behind %v they say %v of\n%v", e, got, d.w)
			}
		}
		out = append(out, d.w)
	}
	return out
}

// Promise 10.
func TestEachAsIfAlone(t *testing.T) {
	var got reached
	leaders, lost := map[int]int{}, 0
	for _, w := range worldsAsTheyGo(t, 60, 600) {
		got.count(w)
		for _, e := range impl.WorldLog(w) {
			if !e.None && !slices.ContainsFunc(w.Told, func(told impl.Told) bool { return told.Req == e.Req }) {
				lost++
			}
		}
		for _, n := range w.Nodes {
			for _, vote := range n.Acc.Votes {
				leaders[impl.AccOwner(vote.Bal)]++
			}
		}
	}
	if got.known < 300 || got.asked < 600 || got.codes[impl.CertDone] < 150 || got.codes[impl.CertStale] < 20 || got.codes[impl.CertFailed] < 20 || lost < 5 {
		t.Errorf("of all worlds %+v, and %d entries came to their end without an answer", got, lost)
	}
	for id := range 3 {
		if leaders[id] < 50 {
			t.Errorf("for entries of ballots of node %d were %d votes", id, leaders[id])
		}
	}
}

// bending turns something in one place of a world.
type bending struct {
	name string
	bend func(w *impl.World, place int)
	of   func(w impl.World) int // in how many places it can
}

func placesTold(w impl.World) int  { return len(w.Told) }
func placesAsked(w impl.World) int { return len(w.Asked) }
func placesKnown(w impl.World) int { return len(longest(w)) }

// knowAll lets all nodes know a list, and have nothing of leading.
func knowAll(w *impl.World, list []impl.Entry) {
	for id, n := range w.Nodes {
		w.Nodes[id] = impl.Node{Id: id, Acc: n.Acc, Known: cloneEntries(list), Seq: n.Seq}
	}
}

// otherProg is a program that says what no other one here says, and puts nothing.
func otherProg(t *testing.T) []impl.Ins {
	return progOf(t, "num 0 77,add 0 0")
}

func bendings(t *testing.T) []bending {
	return []bending{
		{"another Val", func(w *impl.World, place int) { w.Told[place].Val += 3 }, placesTold},
		{"another Code", func(w *impl.World, place int) { w.Told[place].Code = (w.Told[place].Code + 1) % 5 }, placesTold},
		{"two answers", func(w *impl.World, place int) { w.Told = append(w.Told, w.Told[place]) }, placesTold},
		{"two answers of which one is other", func(w *impl.World, place int) {
			w.Told = slices.Insert(w.Told, 0, w.Told[place])
			w.Told[0].Code, w.Told[0].Val = 4, 0
		}, placesTold},
		{"no request", func(w *impl.World, place int) { w.Told[place].Req.Seq = 900 }, placesTold},
		{"an answer less", func(w *impl.World, place int) { w.Told = slices.Delete(w.Told, place, place+1) }, placesTold},
		{"another program", func(w *impl.World, place int) { w.Asked[place].Prog = otherProg(t) }, placesAsked},
		{"another program ahead", func(w *impl.World, place int) {
			w.Asked = slices.Insert(w.Asked, place, impl.Asked{Req: w.Asked[place].Req, Prog: otherProg(t)})
		}, placesAsked},
		{"another program behind", func(w *impl.World, place int) {
			w.Asked = append(w.Asked, impl.Asked{Req: w.Asked[place].Req, Prog: otherProg(t)})
		}, placesAsked},
		{"a request less", func(w *impl.World, place int) { w.Asked = slices.Delete(w.Asked, place, place+1) }, placesAsked},
		{"an entry less", func(w *impl.World, place int) { knowAll(w, slices.Delete(cloneEntries(longest(*w)), place, place+1)) }, placesKnown},
		{"none in its place", func(w *impl.World, place int) {
			list := cloneEntries(longest(*w))
			list[place] = noneEntry()
			knowAll(w, list)
		}, placesKnown},
		{"another Val of a run", func(w *impl.World, place int) {
			list := cloneEntries(longest(*w))
			list[place].Run.Val++
			knowAll(w, list)
		}, placesKnown},
		{"other Puts of a run", func(w *impl.World, place int) {
			list := cloneEntries(longest(*w))
			for at := range list[place].Run.Puts {
				list[place].Run.Puts[at].Val--
			}
			knowAll(w, list)
		}, placesKnown},
	}
}

// wantBent is what is said of a world that is bent, of what was so ahead of that; ok says whether that can be said without a model.
func wantBent(w impl.World, name string, place int) (answered, bool) {
	done := doneOf(longest(w))
	isDone := func(req impl.Req) bool { return slices.Contains(done, req) }
	isTold := func(req impl.Req) bool {
		return slices.ContainsFunc(w.Told, func(told impl.Told) bool { return told.Req == req })
	}
	switch name {
	case "another Val", "another Code", "no request":
		return answered{true, false, true}, true
	case "two answers":
		return answered{true, true, false}, true
	case "two answers of which one is other":
		return answered{true, false, false}, true
	case "an answer less", "another program behind":
		return allSo, true
	case "another program", "another program ahead", "a request less":
		return answered{!isDone(w.Asked[place].Req), true, true}, true
	case "another Val of a run":
		e := longest(w)[place]
		first := slices.IndexFunc(longest(w), func(one impl.Entry) bool { return one.Req == e.Req })
		return answered{!isDone(e.Req), !isDone(e.Req) || !isTold(e.Req), true}, first == place && e.Run.Code == 0 && !e.None
	}
	return answered{}, false
}

// Promise 10: what is bent in one place is not so.
func TestWhatIsBentIsNotSo(t *testing.T) {
	worlds := worldsAsTheyGo(t, 24, 400)
	for _, b := range bendings(t) {
		said := map[answered]int{}
		for _, w := range worlds {
			if len(w.Told) > 58 || len(w.Asked) > 58 {
				continue
			}
			for place := range b.of(w) {
				bent := withWorld(w, func(w *impl.World) { b.bend(w, place) })
				if !worldFits(bent) {
					continue
				}
				got := wantToldAs(t, bent)
				if want, ok := wantBent(w, b.name, place); ok && got != want {
					t.Errorf("%s at %d of %v: they say %v, not %v", b.name, place, w, got, want)
				}
				said[got]++
			}
		}
		for _, want := range map[string][]answered{
			"another Val":                       {{true, false, true}},
			"another Code":                      {{true, false, true}},
			"two answers":                       {{true, true, false}},
			"two answers of which one is other": {{true, false, false}},
			"no request":                        {{true, false, true}},
			"an answer less":                    {allSo},
			"another program":                   {allSo, {false, true, true}},
			"another program ahead":             {allSo, {false, true, true}},
			"another program behind":            {allSo},
			"a request less":                    {allSo, {false, true, true}},
			"an entry less":                     {allSo, {true, false, true}},
			"none in its place":                 {allSo, {true, false, true}},
			"another Val of a run":              {allSo, {false, false, true}},
			"other Puts of a run":               {allSo, {false, true, true}},
		}[b.name] {
			if said[want] < 3 {
				t.Errorf("of what is bent by %s they say %v", b.name, said)
			}
		}
	}
}

// Worlds as no run comes to them are told of as the document's words go, too.
func TestToldOfAnyWorld(t *testing.T) {
	d := making{draws: 1010}
	said := map[answered]int{}
	for range 1500 {
		w := d.worldAsItComes()
		said[wantToldAs(t, w)]++
		list := longest(w)
		w.Told = nil
		for place := range d.below(4) {
			if place < len(list) && !list[place].None {
				code, val := firstEnd(list, list[place].Req)
				w.Told = append(w.Told, impl.Told{Node: list[place].Req.Who, Req: list[place].Req, Code: code, Val: val})
			}
		}
		said[wantToldAs(t, w)]++
		for range d.below(2) {
			w.Told = append(w.Told, impl.Told{Node: 1, Req: impl.Req{Who: 1, Seq: 1 + d.below(5)}, Code: d.below(5), Val: d.below(2) * d.below(9)})
		}
		for _, q := range []impl.Req{d.request().Req, d.request().Req, {}} {
			prog, ok := askedFirst(w, q)
			if got, found := impl.ToldProg(w, q); !slices.Equal(got, prog) || found != ok {
				t.Errorf("of %v in %v the program is %v, %v", q, w.Asked, got, found)
			}
		}
		if got := impl.ToldDone(list); !slices.Equal(got, doneOf(list)) {
			t.Errorf("of %v was done %v, not %v", list, got, doneOf(list))
		}
		said[wantToldAs(t, w)]++
		w.Nodes[d.below(3)].Id++
		wantTold(t, w, answered{})
	}
	for _, alone := range []bool{false, true} {
		for _, isTrue := range []bool{false, true} {
			for _, once := range []bool{false, true} {
				if said[answered{alone, isTrue, once}] < 10 {
					t.Errorf("they say %v", said)
				}
			}
		}
	}
}

func TestToldProg(t *testing.T) {
	q, other := impl.Req{Who: 2, Seq: 1}, impl.Req{Who: 2, Seq: 2}
	prog, second := progOf(t, wantProg), progOf(t, "num 0 7,put 0 0")
	for _, from := range []impl.World{impl.WorldOpen(), someWorld(t), {}} {
		asked := func(list ...impl.Asked) impl.World {
			return withWorld(from, func(w *impl.World) { w.Asked = list })
		}
		wantToldProg(t, asked(), q, nil, false)
		wantToldProg(t, asked(), impl.Req{}, nil, false)
		w := asked(impl.Asked{Req: q, Prog: prog}, impl.Asked{Req: other, Prog: second})
		wantToldProg(t, w, q, prog, true)
		wantToldProg(t, w, other, second, true)
		for _, none := range []impl.Req{{}, {Who: 2, Seq: 3}, {Who: 1, Seq: 1}, {Who: 1, Seq: 2}, {Who: 2}} {
			wantToldProg(t, w, none, nil, false)
		}
		for _, none := range wrongReqs() {
			wantToldProg(t, w, none, nil, false)
		}
		// Twice, with two programs: the first of them.
		wantToldProg(t, asked(impl.Asked{Req: q, Prog: prog}, impl.Asked{Req: q, Prog: second}), q, prog, true)
		wantToldProg(t, asked(impl.Asked{Req: q, Prog: second}, impl.Asked{Req: other, Prog: prog}, impl.Asked{Req: q, Prog: prog}), q, second, true)
		// No instructions are a program, too, also ahead of another one.
		for _, empty := range [][]impl.Ins{nil, {}} {
			wantToldProg(t, asked(impl.Asked{Req: q, Prog: empty}), q, nil, true)
			wantToldProg(t, asked(impl.Asked{Req: q, Prog: empty}, impl.Asked{Req: q, Prog: prog}), q, nil, true)
			wantToldProg(t, asked(impl.Asked{Req: q, Prog: empty}), other, nil, false)
		}
	}
}

// By the document's words it is of any world.
func TestToldProgOfWorldsThatAreNotOk(t *testing.T) {
	prog := progOf(t, wantProg)
	for _, w := range append(badWorlds(t), fullWorld(t)) {
		for _, asked := range w.Asked {
			want, _ := askedFirst(w, asked.Req)
			wantToldProg(t, w, asked.Req, want, true)
		}
		wantToldProg(t, w, impl.Req{Who: 2, Seq: 987}, nil, false)
		w.Asked = append(slices.Clone(w.Asked), impl.Asked{Req: impl.Req{Who: 2, Seq: 987}, Prog: prog})
		wantToldProg(t, w, impl.Req{Who: 2, Seq: 987}, prog, true)
	}
	for _, req := range wrongReqs() {
		wantToldProg(t, impl.World{Asked: []impl.Asked{{Req: req, Prog: prog}}}, req, prog, true)
	}
	for _, bad := range badProgs() {
		wantToldProg(t, impl.World{Asked: []impl.Asked{{Req: impl.Req{Seq: 1}, Prog: bad}, {Req: impl.Req{Seq: 1}, Prog: prog}}}, impl.Req{Seq: 1}, bad, true)
	}
}

// What is written into an answer, or into an argument behind that, shows in no other answer.
func TestToldAnswersAreNewMemory(t *testing.T) {
	w := someWorld(t)
	q, want := w.Asked[2].Req, slices.Clone(w.Asked[2].Prog)
	first, _ := impl.ToldProg(w, q)
	second, _ := impl.ToldProg(w, q)
	fillProg(first)
	if got, _ := impl.ToldProg(w, q); !slices.Equal(got, want) || !slices.Equal(second, want) {
		t.Errorf("it is %v, and was %v", got, second)
	}
	fillProg(w.Asked[2].Prog)
	if !slices.Equal(second, want) {
		t.Errorf("it is %v", second)
	}
	list := countUp(4)
	reqs := doneOf(list)
	one, other := impl.ToldDone(list), impl.ToldDone(list)
	overwrite(one, impl.Req{Who: 2, Seq: 9})
	overwrite(list, noneEntry())
	if !slices.Equal(other, reqs) || len(impl.ToldDone(list)) > 0 || !slices.Equal(impl.ToldDone(countUp(4)), reqs) {
		t.Errorf("it is %v", other)
	}
}

// saw is a run that looked into a box as it was with a Ver, and puts and says a number.
func saw(box int, ver int, val int) impl.Run {
	return impl.Run{Reads: []impl.Read{{Box: box, Ver: ver}}, Puts: []impl.Put{{Box: box, Val: val}}, Val: val}
}

func TestToldDone(t *testing.T) {
	wantToldDone(t, nil)
	wantToldDone(t, []impl.Entry{})
	wantToldDone(t, []impl.Entry{noneEntry()})
	failed := impl.Run{Reads: []impl.Read{{Box: 3}}, Code: impl.ExecFails}
	great := impl.Run{Code: impl.ExecGreat}
	wantToldDone(t, []impl.Entry{entryWith(0, 4, failed), entryWith(1, 4, great)})
	wantToldDone(t, []impl.Entry{entryWith(2, 1000, saw(0, 0, 7))}, impl.Req{Who: 2, Seq: 1000})
	// Each Code: done, none, failed, stale, again, old, and done once more.
	list := []impl.Entry{
		entryWith(0, 4, saw(1, 0, 5)), noneEntry(), entryWith(1, 1, failed), entryWith(2, 9, saw(1, 0, 6)), entryWith(0, 4, saw(1, 1, 8)), entryWith(0, 3, saw(1, 1, 8)), entryWith(0, 5, saw(1, 1, 9)),
	}
	state := impl.CertOpen()
	for place, want := range []int{impl.CertDone, impl.CertNone, impl.CertFailed, impl.CertStale, impl.CertAgain, impl.CertOld, impl.CertDone} {
		after, code := impl.CertApply(state, list[place])
		if code != want {
			t.Errorf("at %d it ended with %d", place, code)
		}
		state = after
	}
	wantToldDone(t, list, impl.Req{Seq: 4}, impl.Req{Seq: 5})
	// In the order of the list, not of nodes or numbers.
	wantToldDone(t, []impl.Entry{entryWith(2, 7, blindRun()), entryWith(0, 9, blindRun()), entryWith(1, 2, blindRun()), entryWith(2, 8, blindRun())}, impl.Req{Who: 2, Seq: 7}, impl.Req{Seq: 9}, impl.Req{Who: 1, Seq: 2}, impl.Req{Who: 2, Seq: 8})
}

// Two that looked into one box: the second is stale, whoever it is of, and may be done with the next number.
func TestToldDoneOfTwoThatLookedIntoOneBox(t *testing.T) {
	for box := range 4 {
		for who := range 3 {
			first, second := entryWith(who, 2, saw(box, 0, 5)), entryWith((who+1)%3, 3, saw(box, 0, 5))
			wantToldDone(t, []impl.Entry{first, second}, first.Req)
			wantToldDone(t, []impl.Entry{second, first}, second.Req)
			again := entryWith((who+1)%3, 4, saw(box, 1, 10))
			wantToldDone(t, []impl.Entry{first, second, again}, first.Req, again.Req)
			// Into another box, or into none, or put into by none: both.
			other := entryWith((who+1)%3, 3, saw((box+1)%4, 0, 5))
			wantToldDone(t, []impl.Entry{first, other}, first.Req, other.Req)
			blind := entryWith((who+1)%3, 3, blindRun())
			wantToldDone(t, []impl.Entry{first, blind}, first.Req, blind.Req)
			looks := entryWith(who, 2, impl.Run{Reads: []impl.Read{{Box: box}}})
			wantToldDone(t, []impl.Entry{looks, second}, looks.Req, second.Req)
		}
	}
}

// A request that came to its end is done no more, whatever its run is then.
func TestToldDoneOfWhatComesAgain(t *testing.T) {
	done, stale, failed := entryWith(1, 5, saw(1, 0, 5)), entryWith(1, 5, saw(1, 3, 5)), entryWith(1, 5, impl.Run{Code: impl.ExecFails})
	for _, first := range []impl.Entry{done, stale, failed} {
		var want []impl.Req
		if first.Run.Code == impl.ExecFine && first.Run.Reads[0].Ver == 0 {
			want = []impl.Req{first.Req}
		}
		for _, second := range []impl.Entry{done, stale, failed, entryWith(1, 5, saw(1, 1, 6)), entryWith(1, 5, blindRun())} {
			wantToldDone(t, []impl.Entry{first, second}, want...)
			wantToldDone(t, []impl.Entry{first, noneEntry(), second, second}, want...)
			later := entryWith(1, 6, blindRun())
			wantToldDone(t, []impl.Entry{first, later, second}, append(slices.Clone(want), later.Req)...)
		}
	}
	// One that came behind a later one is not done, and not when it comes again either.
	wantToldDone(t, []impl.Entry{entryWith(1, 6, blindRun()), done, done}, impl.Req{Who: 1, Seq: 6})
}

func TestToldDoneOfEntriesThatAreNotRight(t *testing.T) {
	for _, bad := range badEntries() {
		wantToldDone(t, []impl.Entry{bad})
		for _, place := range []int{0, 1, 4, 5} {
			wantToldDone(t, slices.Insert(countUp(5), place, bad))
		}
		for _, place := range []int{0, 20, 39} {
			list := countUp(40)
			list[place] = bad
			wantToldDone(t, list)
		}
		wantToldDone(t, append(countUp(40), bad))
	}
}

func TestToldDoneOfAsManyAsMayBe(t *testing.T) {
	for _, size := range []int{1, 2, 39, 40} {
		want := doneOf(countUp(size))
		if len(want) != size {
			t.Errorf("%v was done", want)
		}
		wantToldDone(t, countUp(size), want...)
		wantToldDone(t, slices.Repeat([]impl.Entry{noneEntry()}, size))
	}
	for _, size := range []int{41, 42, 1000} {
		wantToldDone(t, countUp(size))
		wantToldDone(t, slices.Repeat([]impl.Entry{noneEntry()}, size))
		wantToldDone(t, append(countUp(1), slices.Repeat([]impl.Entry{noneEntry()}, size-1)...))
		wantToldDone(t, slices.Repeat(countUp(1), size))
	}
	// With one that is done at the last place of all, and behind that.
	last := append(slices.Repeat([]impl.Entry{noneEntry()}, 39), entryWith(0, 1, blindRun()))
	wantToldDone(t, last, impl.Req{Seq: 1})
	wantToldDone(t, append([]impl.Entry{noneEntry()}, last...))
}

// counts is a program that counts up by five in a box.
const counts = "load 0 1,num 1 5,add 0 1,put 1 0"

// toldOf is an answer to a request of a node.
func toldOf(who int, seq int, code int, val int) impl.Told {
	return impl.Told{Node: who, Req: impl.Req{Who: who, Seq: seq}, Code: code, Val: val}
}

// knowsAll is a world in which node 1 knows a list, node 0 all of it but the last entry, and node 2 nothing.
func knowsAll(list []impl.Entry, asked []impl.Asked, told ...impl.Told) impl.World {
	w := impl.WorldOpen()
	w.Nodes[0].Known, w.Nodes[1].Known = list[:max(0, len(list)-1)], list
	w.Asked, w.Told = asked, told
	return w
}

// threeAsk is a list of programs that nodes 0, 1 and 2 asked with number 1, two of them looking into one box, and what was asked.
func threeAsk(t *testing.T) ([]impl.Entry, []impl.Asked) {
	t.Helper()
	var list []impl.Entry
	var asked []impl.Asked
	for who, text := range []string{counts, counts, "num 0 7,put 0 0"} {
		prog := progOf(t, text)
		list = append(list, entryWith(who, 1, impl.ExecRun(impl.BoxOpen(), prog)))
		asked = append(asked, impl.Asked{Req: impl.Req{Who: who, Seq: 1}, Prog: prog})
	}
	return list, asked
}

func TestToldOfAWorldAsItIs(t *testing.T) {
	list, asked := threeAsk(t)
	w := knowsAll(list, asked, toldOf(1, 1, impl.CertStale, 0), toldOf(0, 1, impl.CertDone, 5), toldOf(2, 1, impl.CertDone, 7))
	wantTold(t, w, allSo)
	if boxes := impl.CertFold(list).Boxes; impl.BoxText(boxes) != "7/1 5/1 0/0 0/0" {
		t.Errorf("they leave %q", impl.BoxText(boxes))
	}
	wantToldDone(t, list, impl.Req{Seq: 1}, impl.Req{Who: 2, Seq: 1})
	// What was asked stands in any order: that of the list is what counts.
	slices.Reverse(w.Asked)
	wantTold(t, w, allSo)
	slices.Reverse(w.Told)
	wantTold(t, w, allSo)
	wantTold(t, impl.WorldOpen(), allSo)
	// What is on its way, and what nodes promised, is not asked.
	w.Net = []impl.Msg{someMsg(impl.MsgAccept), someMsg(impl.MsgChosen)}
	w.Nodes[2].Acc = impl.Acc{Promised: 9, Votes: votesIn(3, 4)}
	wantTold(t, w, allSo)
}

func TestToldOfWorldsThatAreNotOk(t *testing.T) {
	for _, w := range badWorlds(t) {
		wantTold(t, w, answered{})
		wantToldAs(t, withWorld(w, func(w *impl.World) { w.Told = nil }))
	}
	list, asked := threeAsk(t)
	w := knowsAll(list, asked, toldOf(0, 1, impl.CertDone, 5))
	wantTold(t, w, allSo)
	for _, change := range worldBreaks() {
		wantTold(t, withWorld(w, change), answered{})
		wantTold(t, withWorld(impl.WorldOpen(), change), answered{})
	}
	for _, bad := range badEntries() {
		wantTold(t, withWorld(w, func(w *impl.World) { w.Nodes[2].Known = []impl.Entry{bad} }), answered{})
	}
}

// worldBreaks makes a world not ok in a part that none of what is told hangs on.
func worldBreaks() []func(*impl.World) {
	return []func(*impl.World){
		func(w *impl.World) { w.Nodes[2].Id = 1 },
		func(w *impl.World) { w.Nodes[2].Seq = 1001 },
		func(w *impl.World) { w.Nodes[0].Phase = impl.NodeLeads },
		func(w *impl.World) { w.Nodes = append(w.Nodes, impl.NodeOpen(2)) },
		func(w *impl.World) { w.Net = []impl.Msg{{}} },
		func(w *impl.World) { w.Net = slices.Repeat([]impl.Msg{someMsg(impl.MsgNeed)}, 41) },
		func(w *impl.World) { w.Asked = append(w.Asked, impl.Asked{}) },
		func(w *impl.World) {
			w.Asked = append(w.Asked, impl.Asked{Req: impl.Req{Who: 2, Seq: 8}, Prog: badProgs()[0]})
		},
		func(w *impl.World) { w.Asked = slices.Repeat([]impl.Asked{{Req: impl.Req{Who: 2, Seq: 8}}}, 61) },
	}
}

// With one request that is done: its program, its run, and what ToldAlone says.
func TestToldAlone(t *testing.T) {
	q := impl.Req{Who: 2, Seq: 3}
	run := impl.ExecRun(impl.BoxOpen(), progOf(t, counts))
	for _, c := range []struct {
		run   impl.Run
		texts []string // what was asked with that request, in order
		want  bool
	}{
		{run, []string{counts}, true},
		{run, nil, false},
		{run, []string{""}, false},
		{run, []string{counts, ""}, true},
		{run, []string{"", counts}, false},
		// Another program that does the same, seen from what there is.
		{run, []string{"num 0 5,put 1 0"}, true},
		{run, []string{"num 0 5,put 2 0"}, false},
		{run, []string{"num 0 5"}, false},
		{run, []string{"num 1 5,put 1 1"}, false},
		{run, []string{"num 0 5,put 1 0,fail"}, false},
		{impl.Run{Reads: run.Reads, Puts: run.Puts, Val: 6}, []string{counts}, false},
		{impl.Run{Reads: run.Reads, Puts: run.Puts}, []string{counts}, false},
		{impl.Run{Reads: run.Reads, Puts: []impl.Put{{Box: 1, Val: 6}}, Val: 5}, []string{counts}, false},
		{impl.Run{Reads: run.Reads, Puts: []impl.Put{{Box: 2, Val: 5}}, Val: 5}, []string{counts}, false},
		{impl.Run{Reads: run.Reads, Val: 5}, []string{counts}, false},
		{impl.Run{Puts: run.Puts, Val: 5}, []string{counts}, true},
		// The number is the same, but not how often it was put.
		{impl.Run{}, []string{"put 1 0"}, false},
		{impl.Run{Puts: []impl.Put{{Box: 1, Val: 0}}}, []string{""}, false},
		{impl.Run{Puts: []impl.Put{{Box: 1, Val: 0}}}, []string{"put 1 0"}, true},
		// A program that fails alone leaves the boxes and says 0, as such a run does.
		{impl.Run{}, []string{"num 0 5,put 1 0,fail"}, true},
		{impl.Run{}, []string{""}, true},
		{impl.Run{}, nil, false},
		{impl.Run{Val: 1}, []string{"fail"}, false},
	} {
		var asked []impl.Asked
		for _, text := range c.texts {
			asked = append(asked, impl.Asked{Req: q, Prog: progOf(t, text)})
		}
		list := []impl.Entry{entryWith(2, 3, c.run)}
		wantTold(t, knowsAll(list, asked), answered{c.want, true, true})
		// Beside a program of another request nothing else is said.
		beside := append([]impl.Asked{{Req: impl.Req{Who: 2, Seq: 2}, Prog: progOf(t, counts)}}, asked...)
		wantTold(t, knowsAll(append([]impl.Entry{noneEntry()}, list...), beside), answered{c.want, true, true})
	}
}

// Of what is not done nothing is asked: neither whether it was asked, nor its program or Val.
func TestToldAloneOfWhatIsNotDone(t *testing.T) {
	list, asked := threeAsk(t)
	wantTold(t, knowsAll(list, []impl.Asked{asked[0], asked[2]}), allSo)
	wantTold(t, knowsAll(list, []impl.Asked{asked[1], asked[2]}), answered{false, true, true})
	wantTold(t, knowsAll(list, []impl.Asked{asked[0], asked[1]}), answered{false, true, true})
	wantTold(t, knowsAll(list, nil), answered{false, true, true})
	asked[1].Prog = progOf(t, "num 0 9,put 3 0")
	wantTold(t, knowsAll(list, asked), allSo)
	list[1].Run.Val = 900
	wantTold(t, knowsAll(list, asked), allSo)
	for _, e := range []impl.Entry{noneEntry(), entryWith(0, 1, blindRun()), entryWith(1, 2, impl.Run{Code: impl.ExecFails}), entryWith(1, 2, saw(1, 0, 9)), entryWith(1, 1, blindRun())} {
		wantTold(t, knowsAll(append(slices.Clone(list), e), asked), allSo)
	}
	wantTold(t, knowsAll(append(slices.Clone(list), entryWith(1, 2, blindRun())), asked), answered{false, true, true})
	wantTold(t, knowsAll([]impl.Entry{noneEntry(), noneEntry()}, nil), allSo)
	wantTold(t, knowsAll(nil, asked), allSo)
}

// In the order of the list: the other way round they would leave other boxes, and say something else.
func TestToldAloneInTheOrderOfTheList(t *testing.T) {
	texts := []string{"num 0 7,put 0 0", "load 0 0,add 0 0,put 0 0", "load 1 0,put 1 1,num 0 3,put 0 0"}
	for _, order := range [][]int{{0, 1, 2}, {0, 2, 1}, {1, 0, 2}, {1, 2, 0}, {2, 0, 1}, {2, 1, 0}} {
		var list []impl.Entry
		asked := make([]impl.Asked, 3)
		for _, who := range order {
			prog := progOf(t, texts[who])
			list = append(list, entryWith(who, 4, impl.ExecRun(impl.CertFold(list).Boxes, prog)))
			asked[who] = impl.Asked{Req: impl.Req{Who: who, Seq: 4}, Prog: prog}
		}
		if len(impl.ToldDone(list)) != 3 {
			t.Errorf("of %v is done %v", list, impl.ToldDone(list))
		}
		w := knowsAll(list, asked)
		wantTold(t, w, allSo)
		for _, pair := range [][]int{{0, 1}, {1, 2}, {0, 2}} {
			wantTold(t, withWorld(w, func(w *impl.World) {
				a, b := &w.Asked[pair[0]], &w.Asked[pair[1]]
				a.Req, b.Req = b.Req, a.Req
			}), answered{false, true, true})
		}
	}
}

// As many as there may be, each of which looks at what the one ahead of it left.
func TestToldAloneOfAsManyAsMayBe(t *testing.T) {
	prog := progOf(t, "load 0 2,num 1 3,add 0 1,put 2 0")
	var list []impl.Entry
	var asked []impl.Asked
	var told []impl.Told
	for place := range 40 {
		e := entryWith(place%3, 1+place/3, impl.ExecRun(impl.CertFold(list).Boxes, prog))
		list = append(list, e)
		asked = append(asked, impl.Asked{Req: e.Req, Prog: prog})
		told = append(told, toldOf(e.Req.Who, e.Req.Seq, impl.CertDone, 3+3*place))
	}
	w := knowsAll(list, asked, told...)
	wantTold(t, w, allSo)
	for _, place := range []int{0, 1, 20, 38, 39} {
		wantTold(t, withWorld(w, func(w *impl.World) { w.Asked = slices.Delete(w.Asked, place, place+1) }), answered{false, true, true})
		wantTold(t, withWorld(w, func(w *impl.World) { w.Told[place].Val++ }), answered{true, false, true})
		wantTold(t, withWorld(w, func(w *impl.World) { w.Told[place] = w.Told[(place+1)%40] }), answered{true, true, false})
		wantTold(t, withWorld(w, func(w *impl.World) { w.Nodes[1].Known[place].Run.Val++ }), answered{false, false, true})
	}
	asked[39].Prog = progOf(t, "load 0 2,num 1 3,add 0 1,put 2 0,put 2 0")
	wantTold(t, w, allSo)
	asked[39].Prog = progOf(t, "load 0 2,num 1 3,add 0 1,put 3 0")
	wantTold(t, w, answered{false, true, true})
}

// It is the list of the first node that knows the most.
func TestToldOfTheListThatIsKnown(t *testing.T) {
	list, asked := threeAsk(t)
	other := cloneEntries(list)
	other[2].Run = blindRun()
	stale, put, blind := toldOf(1, 1, impl.CertStale, 0), toldOf(2, 1, impl.CertDone, 7), toldOf(2, 1, impl.CertDone, 9)
	for _, c := range []struct {
		known [3][]impl.Entry
		told  []impl.Told
		want  answered
	}{
		{[3][]impl.Entry{list, other, other}, []impl.Told{stale, put}, allSo},
		{[3][]impl.Entry{list, other, other}, []impl.Told{stale, blind}, answered{true, false, true}},
		{[3][]impl.Entry{other, list, list}, []impl.Told{stale, put}, answered{false, false, true}},
		{[3][]impl.Entry{other, list, list}, []impl.Told{stale, blind}, answered{false, true, true}},
		{[3][]impl.Entry{other[:2], list, other}, []impl.Told{put}, allSo},
		{[3][]impl.Entry{nil, list[:2], list}, []impl.Told{stale, put}, allSo},
		{[3][]impl.Entry{other[:2], list[:2], other[:1]}, []impl.Told{stale}, allSo},
		{[3][]impl.Entry{other[:2], list[:2], other[:1]}, []impl.Told{put}, answered{true, false, true}},
		{[3][]impl.Entry{nil, list[:1], list[1:2]}, []impl.Told{stale}, answered{true, false, true}},
	} {
		w := impl.WorldOpen()
		for id, known := range c.known {
			w.Nodes[id].Known = known
		}
		w.Asked, w.Told = asked, c.told
		wantTold(t, w, c.want)
	}
}

// endedAll is a list in which the first entry of (0, 2) is done with 5, of (1, 1) stale, of (2, 1) failed, and of (0, 1) old; all but the last come again.
func endedAll() []impl.Entry {
	list := []impl.Entry{entryWith(0, 2, saw(1, 0, 5)), entryWith(1, 1, saw(1, 0, 6)), noneEntry(), entryWith(2, 1, impl.Run{Code: impl.ExecFails})}
	list = append(list, entryWith(0, 2, saw(1, 1, 8)), entryWith(1, 1, saw(1, 1, 8)), entryWith(2, 1, blindRun()), entryWith(0, 1, saw(1, 1, 9)))
	return list
}

// Of each Code: an answer is true with the Code of the first entry and the Val that belongs to that alone.
func TestToldTrue(t *testing.T) {
	wantToldDone(t, endedAll(), impl.Req{Seq: 2})
	asked := []impl.Asked{{Req: impl.Req{Seq: 2}, Prog: progOf(t, counts)}}
	right := map[impl.Req]impl.Told{}
	for _, told := range []impl.Told{toldOf(0, 2, impl.CertDone, 5), toldOf(1, 1, impl.CertStale, 0), toldOf(2, 1, impl.CertFailed, 0), toldOf(0, 1, impl.CertOld, 0)} {
		right[told.Req] = told
	}
	times := 0
	for who := range 3 {
		for _, seq := range []int{1, 2, 3, 1000} {
			for code := range 5 {
				for _, val := range []int{-impl.BoxMax, -1, 0, 1, 4, 5, 6, 8, 9, impl.BoxMax} {
					told := toldOf(who, seq, code, val)
					is := right[told.Req] == told
					wantTold(t, knowsAll(endedAll(), asked, told), answered{true, is, true})
					if is {
						times++
					}
				}
			}
		}
	}
	if times != 4 {
		t.Errorf("%d answers are true", times)
	}
}

func TestToldTrueOfManyAnswers(t *testing.T) {
	asked := []impl.Asked{{Req: impl.Req{Seq: 2}, Prog: progOf(t, counts)}}
	right := []impl.Told{toldOf(0, 1, impl.CertOld, 0), toldOf(2, 1, impl.CertFailed, 0), toldOf(1, 1, impl.CertStale, 0), toldOf(0, 2, impl.CertDone, 5)}
	wantTold(t, knowsAll(endedAll(), asked), allSo)
	for size := range 5 {
		wantTold(t, knowsAll(endedAll(), asked, right[:size]...), allSo)
	}
	for _, wrong := range []impl.Told{toldOf(1, 2, impl.CertDone, 5), toldOf(2, 9, impl.CertStale, 0)} {
		for place := range 5 {
			wantTold(t, knowsAll(endedAll(), asked, slices.Insert(slices.Clone(right), place, wrong)...), answered{true, false, true})
		}
	}
	// An answer stands before its entry is known to the one with the most: that is not so yet.
	wantTold(t, knowsAll(endedAll()[:3], asked, right[3]), allSo)
	wantTold(t, knowsAll(endedAll()[:3], asked, right[1]), answered{true, false, true})
	wantTold(t, knowsAll(nil, asked, right[3]), answered{true, false, true})
	// A Val of 0 is that of a run, too.
	zero := []impl.Entry{entryWith(1, 1, impl.Run{})}
	wantTold(t, knowsAll(zero, []impl.Asked{{Req: zero[0].Req}}, toldOf(1, 1, impl.CertDone, 0)), allSo)
	wantTold(t, knowsAll(zero, []impl.Asked{{Req: zero[0].Req}}, toldOf(1, 1, impl.CertStale, 0)), answered{true, false, true})
	// It is the whole request that counts: not the number of another node, nor another number of the node.
	wantTold(t, knowsAll(zero, []impl.Asked{{Req: zero[0].Req}}, toldOf(2, 1, impl.CertDone, 0)), answered{true, false, true})
	wantTold(t, knowsAll(zero, []impl.Asked{{Req: zero[0].Req}}, toldOf(1, 2, impl.CertDone, 0)), answered{true, false, true})
}

func TestToldOnce(t *testing.T) {
	list, asked := threeAsk(t)
	first, second, third := toldOf(0, 1, impl.CertDone, 5), toldOf(1, 1, impl.CertStale, 0), toldOf(2, 1, impl.CertDone, 7)
	for _, c := range []struct {
		told []impl.Told
		want answered
	}{
		{nil, allSo},
		{[]impl.Told{}, allSo},
		{[]impl.Told{first}, allSo},
		{[]impl.Told{second}, allSo},
		{[]impl.Told{first, second}, allSo},
		{[]impl.Told{third, second, first}, allSo},
		{[]impl.Told{first, first}, answered{true, true, false}},
		{[]impl.Told{second, second}, answered{true, true, false}},
		{[]impl.Told{first, second, first}, answered{true, true, false}},
		{[]impl.Told{third, first, second, second}, answered{true, true, false}},
		{[]impl.Told{first, first, first}, answered{true, true, false}},
		// To one request with another Code or Val.
		{[]impl.Told{first, toldOf(0, 1, impl.CertStale, 0)}, answered{true, false, false}},
		{[]impl.Told{toldOf(0, 1, impl.CertOld, 0), second, first}, answered{true, false, false}},
		{[]impl.Told{first, toldOf(0, 1, impl.CertDone, 6)}, answered{true, false, false}},
		// To others of the same number, or of the same node.
		{[]impl.Told{first, toldOf(0, 2, impl.CertDone, 5)}, answered{true, false, true}},
		{[]impl.Told{second, toldOf(1, 2, impl.CertStale, 0), toldOf(2, 2, impl.CertStale, 0)}, answered{true, false, true}},
	} {
		wantTold(t, knowsAll(list, asked, c.told...), c.want)
	}
	var many []impl.Told
	for place := range 60 {
		many = append(many, toldOf(place%3, 1+place/3, impl.CertStale, 0))
	}
	wantTold(t, knowsAll(nil, nil, many...), answered{true, false, true})
	for _, place := range []int{1, 30, 59} {
		twice := slices.Clone(many)
		twice[place] = twice[0]
		wantTold(t, knowsAll(nil, nil, twice...), answered{true, false, false})
		twice[place] = twice[place-1]
		wantTold(t, knowsAll(nil, nil, twice...), answered{true, false, false})
	}
}
