package tests

import (
	"math"
	"slices"
	"testing"

	"loop.example/thingstead/impl"
)

// sameState holds states against each other without the program's own CertSame.
func sameState(a impl.State, b impl.State) bool {
	return a.At == b.At && slices.Equal(a.Boxes, b.Boxes) && slices.Equal(a.Dones, b.Dones)
}

// sameEntry holds entries against each other without the program's own CertLike.
func sameEntry(a impl.Entry, b impl.Entry) bool {
	return a.None == b.None && a.Req == b.Req && sameRun(a.Run, b.Run)
}

func cloneState(s impl.State) impl.State {
	return impl.State{At: s.At, Boxes: slices.Clone(s.Boxes), Dones: slices.Clone(s.Dones)}
}

func cloneEntry(e impl.Entry) impl.Entry {
	return impl.Entry{None: e.None, Req: e.Req, Run: cloneRun(e.Run)}
}

func cloneEntries(list []impl.Entry) []impl.Entry {
	var out []impl.Entry
	for _, e := range list {
		out = append(out, cloneEntry(e))
	}
	return out
}

func entryWith(who int, seq int, run impl.Run) impl.Entry {
	return impl.Entry{Req: impl.Req{Who: who, Seq: seq}, Run: run}
}

func doneWith(who int, seq int, code int, val int) impl.Done {
	return impl.Done{Req: impl.Req{Who: who, Seq: seq}, Code: code, Val: val}
}

// someState has a last request of each node, each ended otherwise.
func someState(t *testing.T) impl.State {
	t.Helper()
	return impl.State{At: 7, Boxes: boxesOf(t, someBoxes), Dones: []impl.Done{doneWith(0, 3, impl.CertDone, 5), doneWith(1, 10, impl.CertStale, 0), doneWith(2, 500, impl.CertFailed, 0)}}
}

// freshRun looks into box 1 of someBoxes as it is, staleRun as it was, blindRun into none.
func freshRun() impl.Run {
	return impl.Run{Reads: []impl.Read{{Box: 1, Ver: 20}}, Puts: []impl.Put{{Box: 2, Val: 205}, {Box: 1, Val: 6}}, Val: 205}
}

func staleRun() impl.Run {
	return impl.Run{Reads: []impl.Read{{Box: 1, Ver: 19}}, Puts: []impl.Put{{Box: 2, Val: 204}}, Val: 204}
}

func blindRun() impl.Run {
	return impl.Run{Puts: []impl.Put{{Box: 3, Val: 9}}, Val: 9}
}

// behindFresh and behindBlind are what these leave of someBoxes.
const (
	behindFresh = "100/10 6/21 205/31 -400/40"
	behindBlind = "100/10 200/20 300/30 9/41"
)

// applied is another CertApply, for what is right, by lists alone.
func applied(s impl.State, e impl.Entry) (impl.State, int) {
	out := cloneState(s)
	out.At++
	if e.None {
		return out, 5
	}
	place := slices.IndexFunc(out.Dones, func(d impl.Done) bool { return d.Req.Who == e.Req.Who })
	if place >= 0 && out.Dones[place].Req.Seq >= e.Req.Seq {
		if out.Dones[place].Req.Seq == e.Req.Seq {
			return out, 3
		}
		return out, 4
	}
	done := impl.Done{Req: e.Req}
	for _, read := range e.Run.Reads {
		if s.Boxes[read.Box].Ver != read.Ver {
			done.Code = 1
		}
	}
	if done.Code == 0 && e.Run.Code != 0 {
		done.Code = 2
	}
	if done.Code == 0 {
		done.Val = e.Run.Val
		for _, put := range e.Run.Puts {
			out.Boxes[put.Box] = impl.Box{Ver: min(out.Boxes[put.Box].Ver+1, 1000000), Val: put.Val}
		}
	}
	if place >= 0 {
		out.Dones[place] = done
		return out, done.Code
	}
	out.Dones = append(out.Dones, done)
	slices.SortFunc(out.Dones, func(a, b impl.Done) int { return a.Req.Who - b.Req.Who })
	return out, done.Code
}

func wantApply(t *testing.T, s impl.State, e impl.Entry, want impl.State, code int) {
	t.Helper()
	got, gotCode := impl.CertApply(s, e)
	if !sameState(got, want) || gotCode != code {
		t.Errorf("%v behind %v is %v, %d, not %v, %d", e, s, got, gotCode, want, code)
	}
	if code >= 0 && !impl.CertOk(got) {
		t.Errorf("%v behind %v is %v, which is not ok", e, s, got)
	}
}

func wantRefused(t *testing.T, s impl.State, e impl.Entry) {
	t.Helper()
	wantApply(t, s, e, impl.State{}, -1)
}

// wantLeft wants an entry that turns nothing but how many there are.
func wantLeft(t *testing.T, s impl.State, e impl.Entry, code int) {
	t.Helper()
	want := cloneState(s)
	want.At++
	wantApply(t, s, e, want, code)
}

// wantEnded wants an entry behind which its node's last request is this one, and the boxes are these.
func wantEnded(t *testing.T, s impl.State, e impl.Entry, boxes string, done impl.Done) {
	t.Helper()
	want := cloneState(s)
	want.At++
	want.Boxes = boxesOf(t, boxes)
	place := slices.IndexFunc(want.Dones, func(d impl.Done) bool { return d.Req.Who == done.Req.Who })
	if place < 0 {
		t.Fatalf("%v has no request of node %d", s, done.Req.Who)
	}
	want.Dones[place] = done
	wantApply(t, s, e, want, done.Code)
}

// asking is entries as nodes ask for them: with programs that ran on what there was, just now or a while ago.
type asking struct {
	draws
	states []impl.State
	list   []impl.Entry
	progs  map[impl.Req][]impl.Ins
}

func (d *asking) now() impl.State {
	return d.states[len(d.states)-1]
}

// again is an entry that has come: as it was, or run anew on what there is.
func (d *asking) again() impl.Entry {
	e := d.list[d.below(len(d.list))]
	if !e.None && d.below(2) == 0 {
		e.Run = impl.ExecRun(d.now().Boxes, d.progs[e.Req])
	}
	return e
}

// fresh is a request, most often one with a greater number than all others.
func (d *asking) fresh() impl.Entry {
	req := impl.Req{Who: d.below(3), Seq: 2*len(d.list) + 1}
	if d.below(8) == 0 {
		req.Seq = 2 + 2*d.below(len(d.list)+1)
	}
	if _, asked := d.progs[req]; !asked {
		d.progs[req] = d.prog()
	}
	ago := d.below(min(3, len(d.states)))
	return impl.Entry{Req: req, Run: impl.ExecRun(d.states[len(d.states)-1-ago].Boxes, d.progs[req])}
}

func (d *asking) next() impl.Entry {
	switch kind := d.below(10); {
	case kind == 0:
		return impl.Entry{None: true}
	case kind < 3 && len(d.list) > 0:
		return d.again()
	}
	return d.fresh()
}

// wantAlone holds an entry against its program, run alone on what there was at its place.
func wantAlone(t *testing.T, before impl.State, e impl.Entry, prog []impl.Ins, after impl.State, code int) {
	t.Helper()
	if code != impl.CertDone {
		if !slices.Equal(after.Boxes, before.Boxes) {
			t.Errorf("%v behind %v ends with %d, and turns the boxes to %v", e, before, code, after.Boxes)
		}
		return
	}
	boxes, val, runCode := impl.SerialOne(before.Boxes, prog)
	done := impl.Done{Req: e.Req, Code: impl.CertDone, Val: val}
	if runCode != impl.ExecFine || !slices.Equal(after.Boxes, boxes) || !slices.Contains(after.Dones, done) {
		t.Errorf("%v of %q behind %v is done as %v, but alone it leaves %v, %d, %d", e, impl.ProgText(prog), before, after, boxes, val, runCode)
	}
}

// Promise 5.
func TestWhatIsDoneIsAsIfAlone(t *testing.T) {
	codes := map[int]int{}
	for seed := range 400 {
		d := asking{draws: draws(seed), states: []impl.State{impl.CertOpen()}, progs: map[impl.Req][]impl.Ins{}}
		times := map[impl.Req]int{}
		for range impl.CertSlots {
			before, e := d.now(), d.next()
			after, code := impl.CertApply(before, e)
			want, wantCode := applied(before, e)
			wantApply(t, before, e, want, wantCode)
			wantAlone(t, before, e, d.progs[e.Req], after, code)
			if code == impl.CertDone {
				times[e.Req]++
			}
			if times[e.Req] > 1 {
				t.Errorf("%v is done %d times", e.Req, times[e.Req])
			}
			codes[code]++
			d.list, d.states = append(d.list, e), append(d.states, after)
			if t.Failed() {
				t.FailNow()
			}
		}
	}
	for code := range 6 {
		if codes[code] < 300 {
			t.Errorf("%d entries ended with the code %d", codes[code], code)
		}
	}
}

// Promise 5, for any boxes: the runs are of programs on what there is, and each is asked for twice.
func TestWhatIsDoneIsAsIfAloneOnAnyBoxes(t *testing.T) {
	d := draws(55)
	for range 4000 {
		s := impl.State{At: d.below(impl.CertSlots - 1), Boxes: d.boxes()}
		prog := d.prog()
		e := entryWith(d.below(3), 1+d.below(impl.CertSeq), impl.ExecRun(s.Boxes, prog))
		after, code := impl.CertApply(s, e)
		wantAlone(t, s, e, prog, after, code)
		if _, _, runCode := impl.SerialOne(s.Boxes, prog); (code == impl.CertDone) != (runCode == impl.ExecFine) {
			t.Errorf("%q on %v ends with %d", impl.ProgText(prog), s, code)
		}
		wantLeft(t, after, e, impl.CertAgain)
	}
}

func TestCertCodesAndBounds(t *testing.T) {
	got := []int{impl.CertDone, impl.CertStale, impl.CertFailed, impl.CertAgain, impl.CertOld, impl.CertNone, impl.CertNodes, impl.CertSlots, impl.CertSeq}
	if !slices.Equal(got, []int{0, 1, 2, 3, 4, 5, 3, 40, 1000}) {
		t.Error(got)
	}
}

func TestCertOpen(t *testing.T) {
	got := impl.CertOpen()
	if got.At != 0 || !slices.Equal(got.Boxes, impl.BoxOpen()) || len(got.Dones) != 0 || !impl.CertOk(got) {
		t.Error(got)
	}
}

// okDones is requests that are ok, of each number of nodes, and with each number at its edges.
func okDones() [][]impl.Done {
	out := [][]impl.Done{nil, {}}
	for who := range 3 {
		for _, seq := range []int{1, 2, 999, 1000} {
			out = append(out, []impl.Done{doneWith(who, seq, 1, 0)}, []impl.Done{doneWith(who, seq, 2, 0)})
			for _, val := range []int{-impl.BoxMax, -1, 0, 1, impl.BoxMax} {
				out = append(out, []impl.Done{doneWith(who, seq, 0, val)})
			}
		}
	}
	return append(out,
		[]impl.Done{doneWith(0, 7, 0, 1), doneWith(1, 7, 0, 1)}, []impl.Done{doneWith(0, 9, 2, 0), doneWith(2, 1, 0, 5)}, []impl.Done{doneWith(1, 1000, 1, 0), doneWith(2, 1, 1, 0)},
		[]impl.Done{doneWith(0, 1000, 0, -4), doneWith(1, 1, 1, 0), doneWith(2, 30, 2, 0)})
}

// badDone is requests of which each breaks one condition alone.
func badDone() []impl.Done {
	var out []impl.Done
	for _, who := range []int{math.MinInt, -1, 3, 4, math.MaxInt} {
		out = append(out, doneWith(who, 1, 0, 0), doneWith(who, 5, 1, 0))
	}
	for _, seq := range []int{math.MinInt, -1, 0, 1001, math.MaxInt} {
		out = append(out, doneWith(1, seq, 0, 4), doneWith(1, seq, 2, 0))
	}
	for _, code := range []int{math.MinInt, -1, 3, 4, 5, 6, math.MaxInt} {
		out = append(out, doneWith(1, 5, code, 0))
	}
	for _, val := range []int{math.MinInt, -impl.BoxMax - 1, impl.BoxMax + 1, math.MaxInt} {
		out = append(out, doneWith(1, 5, 0, val))
	}
	for _, val := range []int{math.MinInt, -impl.BoxMax, -1, 1, impl.BoxMax, math.MaxInt} {
		out = append(out, doneWith(1, 5, 1, val), doneWith(1, 5, 2, val))
	}
	return out
}

// badDones is lists of requests that are not ok: for one of them, or for their order.
func badDones() [][]impl.Done {
	var out [][]impl.Done
	for _, done := range badDone() {
		out = append(out, []impl.Done{done}, []impl.Done{doneWith(0, 1, 0, 0), done}, []impl.Done{done, doneWith(2, 1, 0, 0)}, []impl.Done{doneWith(0, 1, 0, 0), done, doneWith(2, 1, 0, 0)})
	}
	for who := range 3 {
		for other := range who + 1 {
			out = append(out, []impl.Done{doneWith(who, 1, 0, 0), doneWith(other, 1, 0, 0)}, []impl.Done{doneWith(who, 1, 0, 0), doneWith(other, 2, 1, 0)})
		}
	}
	for _, whos := range [][]int{{0, 0, 1}, {0, 1, 1}, {0, 2, 1}, {1, 0, 2}, {2, 1, 0}, {0, 1, 0}, {1, 2, 2}, {0, 1, 2, 2}, {0, 1, 2, 0}, {0, 1, 2, 3}, {-1, 0, 1, 2}} {
		var list []impl.Done
		for place, who := range whos {
			list = append(list, doneWith(who, 1+place, 0, 0))
		}
		out = append(out, list)
	}
	return append(out, make([]impl.Done, 1), slices.Repeat([]impl.Done{doneWith(1, 1, 0, 0)}, 1<<12))
}

// okStates is states that are ok, with each part at its edges.
func okStates() []impl.State {
	var out []impl.State
	for _, at := range []int{0, 1, 39, 40} {
		out = append(out, impl.State{At: at, Boxes: impl.BoxOpen()})
	}
	for _, box := range edgeBoxes() {
		out = append(out, impl.State{At: 4, Boxes: zerosBut(len(out)%impl.BoxAll, box)})
	}
	for _, dones := range okDones() {
		out = append(out, impl.State{At: 4, Boxes: impl.BoxOpen(), Dones: dones}, impl.State{Boxes: impl.BoxOpen(), Dones: dones})
	}
	return out
}

// badStates is states of which each breaks one condition alone.
func badStates() []impl.State {
	out := []impl.State{{}}
	for _, at := range []int{math.MinInt, -2, -1, 41, 42, math.MaxInt} {
		out = append(out, impl.State{At: at, Boxes: impl.BoxOpen()}, impl.State{At: at, Boxes: impl.BoxOpen(), Dones: okDones()[5]})
	}
	for _, boxes := range badLists() {
		out = append(out, impl.State{Boxes: boxes}, impl.State{At: 4, Boxes: boxes, Dones: okDones()[5]})
	}
	for _, dones := range badDones() {
		out = append(out, impl.State{Boxes: impl.BoxOpen(), Dones: dones}, impl.State{At: 4, Boxes: impl.BoxOpen(), Dones: dones})
	}
	return out
}

func TestCertOkAtItsEdges(t *testing.T) {
	for _, s := range append(okStates(), someState(t)) {
		if !impl.CertOk(s) {
			t.Errorf("%v is not ok", s)
		}
	}
	for _, s := range badStates() {
		if impl.CertOk(s) {
			t.Errorf("%v is ok", s)
		}
	}
}

func wantStatesDiffer(t *testing.T, a impl.State, b impl.State) {
	t.Helper()
	if impl.CertSame(a, b) || impl.CertSame(b, a) {
		t.Errorf("%v and %v are the same", a, b)
	}
}

func TestCertSame(t *testing.T) {
	for _, s := range append(okStates(), badStates()...) {
		if !impl.CertSame(s, cloneState(s)) {
			t.Errorf("%v differs from itself", s)
		}
	}
	for _, at := range []int{-1, 0, 3, 41} {
		empty := impl.State{At: at, Boxes: []impl.Box{}, Dones: []impl.Done{}}
		if !impl.CertSame(empty, impl.State{At: at}) || !impl.CertSame(impl.State{At: at}, empty) {
			t.Error("the nil list and the empty list differ")
		}
	}
}

func TestCertSameOfStatesThatDifferInOnePart(t *testing.T) {
	changes := []func(*impl.State){
		func(s *impl.State) { s.At++ },
		func(s *impl.State) { s.At = -s.At },
		func(s *impl.State) { s.Boxes = nil },
		func(s *impl.State) { s.Boxes = s.Boxes[:3] },
		func(s *impl.State) { s.Boxes = append(s.Boxes, impl.Box{}) },
		func(s *impl.State) { slices.Reverse(s.Boxes) },
		func(s *impl.State) { s.Boxes[0], s.Boxes[1] = s.Boxes[1], s.Boxes[0] },
		func(s *impl.State) { s.Dones = nil },
		func(s *impl.State) { s.Dones = s.Dones[:2] },
		func(s *impl.State) { s.Dones = s.Dones[1:] },
		func(s *impl.State) { s.Dones = append(s.Dones, impl.Done{}) },
		func(s *impl.State) { slices.Reverse(s.Dones) },
		func(s *impl.State) { s.Dones[1], s.Dones[2] = s.Dones[2], s.Dones[1] },
	}
	for place := range impl.BoxAll {
		changes = append(changes, func(s *impl.State) { s.Boxes[place].Ver++ }, func(s *impl.State) { s.Boxes[place].Val++ })
	}
	for place := range impl.CertNodes {
		changes = append(changes,
			func(s *impl.State) { s.Dones[place].Req.Who++ }, func(s *impl.State) { s.Dones[place].Req.Seq++ },
			func(s *impl.State) { s.Dones[place].Code++ }, func(s *impl.State) { s.Dones[place].Val++ })
	}
	for _, change := range changes {
		other := someState(t)
		change(&other)
		wantStatesDiffer(t, someState(t), other)
	}
	wantStatesDiffer(t, impl.State{Dones: []impl.Done{{}}}, impl.State{})
	wantStatesDiffer(t, impl.State{Boxes: []impl.Box{{}}}, impl.State{})
	wantStatesDiffer(t, impl.CertOpen(), impl.State{})
}

// okEntries is entries that are right, with each part at its edges.
func okEntries() []impl.Entry {
	out := []impl.Entry{{None: true}, {None: true, Run: impl.Run{Reads: []impl.Read{}, Puts: []impl.Put{}}}}
	for who := range 3 {
		for _, seq := range []int{1, 2, 999, 1000} {
			out = append(out, entryWith(who, seq, impl.Run{}), entryWith(who, seq, freshRun()), entryWith(who, seq, impl.Run{Code: impl.ExecGreat}))
		}
	}
	for _, run := range okRuns() {
		if run.Code != impl.ExecForm {
			out = append(out, entryWith(2, 7, run))
		}
	}
	return out
}

// badEntries is entries of which each breaks one condition alone.
func badEntries() []impl.Entry {
	out := []impl.Entry{{}, {Run: freshRun()}, entryWith(1, 5, impl.Run{Code: impl.ExecForm}), entryWith(1, 5, impl.Run{Reads: []impl.Read{}, Puts: []impl.Put{}, Code: impl.ExecForm})}
	for _, req := range []impl.Req{{Who: 1}, {Seq: 1}, {Who: 1, Seq: 5}, {Who: -1}, {Seq: -1}, {Who: 3, Seq: 1001}} {
		out = append(out, impl.Entry{None: true, Req: req})
	}
	for _, run := range append(okRuns(), badRuns()...) {
		if !sameRun(run, impl.Run{}) {
			out = append(out, impl.Entry{None: true, Run: run})
		}
	}
	out = append(out, impl.Entry{None: true, Req: impl.Req{Who: 1, Seq: 5}, Run: freshRun()})
	for _, who := range []int{math.MinInt, -1, 3, 4, math.MaxInt} {
		out = append(out, entryWith(who, 5, impl.Run{}), entryWith(who, 5, freshRun()))
	}
	for _, seq := range []int{math.MinInt, -1, 0, 1001, math.MaxInt} {
		out = append(out, entryWith(1, seq, impl.Run{}), entryWith(1, seq, freshRun()))
	}
	for _, run := range badRuns() {
		out = append(out, entryWith(1, 5, run))
	}
	return out
}

func TestCertEntryAtItsEdges(t *testing.T) {
	for _, e := range okEntries() {
		if !impl.CertEntry(e) {
			t.Errorf("%v is not right", e)
		}
	}
	for _, e := range badEntries() {
		if impl.CertEntry(e) {
			t.Errorf("%v is right", e)
		}
	}
}

func wantEntriesDiffer(t *testing.T, a impl.Entry, b impl.Entry) {
	t.Helper()
	if impl.CertLike(a, b) || impl.CertLike(b, a) {
		t.Errorf("%v and %v are the same", a, b)
	}
}

func TestCertLike(t *testing.T) {
	for _, e := range append(okEntries(), badEntries()...) {
		if !impl.CertLike(e, cloneEntry(e)) {
			t.Errorf("%v differs from itself", e)
		}
	}
	for _, none := range []bool{false, true} {
		empty := impl.Entry{None: none, Run: impl.Run{Reads: []impl.Read{}, Puts: []impl.Put{}}}
		if !impl.CertLike(empty, impl.Entry{None: none}) || !impl.CertLike(impl.Entry{None: none}, empty) {
			t.Error("the nil list and the empty list differ")
		}
	}
}

func TestCertLikeOfEntriesThatDifferInOnePart(t *testing.T) {
	changes := []func(*impl.Entry){
		func(e *impl.Entry) { e.None = !e.None },
		func(e *impl.Entry) { e.Req.Who++ },
		func(e *impl.Entry) { e.Req.Seq++ },
		func(e *impl.Entry) { e.Req.Who, e.Req.Seq = e.Req.Seq, e.Req.Who },
		func(e *impl.Entry) { e.Run.Val++ },
		func(e *impl.Entry) { e.Run.Code++ },
		func(e *impl.Entry) { e.Run.Reads = nil },
		func(e *impl.Entry) { e.Run.Puts = nil },
		func(e *impl.Entry) { e.Run.Reads = append(e.Run.Reads, impl.Read{}) },
		func(e *impl.Entry) { e.Run.Puts = append(e.Run.Puts, impl.Put{}) },
		func(e *impl.Entry) { slices.Reverse(e.Run.Puts) },
		func(e *impl.Entry) { e.Run.Reads[0].Box++ },
		func(e *impl.Entry) { e.Run.Reads[0].Ver++ },
		func(e *impl.Entry) { e.Run.Puts[1].Box++ },
		func(e *impl.Entry) { e.Run.Puts[1].Val++ },
	}
	for _, change := range changes {
		for _, none := range []bool{false, true} {
			one := impl.Entry{None: none, Req: impl.Req{Who: 1, Seq: 5}, Run: freshRun()}
			other := cloneEntry(one)
			change(&other)
			wantEntriesDiffer(t, one, other)
		}
	}
	wantEntriesDiffer(t, impl.Entry{None: true}, impl.Entry{})
}

func TestCertApplyOfWhatIsNotOk(t *testing.T) {
	for _, s := range badStates() {
		for _, e := range []impl.Entry{{None: true}, entryWith(1, 5, impl.Run{}), entryWith(0, 1, blindRun()), entryWith(2, 1000, impl.Run{Code: impl.ExecFails}), {}} {
			wantRefused(t, s, e)
		}
	}
	for _, e := range badEntries() {
		for _, s := range []impl.State{impl.CertOpen(), someState(t), {At: impl.CertSlots, Boxes: impl.BoxOpen()}, {}} {
			wantRefused(t, s, e)
		}
	}
}

// Behind CertSlots entries there comes none, whatever it would end with.
func TestCertApplyAtTheEndOfTheList(t *testing.T) {
	s := someState(t)
	entries := []impl.Entry{{None: true}, entryWith(0, 3, freshRun()), entryWith(1, 9, freshRun()), entryWith(1, 11, staleRun()), entryWith(1, 11, impl.Run{Code: impl.ExecFails}), entryWith(1, 11, freshRun()), entryWith(1, 11, blindRun())}
	for _, e := range entries {
		for _, at := range []int{0, 1, 38, 39} {
			s.At = at
			want, code := applied(s, e)
			wantApply(t, s, e, want, code)
		}
		for _, at := range []int{-1, 40, 41} {
			s.At = at
			wantRefused(t, s, e)
		}
	}
}

func TestCertApplyOfNone(t *testing.T) {
	for _, s := range okStates() {
		if s.At < impl.CertSlots {
			wantLeft(t, s, impl.Entry{None: true}, impl.CertNone)
			wantLeft(t, s, impl.Entry{None: true, Run: impl.Run{Reads: []impl.Read{}, Puts: []impl.Put{}}}, impl.CertNone)
		}
	}
}

// Each code, and, where several could be told, the one that the document names first.
func TestCertApply(t *testing.T) {
	s := someState(t)
	fails := impl.Run{Reads: []impl.Read{{Box: 1, Ver: 20}}, Code: impl.ExecFails}
	great := impl.Run{Reads: []impl.Read{{Box: 3, Ver: 40}, {Box: 1, Ver: 20}}, Code: impl.ExecGreat}
	staleFails := impl.Run{Reads: []impl.Read{{Box: 1, Ver: 21}}, Code: impl.ExecFails}
	staleGreat := impl.Run{Reads: []impl.Read{{Box: 3, Ver: 40}, {Box: 1, Ver: 0}}, Code: impl.ExecGreat}
	for who, last := range []int{3, 10, 500} {
		for _, run := range []impl.Run{{}, freshRun(), staleRun(), blindRun(), fails, great, staleFails, staleGreat, {Code: impl.ExecFails}} {
			wantLeft(t, s, entryWith(who, last, run), impl.CertAgain)
			for _, seq := range []int{1, last - 1} {
				wantLeft(t, s, entryWith(who, seq, run), impl.CertOld)
			}
		}
		for _, seq := range []int{last + 1, last + 2, impl.CertSeq} {
			for _, run := range []impl.Run{staleRun(), staleFails, staleGreat} {
				wantEnded(t, s, entryWith(who, seq, run), someBoxes, doneWith(who, seq, impl.CertStale, 0))
			}
			for _, run := range []impl.Run{fails, great, {Code: impl.ExecFails}, {Code: impl.ExecGreat}} {
				wantEnded(t, s, entryWith(who, seq, run), someBoxes, doneWith(who, seq, impl.CertFailed, 0))
			}
			wantEnded(t, s, entryWith(who, seq, freshRun()), behindFresh, doneWith(who, seq, impl.CertDone, 205))
			wantEnded(t, s, entryWith(who, seq, blindRun()), behindBlind, doneWith(who, seq, impl.CertDone, 9))
			wantEnded(t, s, entryWith(who, seq, impl.Run{Val: -4}), someBoxes, doneWith(who, seq, impl.CertDone, -4))
		}
	}
}

// A run is stale for any one box that it looked into, and for no other one.
func TestCertApplyOfRunsThatLookedIntoEachBox(t *testing.T) {
	s := someState(t)
	vers := []int{10, 20, 30, 40}
	for box := range impl.BoxAll {
		for _, add := range []int{-10, -1, 1, 10} {
			run := impl.Run{Puts: []impl.Put{{Box: 3, Val: 9}}, Val: 9}
			for other, ver := range vers {
				if other == box {
					ver += add
				}
				run.Reads = append(run.Reads, impl.Read{Box: other, Ver: ver})
			}
			wantEnded(t, s, entryWith(2, 501, run), someBoxes, doneWith(2, 501, impl.CertStale, 0))
			run.Reads[box].Ver = vers[box]
			wantEnded(t, s, entryWith(2, 501, run), behindBlind, doneWith(2, 501, impl.CertDone, 9))
			run.Reads = slices.Delete(run.Reads, box, box+1)
			wantEnded(t, s, entryWith(2, 501, run), behindBlind, doneWith(2, 501, impl.CertDone, 9))
		}
	}
}

// What is put again with the same number is put all the same: who looked ahead of it is stale.
func TestCertApplyOfTheSameNumberPutAgain(t *testing.T) {
	s := someState(t)
	look := impl.ExecRun(s.Boxes, progOf(t, "load 0 1,put 2 0"))
	s, code := impl.CertApply(s, entryWith(0, 4, impl.ExecRun(s.Boxes, progOf(t, "load 0 1,put 1 0"))))
	if code != impl.CertDone || impl.BoxText(s.Boxes) != "100/10 200/21 300/30 -400/40" {
		t.Fatal(s, code)
	}
	wantEnded(t, s, entryWith(1, 11, look), impl.BoxText(s.Boxes), doneWith(1, 11, impl.CertStale, 0))
}

// A request has come to its end by an abort, too: with a run that could be done now it is no more than asked for again.
func TestARequestThatComesAgainBehindItsAbort(t *testing.T) {
	for _, aborted := range []struct {
		run  impl.Run
		code int
	}{{staleRun(), impl.CertStale}, {impl.Run{Code: impl.ExecFails}, impl.CertFailed}, {impl.Run{Code: impl.ExecGreat}, impl.CertFailed}} {
		for who := range 3 {
			s, code := impl.CertApply(someState(t), entryWith(who, 700, aborted.run))
			if code != aborted.code {
				t.Fatalf("%v ends with %d", aborted.run, code)
			}
			for _, run := range []impl.Run{freshRun(), blindRun(), {}, aborted.run, staleRun(), {Code: impl.ExecFails}} {
				wantLeft(t, s, entryWith(who, 700, run), impl.CertAgain)
				wantLeft(t, s, entryWith(who, 699, run), impl.CertOld)
			}
			wantEnded(t, s, entryWith(who, 701, freshRun()), behindFresh, doneWith(who, 701, impl.CertDone, 205))
		}
	}
}

// A run that looked at nothing is never stale, whatever was put since.
func TestARunThatLookedAtNothing(t *testing.T) {
	d := draws(8)
	for range 500 {
		s := impl.State{At: d.below(impl.CertSlots), Boxes: d.boxes()}
		for _, text := range []string{"", "num 0 5,put 1 0", "num 1 3,put 2 1,load 0 2", "put 0 0,put 1 0,put 2 0,put 3 0"} {
			run := impl.ExecRun(impl.BoxOpen(), progOf(t, text))
			after, val, _ := impl.SerialOne(s.Boxes, progOf(t, text))
			wantApply(t, s, entryWith(1, 1, run), impl.State{At: s.At + 1, Boxes: after, Dones: []impl.Done{doneWith(1, 1, impl.CertDone, val)}}, impl.CertDone)
		}
		for _, text := range []string{"fail", "num 0 5,put 1 0,fail", "num 0 1000000,add 0 0"} {
			run := impl.ExecRun(impl.BoxOpen(), progOf(t, text))
			wantApply(t, s, entryWith(1, 1, run), impl.State{At: s.At + 1, Boxes: s.Boxes, Dones: []impl.Done{doneWith(1, 1, impl.CertFailed, 0)}}, impl.CertFailed)
		}
	}
}

// A Ver that is BoxMax stays, so that a run that looked at it is fresh by its Ver, whatever was put since.
func TestCertApplyAtTheMostVer(t *testing.T) {
	s := impl.State{Boxes: boxesOf(t, "5/1000000 6/999999 0/0 0/0"), Dones: []impl.Done{doneWith(1, 1, 0, 0)}}
	both := impl.Run{Reads: []impl.Read{{Box: 0, Ver: impl.BoxMax}, {Box: 1, Ver: impl.BoxMax - 1}}, Puts: []impl.Put{{Box: 0, Val: 7}, {Box: 1, Val: 8}}, Val: 7}
	wantEnded(t, s, entryWith(1, 2, both), "7/1000000 8/1000000 0/0 0/0", doneWith(1, 2, impl.CertDone, 7))
	s, _ = impl.CertApply(s, entryWith(1, 2, both))
	wantEnded(t, s, entryWith(1, 3, both), impl.BoxText(s.Boxes), doneWith(1, 3, impl.CertStale, 0))
	one := impl.Run{Reads: both.Reads[:1], Puts: both.Puts[:1], Val: -1}
	wantEnded(t, s, entryWith(1, 3, one), "7/1000000 8/1000000 0/0 0/0", doneWith(1, 3, impl.CertDone, -1))
}

// behindEnd is the last requests of a set of nodes, behind one of a node.
func behindEnd(all []impl.Done, set int, end impl.Done) []impl.Done {
	var out []impl.Done
	for who, done := range all {
		switch {
		case who == end.Req.Who:
			out = append(out, end)
		case set>>who&1 == 1:
			out = append(out, done)
		}
	}
	return out
}

// The requests of the other nodes stay, and of each node, ascending, there is one at most.
func TestCertApplyKeepsTheOthers(t *testing.T) {
	all := someState(t).Dones
	for set := range 8 {
		s := impl.State{At: 9, Boxes: boxesOf(t, someBoxes)}
		for who, done := range all {
			if set>>who&1 == 1 {
				s.Dones = append(s.Dones, done)
			}
		}
		for who := range 3 {
			for _, c := range []struct {
				run   impl.Run
				boxes string
				end   impl.Done
			}{
				{freshRun(), behindFresh, doneWith(who, 800, impl.CertDone, 205)},
				{staleRun(), someBoxes, doneWith(who, 800, impl.CertStale, 0)},
				{impl.Run{Code: impl.ExecFails}, someBoxes, doneWith(who, 800, impl.CertFailed, 0)},
			} {
				want := impl.State{At: 10, Boxes: boxesOf(t, c.boxes), Dones: behindEnd(all, set, c.end)}
				wantApply(t, s, entryWith(who, 800, c.run), want, c.end.Code)
			}
		}
	}
}

// The numbers of requests at their bounds, and of one node beside those of another one.
func TestCertApplyOfNumbersOfRequests(t *testing.T) {
	s := impl.CertOpen()
	for _, c := range []struct{ who, seq, code int }{
		{1, 1, impl.CertDone}, {1, 1, impl.CertAgain}, {0, 1, impl.CertDone}, {2, 1000, impl.CertDone}, {2, 1000, impl.CertAgain}, {2, 999, impl.CertOld}, {2, 1, impl.CertOld},
		{1, 3, impl.CertDone}, {1, 2, impl.CertOld}, {1, 1, impl.CertOld}, {0, 2, impl.CertDone}, {0, 999, impl.CertDone}, {0, 1000, impl.CertDone}, {0, 1000, impl.CertAgain}, {1, 4, impl.CertDone},
	} {
		after, code := impl.CertApply(s, entryWith(c.who, c.seq, impl.Run{Val: c.seq}))
		if code != c.code || !impl.CertOk(after) || after.At != s.At+1 {
			t.Errorf("%v behind %v is %v, %d", c, s, after, code)
		}
		s = after
	}
	want := []impl.Done{doneWith(0, 1000, 0, 1000), doneWith(1, 4, 0, 4), doneWith(2, 1000, 0, 1000)}
	if !slices.Equal(s.Dones, want) {
		t.Errorf("at the end there are %v", s.Dones)
	}
}

// From any state and with any entry, as far as they are right, against the other CertApply.
func TestCertApplyIsWhatTheModelIs(t *testing.T) {
	states, entries := append(okStates(), someState(t)), okEntries()
	for _, s := range states {
		for _, e := range entries {
			if s.At < impl.CertSlots {
				want, code := applied(s, e)
				wantApply(t, s, e, want, code)
			}
		}
	}
}

func wantFold(t *testing.T, list []impl.Entry, want impl.State) {
	t.Helper()
	if got := impl.CertFold(list); !sameState(got, want) {
		t.Errorf("behind %v there is %v, not %v", list, got, want)
	}
}

func TestCertFoldOfNoEntries(t *testing.T) {
	wantFold(t, nil, impl.State{Boxes: impl.BoxOpen()})
	wantFold(t, []impl.Entry{}, impl.State{Boxes: impl.BoxOpen()})
}

func TestCertFold(t *testing.T) {
	five := impl.Run{Reads: []impl.Read{{Box: 1}}, Puts: []impl.Put{{Box: 1, Val: 5}}, Val: 5}
	list := []impl.Entry{
		entryWith(1, 1, five), entryWith(2, 1, five), {None: true}, entryWith(1, 1, blindRun()), entryWith(0, 4, blindRun()),
		entryWith(0, 3, blindRun()), entryWith(2, 1, blindRun()), entryWith(2, 2, impl.Run{Code: impl.ExecFails}), entryWith(1, 2, impl.Run{Val: -1}),
	}
	for size, c := range []struct {
		boxes string
		dones []impl.Done
	}{
		{"0/0 0/0 0/0 0/0", nil},
		{"0/0 5/1 0/0 0/0", []impl.Done{doneWith(1, 1, 0, 5)}},
		{"0/0 5/1 0/0 0/0", []impl.Done{doneWith(1, 1, 0, 5), doneWith(2, 1, 1, 0)}},
		{"0/0 5/1 0/0 0/0", []impl.Done{doneWith(1, 1, 0, 5), doneWith(2, 1, 1, 0)}},
		{"0/0 5/1 0/0 0/0", []impl.Done{doneWith(1, 1, 0, 5), doneWith(2, 1, 1, 0)}},
		{"0/0 5/1 0/0 9/1", []impl.Done{doneWith(0, 4, 0, 9), doneWith(1, 1, 0, 5), doneWith(2, 1, 1, 0)}},
		{"0/0 5/1 0/0 9/1", []impl.Done{doneWith(0, 4, 0, 9), doneWith(1, 1, 0, 5), doneWith(2, 1, 1, 0)}},
		{"0/0 5/1 0/0 9/1", []impl.Done{doneWith(0, 4, 0, 9), doneWith(1, 1, 0, 5), doneWith(2, 1, 1, 0)}},
		{"0/0 5/1 0/0 9/1", []impl.Done{doneWith(0, 4, 0, 9), doneWith(1, 1, 0, 5), doneWith(2, 2, 2, 0)}},
		{"0/0 5/1 0/0 9/1", []impl.Done{doneWith(0, 4, 0, 9), doneWith(1, 2, 0, -1), doneWith(2, 2, 2, 0)}},
	} {
		wantFold(t, list[:size], impl.State{At: size, Boxes: boxesOf(t, c.boxes), Dones: c.dones})
	}
}

// CertFold is CertApply of each entry, from CertOpen on, behind each of them.
func TestCertFoldIsCertApplyOneBehindTheOther(t *testing.T) {
	for seed := range 60 {
		d := asking{draws: draws(1000 + seed), states: []impl.State{impl.CertOpen()}, progs: map[impl.Req][]impl.Ins{}}
		want := impl.CertOpen()
		for range impl.CertSlots {
			e := d.next()
			want, _ = applied(want, e)
			after, _ := impl.CertApply(d.now(), e)
			d.list, d.states = append(d.list, e), append(d.states, after)
			wantFold(t, d.list, after)
			wantFold(t, d.list, want)
		}
	}
}

// countUp is entries of which each puts one more than the one ahead of it.
func countUp(size int) []impl.Entry {
	var out []impl.Entry
	for place := range size {
		run := impl.Run{Reads: []impl.Read{{Box: 2, Ver: place}}, Puts: []impl.Put{{Box: 2, Val: 10 + place}}, Val: 10 + place}
		out = append(out, entryWith(place%3, 1+place, run))
	}
	return out
}

func TestCertFoldOfAsManyAsMayBe(t *testing.T) {
	for _, size := range []int{1, 39, 40} {
		got := impl.CertFold(countUp(size))
		if got.At != size || !slices.Equal(got.Boxes, zerosBut(2, impl.Box{Ver: size, Val: 9 + size})) || !impl.CertOk(got) {
			t.Errorf("behind %d there is %v", size, got)
		}
		wantFold(t, slices.Repeat([]impl.Entry{{None: true}}, size), impl.State{At: size, Boxes: impl.BoxOpen()})
	}
	for _, size := range []int{41, 42, 80, 1 << 12} {
		wantFold(t, countUp(size), impl.State{})
		wantFold(t, slices.Repeat([]impl.Entry{{None: true}}, size), impl.State{})
	}
}

func TestCertFoldOfEntriesThatAreNotRight(t *testing.T) {
	for _, bad := range badEntries() {
		wantFold(t, []impl.Entry{bad}, impl.State{})
		for _, size := range []int{2, 3, 40, 41} {
			for _, place := range []int{0, 1, size / 2, size - 1} {
				list := countUp(size)
				list[place] = bad
				wantFold(t, list, impl.State{})
			}
		}
	}
	// An entry that turns nothing, as it came again or is old, must be right all the same.
	fine, wrong := countUp(4), impl.Run{Code: impl.ExecForm}
	wantFold(t, append(fine, entryWith(0, 4, wrong)), impl.State{})
	wantFold(t, append(fine, entryWith(0, 1, wrong)), impl.State{})
}

// spoilState writes over all lists of a state and their spare room, as its owner may.
func spoilState(s impl.State) {
	fill(s.Boxes)
	overwrite(s.Dones, doneWith(77, 77, 77, 77))
}

// eachEnd is an entry behind someState for each code.
func eachEnd() []impl.Entry {
	return []impl.Entry{entryWith(1, 11, freshRun()), entryWith(1, 11, blindRun()), entryWith(1, 11, impl.Run{}), entryWith(1, 11, staleRun()), entryWith(1, 11, impl.Run{Code: impl.ExecFails}), entryWith(1, 10, freshRun()), entryWith(1, 9, freshRun()), {None: true}}
}

func TestCertOpenIsNewMemory(t *testing.T) {
	first, second := impl.CertOpen(), impl.CertOpen()
	spoilState(first)
	want := impl.State{Boxes: make([]impl.Box, impl.BoxAll)}
	if !sameState(second, want) || !sameState(impl.CertOpen(), want) {
		t.Error("what is written into one answer of CertOpen shows in another")
	}
	wantFold(t, nil, want)
}

func TestCertApplyIsNewMemory(t *testing.T) {
	for _, e := range eachEnd() {
		for size := range 4 {
			s := someState(t)
			s.Dones = s.Dones[:size:size]
			wasState, wasEntry := cloneState(s), cloneEntry(e)
			first, code := impl.CertApply(s, e)
			second, _ := impl.CertApply(s, e)
			was := cloneState(first)
			spoilState(first)
			wantApply(t, s, e, was, code)
			if !sameState(second, was) || !sameState(s, wasState) || !sameEntry(e, wasEntry) {
				t.Errorf("of %v: what is written into one answer shows elsewhere", e)
			}
			spoilState(s)
			spoil(e.Run)
			if !sameState(second, was) {
				t.Errorf("of %v: what is written into an argument shows in an answer", wasEntry)
			}
			e = wasEntry
		}
	}
}

// Each list of an answer is written over alone: the other one stays as it was.
func TestCertListsShareNoMemory(t *testing.T) {
	for _, e := range eachEnd() {
		got, _ := impl.CertApply(someState(t), e)
		was := cloneState(got)
		fill(got.Boxes)
		if !slices.Equal(got.Dones, was.Dones) {
			t.Errorf("of %v: Dones are written by Boxes", e)
		}
		got, _ = impl.CertApply(someState(t), e)
		overwrite(got.Dones, doneWith(77, 77, 77, 77))
		if !slices.Equal(got.Boxes, was.Boxes) {
			t.Errorf("of %v: Boxes are written by Dones", e)
		}
	}
}

func TestCertFoldIsNewMemory(t *testing.T) {
	for size := range 6 {
		list := countUp(size)
		first, second := impl.CertFold(list), impl.CertFold(list)
		was := cloneState(first)
		spoilState(first)
		wantFold(t, list, was)
		for _, e := range list {
			spoil(e.Run)
		}
		overwrite(list, impl.Entry{None: true})
		if !sameState(second, was) {
			t.Errorf("behind %d: what is written elsewhere shows in an answer: %v", size, second)
		}
	}
}

// Each list of an argument is a part of a longer one, ahead of and behind which nothing may be written either.
func TestCertArgumentsAreNotWritten(t *testing.T) {
	d := draws(25)
	for range 300 {
		boxes, dones := slices.Concat(d.boxes(), d.boxes(), d.boxes()), slices.Repeat(someState(t).Dones, 3)
		reads := []impl.Read{{Box: 3, Ver: 1}, {Box: 2, Ver: boxes[6].Ver}, {Box: 1, Ver: boxes[5].Ver}, {Box: 0, Ver: 4}}
		puts := []impl.Put{{Box: 2, Val: 1}, {Box: 3, Val: 2}, {Box: 0, Val: 3}, {Box: 1, Val: 4}}
		list := append(countUp(4), entryWith(1, 11+d.below(5), impl.Run{Reads: reads[1:3], Puts: puts[1:3], Val: 5}), entryWith(0, 1, impl.Run{Reads: reads, Puts: puts}), impl.Entry{None: true}, impl.Entry{})
		wasBoxes, wasDones, wasReads, wasPuts, wasList := slices.Clone(boxes), slices.Clone(dones), slices.Clone(reads), slices.Clone(puts), cloneEntries(list)
		for _, s := range []impl.State{{Boxes: boxes[4:8], Dones: dones[3:6]}, {Boxes: boxes[4:8], Dones: dones[3:5]}, {Boxes: boxes[4:8], Dones: dones[:0]}, {Boxes: boxes[:3], Dones: dones[:2]}, {Boxes: boxes, Dones: dones}} {
			impl.CertOk(s)
			impl.CertSame(s, impl.State{Boxes: boxes[:4], Dones: dones[:3]})
			for _, e := range list {
				impl.CertEntry(e)
				impl.CertLike(e, list[4])
				impl.CertApply(s, e)
			}
		}
		for size := range len(list) + 1 {
			impl.CertFold(list[:size])
			impl.CertFold(list[size:])
		}
		if !slices.Equal(boxes, wasBoxes) || !slices.Equal(dones, wasDones) || !slices.Equal(reads, wasReads) || !slices.Equal(puts, wasPuts) || !slices.EqualFunc(list, wasList, sameEntry) {
			t.Fatalf("arguments are %v, %v, %v", boxes, dones, list)
		}
	}
}

// What stands behind the end of an argument turns no answer.
func TestCertAnswersHangOnTheListsAlone(t *testing.T) {
	s := someState(t)
	s.Boxes = append(s.Boxes, impl.Box{Ver: -1}, impl.Box{Val: 7})[:impl.BoxAll]
	s.Dones = append(s.Dones[:2:2], doneWith(0, 1000, 0, 1), doneWith(9, 9, 9, 9))[:2]
	run := freshRun()
	run.Reads = append(run.Reads, impl.Read{Box: 1, Ver: 7}, impl.Read{Box: 9})[:1]
	run.Puts = append(run.Puts, impl.Put{Box: 1, Val: 7}, impl.Put{Box: 9})[:2]
	if !impl.CertOk(s) || !impl.CertEntry(entryWith(0, 4, run)) || !impl.CertLike(entryWith(0, 4, run), entryWith(0, 4, freshRun())) || !impl.CertSame(s, cloneState(s)) {
		t.Error(s, run)
	}
	wantEnded(t, s, entryWith(0, 4, run), behindFresh, doneWith(0, 4, impl.CertDone, 205))
	list := append(countUp(3), impl.Entry{}, entryWith(0, 0, run))
	wantFold(t, list[:3], impl.CertFold(countUp(3)))
}
