package tests

import (
	"cmp"
	"reflect"
	"slices"
	"testing"

	"loop.example/thingstead/impl"
)

// sameNode holds nodes against each other in all parts.
func sameNode(a impl.Node, b impl.Node) bool {
	stays := a.Id == b.Id && sameAcc(a.Acc, b.Acc) && sameEntries(a.Known, b.Known) && a.Seq == b.Seq
	leads := a.Phase == b.Phase && a.Bal == b.Bal && slices.Equal(a.From, b.From) && sameVotes(a.Best, b.Best) && sameEntry(a.Cur, b.Cur) && slices.Equal(a.Votes, b.Votes)
	return stays && leads && a.Busy == b.Busy && slices.Equal(a.Prog, b.Prog) && sameEntry(a.Want, b.Want) && sameEntries(a.Queue, b.Queue)
}

func sameEntries(a []impl.Entry, b []impl.Entry) bool {
	return slices.EqualFunc(a, b, sameEntry)
}

func cloneNode(n impl.Node) impl.Node {
	n.Acc, n.Known, n.Queue = cloneAcc(n.Acc), cloneEntries(n.Known), cloneEntries(n.Queue)
	n.From, n.Votes, n.Prog = slices.Clone(n.From), slices.Clone(n.Votes), slices.Clone(n.Prog)
	n.Best, n.Cur, n.Want = cloneVotes(n.Best), cloneEntry(n.Cur), cloneEntry(n.Want)
	return n
}

// flat is a node that is turned part by part, as the document's words go: another NodeAsk, NodeRise, NodeTake, NodeRetry and NodeFall.
type flat struct {
	impl.Node
	sent []impl.Msg
	told []impl.Told
}

func (f *flat) back(m impl.Msg, answer impl.Msg) {
	answer.From, answer.To = f.Id, m.From
	f.sent = append(f.sent, answer)
}

func (f *flat) all(m impl.Msg) {
	others := [][]int{{1, 2}, {0, 2}, {0, 1}}[f.Id]
	for _, other := range others {
		f.back(impl.Msg{From: other}, m)
	}
}

func (f *flat) itself() []bool {
	return []bool{f.Id == 0, f.Id == 1, f.Id == 2}
}

func (f *flat) follows() {
	f.Phase, f.Bal, f.From, f.Best, f.Cur, f.Votes = 0, 0, nil, nil, impl.Entry{}, nil
}

func (f *flat) ended(e impl.Entry) bool {
	return slices.ContainsFunc(f.Known, func(known impl.Entry) bool { return !known.None && known.Req == e.Req })
}

func (f *flat) yields(bal int) {
	if f.Phase != 0 && bal > f.Bal {
		f.follows()
	}
}

func (f *flat) proposal(place int) (impl.Entry, bool) {
	if voteAt(f.Best, place).Bal > 0 {
		return f.Best[place].Entry, true
	}
	for slot, vote := range f.Best {
		if slot > place && vote.Bal > 0 {
			return noneEntry(), true
		}
	}
	if f.Busy && !f.ended(f.Want) {
		return f.Want, true
	}
	queue := f.Queue
	f.Queue = nil
	for at, e := range queue {
		if !f.ended(e) {
			f.Queue = queue[at+1:]
			return e, true
		}
	}
	return impl.Entry{}, false
}

func (f *flat) proposes() {
	place := len(f.Known)
	if f.Phase != 2 || place >= 40 {
		return
	}
	e, ok := f.proposal(place)
	if !ok {
		return
	}
	acc, ok := impl.AccVote(f.Acc, f.Bal, place, e)
	if !ok {
		f.follows()
		return
	}
	f.Acc, f.Phase, f.Cur, f.Votes = acc, 3, e, f.itself()
	f.all(impl.Msg{Kind: 3, Bal: f.Bal, Slot: place, Entry: e})
}

// firstEnd is how the first entry of a request ended, by the other CertApply; -1, if there is none.
func firstEnd(list []impl.Entry, req impl.Req) (int, int) {
	state := impl.CertOpen()
	for _, e := range list {
		after, code := applied(state, e)
		if !e.None && e.Req == req {
			if code == 0 {
				return code, e.Run.Val
			}
			return code, 0
		}
		state = after
	}
	return -1, 0
}

func (f *flat) learns(e impl.Entry) {
	f.Known = append(slices.Clone(f.Known), e)
	if f.Phase == 3 {
		f.Phase, f.Cur, f.Votes = 2, impl.Entry{}, nil
	}
	if f.Busy && f.ended(f.Want) {
		code, val := firstEnd(f.Known, f.Want.Req)
		f.told = append(f.told, impl.Told{Node: f.Id, Req: f.Want.Req, Code: code, Val: val})
		f.Busy, f.Prog, f.Want = false, nil, impl.Entry{}
	}
	f.proposes()
}

func (f *flat) ask(prog []impl.Ins) {
	if f.Busy || f.Seq == 1000 || !impl.ProgOk(prog) {
		return
	}
	f.Seq++
	f.Busy, f.Prog = true, prog
	f.Want = entryWith(f.Id, f.Seq, impl.ExecRun(impl.CertFold(f.Known).Boxes, prog))
	switch f.Phase {
	case 0:
		f.all(impl.Msg{Kind: 7, Entry: f.Want})
	case 2:
		f.proposes()
	}
}

func (f *flat) rise() {
	bal := impl.AccNext(f.Acc.Promised, f.Id)
	if bal == -1 {
		return
	}
	f.follows()
	f.Acc.Promised, f.Bal, f.Phase = bal, bal, 1
	f.From, f.Best = f.itself(), f.Acc.Votes
	f.all(impl.Msg{Kind: 1, Bal: bal, Slot: len(f.Known)})
}

func (f *flat) retry() {
	f.all(impl.Msg{Kind: 8, Slot: len(f.Known)})
	switch {
	case f.Phase == 1:
		f.all(impl.Msg{Kind: 1, Bal: f.Bal, Slot: len(f.Known)})
	case f.Phase == 2:
		f.proposes()
	case f.Phase == 3:
		f.all(impl.Msg{Kind: 3, Bal: f.Bal, Slot: len(f.Known), Entry: f.Cur})
	case f.Busy:
		f.all(impl.Msg{Kind: 7, Entry: f.Want})
	}
}

func (f *flat) take(m impl.Msg) {
	if !fits(m) || m.To != f.Id {
		return
	}
	switch m.Kind {
	case 1, 3:
		f.asked(m)
	case 2:
		f.promised(m)
	case 4:
		f.accepted(m)
	case 5:
		f.chosen(m)
	case 6:
		f.Acc.Promised = max(f.Acc.Promised, m.Bal)
		f.yields(m.Bal)
	case 7:
		if f.Phase != 0 && len(f.Queue) < 4 && !f.ended(m.Entry) {
			f.Queue = append(slices.Clone(f.Queue), m.Entry)
			f.proposes()
		}
	case 8:
		for slot := range f.Known {
			if slot >= m.Slot {
				f.back(m, impl.Msg{Kind: 5, Slot: slot, Entry: f.Known[slot]})
			}
		}
	}
}

func (f *flat) asked(m impl.Msg) {
	if m.Bal < f.Acc.Promised {
		f.back(m, impl.Msg{Kind: 6, Bal: f.Acc.Promised})
		return
	}
	f.yields(m.Bal)
	if m.Kind == 3 {
		f.Acc = voted(f.Acc, m.Bal, m.Slot, m.Entry)
		f.back(m, impl.Msg{Kind: 4, Bal: m.Bal, Slot: m.Slot})
		return
	}
	f.Acc.Promised = m.Bal
	answer := impl.Msg{Kind: 2, Bal: m.Bal, Slot: m.Slot}
	for slot, vote := range f.Acc.Votes {
		if slot >= m.Slot {
			answer.Votes = append(answer.Votes, vote)
		}
	}
	f.back(m, answer)
}

func (f *flat) promised(m impl.Msg) {
	if f.Phase != 1 || m.Bal != f.Bal {
		return
	}
	f.From[m.From] = true
	f.Best = best(f.Best, append(make([]impl.Vote, m.Slot), m.Votes...))
	f.Phase, f.From = 2, nil // with itself there are two
	f.proposes()
}

func (f *flat) accepted(m impl.Msg) {
	if f.Phase != 3 || m.Bal != f.Bal || m.Slot != len(f.Known) {
		return
	}
	f.all(impl.Msg{Kind: 5, Slot: m.Slot, Entry: f.Cur}) // with its own there are two votes
	f.learns(f.Cur)
}

func (f *flat) chosen(m impl.Msg) {
	switch {
	case m.Slot > len(f.Known):
		f.back(m, impl.Msg{Kind: 8, Slot: len(f.Known)})
	case m.Slot == len(f.Known):
		f.learns(m.Entry)
	}
}

// deed is something that a node is to do.
type deed struct {
	name string
	prog []impl.Ins
	msg  impl.Msg
}

var (
	rises   = deed{name: "rise"}
	retries = deed{name: "retry"}
	falls   = deed{name: "fall"}
)

func asks(prog []impl.Ins) deed {
	return deed{name: "ask", prog: prog}
}

func takes(m impl.Msg) deed {
	return deed{name: "take", msg: m}
}

// by is what the program's own functions answer; those that send or tell nothing by their types answer that as nothing.
func (d deed) by(n impl.Node) (impl.Node, []impl.Msg, []impl.Told) {
	switch d.name {
	case "ask":
		return impl.NodeAsk(n, d.prog)
	case "rise":
		after, sent := impl.NodeRise(n)
		return after, sent, nil
	case "take":
		return impl.NodeTake(n, d.msg)
	case "retry":
		return impl.NodeRetry(n)
	}
	return impl.NodeFall(n), nil, nil
}

// byFlat is the same as the document's words go.
func (d deed) byFlat(n impl.Node) (impl.Node, []impl.Msg, []impl.Told) {
	if !nodeFits(n) {
		return impl.Node{}, nil, nil
	}
	f := flat{Node: cloneNode(n)}
	switch d.name {
	case "ask":
		f.ask(d.prog)
	case "rise":
		f.rise()
	case "take":
		f.take(d.msg)
	case "retry":
		f.retry()
	case "fall":
		f.Node = impl.Node{Id: f.Id, Acc: f.Acc, Known: f.Known, Seq: f.Seq}
	}
	return f.Node, f.sent, f.told
}

// nodeFits is another NodeOk.
func nodeFits(n impl.Node) bool {
	right := func(e impl.Entry) bool { return impl.CertEntry(e) }
	request := func(e impl.Entry) bool { return impl.CertEntry(e) && !e.None }
	switch {
	case n.Id < 0, n.Id > 2, n.Seq < 0, n.Seq > 1000, !impl.AccOk(n.Acc):
		return false
	case len(n.Known) > 40, !all(n.Known, right), len(n.Queue) > 4, !all(n.Queue, request):
		return false
	case !n.Busy && (len(n.Prog) > 0 || !sameEntry(n.Want, impl.Entry{})):
		return false
	case n.Busy && (!impl.ProgOk(n.Prog) || !request(n.Want) || n.Want.Req != impl.Req{Who: n.Id, Seq: n.Seq}):
		return false
	}
	has := map[int]string{0: "follows", 1: "prepares", 2: "leads", 3: "asks"}[n.Phase]
	if has == "" || has == "follows" {
		return has != "" && n.Bal == 0 && len(n.Best) == 0 && len(n.From) == 0 && len(n.Votes) == 0 && sameEntry(n.Cur, impl.Entry{})
	}
	marks := func(list []bool, there bool) bool {
		return !there && len(list) == 0 || there && len(list) == 3 && list[n.Id]
	}
	cur := has == "asks" && right(n.Cur) && len(n.Known) < 40 || has != "asks" && sameEntry(n.Cur, impl.Entry{})
	own := impl.AccOwner(n.Bal) == n.Id && n.Bal <= n.Acc.Promised && impl.AccOk(impl.Acc{Promised: 3000, Votes: n.Best})
	return own && cur && marks(n.From, has == "prepares") && marks(n.Votes, has == "asks")
}

func all[T any](list []T, fits func(T) bool) bool {
	return !slices.ContainsFunc(list, func(one T) bool { return !fits(one) })
}

// wantDeed wants of a deed what the document's words say, and is what it is: nothing is written into an argument or behind its end, and no two lists share memory.
func wantDeed(t *testing.T, n impl.Node, d deed) (impl.Node, []impl.Msg, []impl.Told) {
	t.Helper()
	roomy, in := roomyCopy(n), d
	in.prog, in.msg = roomyCopy(d.prog), roomyCopy(d.msg)
	given := []any{&roomy, &in.prog, &in.msg}
	was := wholeOf(given)
	after, sent, told := in.by(roomy)
	if !sameWhole(wholeOf(given), was) {
		t.Errorf("%v to do %v writes into it", n, d)
	}
	want, wantSent, wantTold := d.byFlat(n)
	if !sameNode(after, want) || !slices.EqualFunc(sent, wantSent, sameMsg) || !slices.Equal(told, wantTold) {
		t.Fatalf("%v\nto do %v\nis %v\nnot %v,\nand sends %v\nnot %v,\nand tells %v\nnot %v", n, d, after, want, sent, wantSent, told, wantTold)
	}
	if impl.NodeOk(n) && !impl.NodeOk(after) {
		t.Errorf("%v to do %v is %v, which is not ok", n, d, after)
	}
	for _, m := range sent {
		if !impl.MsgOk(m) || m.From != n.Id {
			t.Errorf("%v to do %v sends %v", n, d, m)
		}
	}
	wantApart(t, []any{&after, &sent, &told}, given)
	return after, sent, told
}

// roomyCopy is a value of which each list has spare room, with something in it.
func roomyCopy[T any](v T) T {
	out := reflect.New(reflect.TypeOf(&v).Elem()).Elem()
	out.Set(copyOf(reflect.ValueOf(&v).Elem(), 3))
	return out.Interface().(T)
}

// copyOf is a value in memory of its own, with more room behind each list.
func copyOf(v reflect.Value, more int) reflect.Value {
	out := reflect.New(v.Type()).Elem()
	switch v.Kind() {
	case reflect.Struct:
		for i := range v.NumField() {
			out.Field(i).Set(copyOf(v.Field(i), more))
		}
	case reflect.Slice:
		list := reflect.MakeSlice(v.Type(), v.Len()+more, v.Len()+more)
		for i := range list.Len() {
			if i < v.Len() {
				list.Index(i).Set(copyOf(v.Index(i), more))
			} else {
				litter(list.Index(i))
			}
		}
		out.Set(list.Slice(0, v.Len()))
	default:
		out.Set(v)
	}
	return out
}

// litter writes something into each part of a value that is no list.
func litter(v reflect.Value) {
	switch v.Kind() {
	case reflect.Struct:
		for i := range v.NumField() {
			litter(v.Field(i))
		}
	case reflect.Int:
		v.SetInt(77)
	case reflect.Bool:
		v.SetBool(true)
	}
}

// wholeOf is copies of what pointers point to, with the spare room of each list as a part of it.
func wholeOf(pointers []any) []any {
	var out []any
	for _, p := range pointers {
		out = append(out, widened(reflect.ValueOf(p).Elem()).Interface())
	}
	return out
}

func widened(v reflect.Value) reflect.Value {
	out := reflect.New(v.Type()).Elem()
	switch v.Kind() {
	case reflect.Struct:
		for i := range v.NumField() {
			out.Field(i).Set(widened(v.Field(i)))
		}
	case reflect.Slice:
		for i := range v.Cap() {
			out.Set(reflect.Append(out, widened(v.Slice(0, v.Cap()).Index(i))))
		}
	default:
		out.Set(v)
	}
	return out
}

// memory is where a list is, with its spare room.
type memory struct {
	from uintptr
	to   uintptr
}

// memoryOf is where all lists are that pointers lead to.
func memoryOf(pointers []any) []memory {
	var out []memory
	for _, p := range pointers {
		out = memoryIn(out, reflect.ValueOf(p).Elem())
	}
	return out
}

func memoryIn(out []memory, v reflect.Value) []memory {
	switch v.Kind() {
	case reflect.Struct:
		for i := range v.NumField() {
			out = memoryIn(out, v.Field(i))
		}
	case reflect.Slice:
		if v.Cap() > 0 {
			out = append(out, memory{v.Pointer(), v.Pointer() + uintptr(v.Cap())*v.Type().Elem().Size()})
		}
		for i := range v.Len() {
			out = memoryIn(out, v.Index(i))
		}
	}
	return out
}

// wantApart wants of all lists of answers that they share no memory, neither with one another nor with an argument.
func wantApart(t *testing.T, answers []any, given []any) {
	t.Helper()
	lists := memoryOf(answers)
	own := make([]bool, len(lists))
	for place := range own {
		own[place] = true
	}
	lists = append(lists, memoryOf(given)...)
	own = append(own, make([]bool, len(lists)-len(own))...)
	order := countOf(len(lists))
	slices.SortFunc(order, func(a int, b int) int { return cmp.Compare(lists[a].from, lists[b].from) })
	var end, ownEnd uintptr // where what begins before ends: all lists, and those of answers
	for _, place := range order {
		list := lists[place]
		if list.from < ownEnd || own[place] && list.from < end {
			t.Errorf("two lists share memory: of %v", answers[0])
			return
		}
		end = max(end, list.to)
		if own[place] {
			ownEnd = max(ownEnd, list.to)
		}
	}
}

func countOf(size int) []int {
	out := make([]int, size)
	for place := range out {
		out[place] = place
	}
	return out
}

func sameWhole(a []any, b []any) bool {
	return reflect.DeepEqual(a, b)
}
