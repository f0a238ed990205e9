package tests

import (
	"fmt"
	"math/rand"
	"slices"
	"testing"

	"loop.example/g00670/impl"
)

// Promise 12: the selected path exists and is down only if all are; operations keep
// paths valid, and an added address can be removed.

func copiedPaths(p impl.Paths) impl.Paths {
	return impl.Paths{List: slices.Clone(p.List), First: p.First}
}

func equalPath(a impl.Path, b impl.Path) bool {
	return a.Addr == b.Addr && a.Errors == b.Errors && a.Rto == b.Rto && a.Down == b.Down
}

func equalPaths(a impl.Paths, b impl.Paths) bool {
	return a.First == b.First && slices.EqualFunc(a.List, b.List, equalPath)
}

func equalPathsResults(a impl.PathsResult, b impl.PathsResult) bool {
	return a.Code == b.Code && equalPaths(a.Paths, b.Paths) && slices.Equal(a.Codes, b.Codes)
}

func isAddrElsewhere(n int64) bool {
	return n != 0 && n == int64(uint8(n))
}

// newPath is a path as it is at first.
func newPath(addr int64) impl.Path {
	return impl.Path{Addr: addr, Rto: 100}
}

func newPaths(addrs ...int64) impl.Paths {
	p := impl.Paths{First: addrs[0]}
	for _, addr := range addrs {
		p.List = append(p.List, newPath(addr))
	}
	return p
}

// downPaths are paths of which those at some places are down.
func downPaths(p impl.Paths, places ...int) impl.Paths {
	own := copiedPaths(p)
	for _, place := range places {
		own.List[place].Errors, own.List[place].Rto, own.List[place].Down = 4, 1600, true
	}
	return own
}

func opAdd(addr int64) impl.AddrOp {
	return impl.AddrOp{Kind: 1, Addr: addr}
}

func opDel(addr int64) impl.AddrOp {
	return impl.AddrOp{Kind: 2, Addr: addr}
}

func opFirst(addr int64) impl.AddrOp {
	return impl.AddrOp{Kind: 3, Addr: addr}
}

func addrsElsewhere(p impl.Paths) []int64 {
	list := make([]int64, len(p.List))
	for i := range p.List {
		list[i] = p.List[i].Addr
	}
	return list
}

func pathsFaultElsewhere(p impl.Paths) int64 {
	if count := len(p.List); count < 1 || count > 5 {
		return impl.ErrMany
	}
	seen := map[int64]bool{}
	for _, path := range p.List {
		switch {
		case !isAddrElsewhere(path.Addr), path.Errors < 0, path.Errors > 4, path.Rto < 100, path.Rto > 1600:
			return impl.ErrRange
		case seen[path.Addr]:
			return impl.ErrTaken
		case path.Down && path.Errors < 4, !path.Down && path.Errors == 4:
			return impl.ErrState
		}
		seen[path.Addr] = true
	}
	if !seen[p.First] {
		return impl.ErrNone
	}
	return impl.OK
}

func newPathsElsewhere(addrs []int64) impl.PathsResult {
	if len(addrs) < 1 || len(addrs) > 5 {
		return impl.PathsResult{Code: impl.ErrMany}
	}
	seen := map[int64]bool{}
	for _, addr := range addrs {
		if !isAddrElsewhere(addr) {
			return impl.PathsResult{Code: impl.ErrRange}
		}
		if seen[addr] {
			return impl.PathsResult{Code: impl.ErrTaken}
		}
		seen[addr] = true
	}
	return impl.PathsResult{Paths: newPaths(addrs...)}
}

// pickElsewhere looks for the primary address first, and then for any.
func pickElsewhere(p impl.Paths) int64 {
	for _, path := range p.List {
		if path.Addr == p.First && !path.Down {
			return p.First
		}
	}
	for _, path := range p.List {
		if !path.Down {
			return path.Addr
		}
	}
	return p.First
}

func noteElsewhere(p impl.Paths, addr int64, good bool) impl.PathsResult {
	if code := pathsFaultElsewhere(p); code != impl.OK {
		return impl.PathsResult{Code: code}
	}
	want := impl.PathsResult{Code: impl.ErrNone}
	own := copiedPaths(p)
	for i, path := range p.List {
		if path.Addr != addr {
			continue
		}
		want.Code = impl.OK
		if good {
			own.List[i] = newPath(addr)
			continue
		}
		if path.Errors < 4 {
			path.Errors++
		}
		if path.Rto += path.Rto; path.Rto > 1600 {
			path.Rto = 1600
		}
		path.Down = path.Errors == 4
		own.List[i] = path
	}
	if want.Code == impl.OK {
		want.Paths = own
	}
	return want
}

func opCodeElsewhere(p impl.Paths, o impl.AddrOp) int64 {
	there := slices.Contains(addrsElsewhere(p), o.Addr)
	switch {
	case o.Kind < 1 || o.Kind > 3 || !isAddrElsewhere(o.Addr):
		return impl.ErrRange
	case o.Kind == 1 && there:
		return impl.ErrTaken
	case o.Kind == 1 && len(p.List) == 5:
		return impl.ErrFull
	case o.Kind != 1 && !there:
		return impl.ErrNone
	case o.Kind == 2 && o.Addr == p.First:
		return impl.ErrState
	}
	return impl.OK
}

func applyElsewhere(p impl.Paths, o impl.AddrOp) impl.PathsResult {
	for _, code := range []int64{pathsFaultElsewhere(p), opCodeElsewhere(p, o)} {
		if code != impl.OK {
			return impl.PathsResult{Code: code}
		}
	}
	own := copiedPaths(p)
	switch o.Kind {
	case 1:
		own.List = append(own.List, newPath(o.Addr))
	case 2:
		own.List = slices.DeleteFunc(own.List, func(path impl.Path) bool { return path.Addr == o.Addr })
	case 3:
		own.First = o.Addr
	}
	return impl.PathsResult{Paths: own}
}

func foldElsewhere(p impl.Paths, list []impl.AddrOp) impl.PathsResult {
	if code := pathsFaultElsewhere(p); code != impl.OK {
		return impl.PathsResult{Code: code}
	}
	if len(list) > 40 {
		return impl.PathsResult{Code: impl.ErrMany}
	}
	want := impl.PathsResult{Paths: p}
	for _, o := range list {
		after := applyElsewhere(want.Paths, o)
		want.Codes = append(want.Codes, after.Code)
		if after.Code == impl.OK {
			want.Paths = after.Paths
		}
	}
	return want
}

// wantInOrder wants the paths to be valid, and one of them to be picked.
func wantInOrder(t *testing.T, p impl.Paths) {
	t.Helper()
	if code := impl.PathsFault(p); code != impl.OK {
		t.Errorf("the fault of %+v is %d", p, code)
	}
	if got := impl.AddrsOf(p); got.Code != impl.OK || !slices.Equal(got.List, addrsElsewhere(p)) {
		t.Errorf("AddrsOf(%+v) = %+v", p, got)
	}
	picked := impl.PickPath(p)
	if picked != (impl.IntResult{Value: pickElsewhere(p)}) {
		t.Errorf("PickPath(%+v) = %+v, want %d", p, picked, pickElsewhere(p))
	}
	isPicked := func(path impl.Path) bool { return path.Addr == picked.Value }
	isUp := func(path impl.Path) bool { return !path.Down }
	place := slices.IndexFunc(p.List, isPicked)
	if place < 0 || p.List[place].Down && slices.ContainsFunc(p.List, isUp) {
		t.Errorf("PickPath(%+v) = %+v, which is not there or down", p, picked)
	}
	if !impl.SamePaths(p, copiedPaths(p)) {
		t.Errorf("%+v are not the same as a copy", p)
	}
}

// wantPaths compares a result. Paths in it must be in order.
func wantPaths(t *testing.T, p any, got impl.PathsResult, want impl.PathsResult, call string, args ...any) {
	t.Helper()
	if !equalPathsResults(got, want) {
		t.Errorf("%s(%+v, %+v) = %+v, want %+v", call, p, args, got, want)
		return
	}
	if want.Code == impl.OK {
		wantInOrder(t, got.Paths)
	}
}

func wantNew(t *testing.T, addrs []int64, want impl.PathsResult) {
	t.Helper()
	wantPaths(t, addrs, impl.NewPaths(addrs), want, "NewPaths")
}

// wantNoted returns the paths after the note.
func wantNoted(t *testing.T, p impl.Paths, addr int64, good bool, want impl.PathsResult) impl.Paths {
	t.Helper()
	got := impl.NotePath(p, addr, good)
	wantPaths(t, p, got, want, "NotePath", addr, good)
	return got.Paths
}

// wantFolded returns the paths after the operations.
func wantFolded(t *testing.T, p impl.Paths, list []impl.AddrOp, want impl.PathsResult) impl.Paths {
	t.Helper()
	got := impl.FoldOps(p, list)
	wantPaths(t, p, got, want, "FoldOps", list)
	return got.Paths
}

// wantApplied returns the paths after the operation, also if it has a code. It must be
// the same if it is the only one of a list.
func wantApplied(t *testing.T, p impl.Paths, o impl.AddrOp, want impl.PathsResult) impl.Paths {
	t.Helper()
	wantPaths(t, p, impl.ApplyOp(p, o), want, "ApplyOp", o)
	after := impl.PathsResult{Paths: want.Paths, Codes: []int64{want.Code}}
	if want.Code != impl.OK {
		after.Paths = p
	}
	return wantFolded(t, p, []impl.AddrOp{o}, after)
}

func wantNotApplied(t *testing.T, p impl.Paths, o impl.AddrOp, code int64) {
	t.Helper()
	wantApplied(t, p, o, impl.PathsResult{Code: code})
}

// wantPathsFault also wants that nothing else is done with faulty paths.
func wantPathsFault(t *testing.T, p impl.Paths, want int64) {
	t.Helper()
	if got := impl.PathsFault(p); got != want {
		t.Errorf("PathsFault(%+v) = %d, want %d", p, got, want)
	}
	if want == impl.OK {
		wantInOrder(t, p)
		return
	}
	if got := impl.PickPath(p); got != (impl.IntResult{Code: want}) {
		t.Errorf("PickPath(%+v) = %+v, want the code %d and the value 0", p, got, want)
	}
	if got := impl.AddrsOf(p); got.Code != want || len(got.List) != 0 {
		t.Errorf("AddrsOf(%+v) = %+v, want the code %d and no list", p, got, want)
	}
	refused := impl.PathsResult{Code: want}
	for _, addr := range []int64{p.First, 7, 0, 256} {
		wantNoted(t, p, addr, true, refused)
		wantNoted(t, p, addr, false, refused)
		for kind := range int64(5) {
			o := impl.AddrOp{Kind: kind, Addr: addr}
			wantPaths(t, p, impl.ApplyOp(p, o), refused, "ApplyOp", o)
			wantFolded(t, p, []impl.AddrOp{o}, refused)
			wantFolded(t, p, slices.Repeat([]impl.AddrOp{o}, 41), refused)
		}
	}
	wantFolded(t, p, nil, refused)
}

// somePaths are in order.
func somePaths() []impl.Paths {
	var list []impl.Paths
	for _, addrs := range [][]int64{{1}, {255}, {7}, {5, 6}, {255, 1}, {3, 2, 1}, {128, 127, 255, 1}, {5, 4, 3, 2, 1}, {251, 252, 253, 254, 255}, {9, 200, 1, 40, 255}} {
		for place, addr := range addrs {
			p := newPaths(addrs...)
			p.First = addr
			list = append(list, p, downPaths(p, place), downPaths(p, inOrder(len(addrs))...))
			for i := range p.List {
				p.List[i].Errors = int64(i % 4)
				p.List[i].Rto = []int64{100, 101, 700, 1599, 1600}[(i+place)%5]
			}
			list = append(list, p, downPaths(p, 0), downPaths(p, len(addrs)-1))
		}
	}
	return list
}

func TestLimitsOfPaths(t *testing.T) {
	if impl.MinRto != 100 || impl.MaxRto != 1600 || impl.MaxErrors != 3 {
		t.Errorf("the limits are %d, %d and %d", impl.MinRto, impl.MaxRto, impl.MaxErrors)
	}
}

func TestNewPaths(t *testing.T) {
	for addr := int64(1); addr <= 255; addr++ {
		wantNew(t, []int64{addr}, impl.PathsResult{Paths: impl.Paths{List: []impl.Path{{Addr: addr, Errors: 0, Rto: 100, Down: false}}, First: addr}})
	}
	wantNew(t, []int64{5, 6}, impl.PathsResult{Paths: impl.Paths{List: []impl.Path{{Addr: 5, Rto: 100}, {Addr: 6, Rto: 100}}, First: 5}})
	wantNew(t, []int64{255, 1, 128}, impl.PathsResult{Paths: impl.Paths{List: []impl.Path{{Addr: 255, Rto: 100}, {Addr: 1, Rto: 100}, {Addr: 128, Rto: 100}}, First: 255}})
	eachOrder([]int64{255, 1, 9, 8, 127}, 0, func(order []int64) {
		for count := range 5 {
			wantNew(t, order[:count+1], impl.PathsResult{Paths: newPaths(order[:count+1]...)})
		}
	})
}

func TestCountsOfNewPaths(t *testing.T) {
	refused := impl.PathsResult{Code: impl.ErrMany}
	wantNew(t, nil, refused)
	wantNew(t, []int64{}, refused)
	wantNew(t, make([]int64, 0, 5), refused)
	wantNew(t, []int64{1, 2, 3, 4, 5}, impl.PathsResult{Paths: newPaths(1, 2, 3, 4, 5)})
	wantNew(t, []int64{1, 2, 3, 4, 5, 6}, refused)
	for _, count := range []int{6, 7, 10, 255, 256, 257, 261, 65541} {
		// Faults of the addresses come later.
		for _, addr := range []int64{1, 0, 256} {
			wantNew(t, slices.Repeat([]int64{addr}, count), refused)
		}
	}
	wantNew(t, gapsAsAddrs(6), refused)
}

func TestAddressesThatCannotBeNew(t *testing.T) {
	for count := 1; count <= 5; count++ {
		for place := range count {
			for _, n := range append(notFrom(1, 255), 0, 256) {
				addrs := []int64{255, 1, 7, 8, 9}[:count]
				addrs[place] = n
				wantNew(t, addrs, impl.PathsResult{Code: impl.ErrRange})
			}
			for before := range place {
				addrs := []int64{255, 1, 7, 8, 9}[:count]
				addrs[place] = addrs[before]
				wantNew(t, addrs, impl.PathsResult{Code: impl.ErrTaken})
			}
		}
	}
	for _, c := range []struct {
		addrs []int64
		code  int64
	}{
		{[]int64{5, 5, 0}, impl.ErrTaken}, {[]int64{0, 5, 5}, impl.ErrRange}, {[]int64{5, 0, 5}, impl.ErrRange},
		{[]int64{0, 0}, impl.ErrRange}, {[]int64{256, 256}, impl.ErrRange}, {[]int64{1, 2, 3, 1, 256}, impl.ErrTaken},
		{[]int64{1, 2, 3, 256, 1}, impl.ErrRange}, {[]int64{-1}, impl.ErrRange}, {[]int64{1, 257}, impl.ErrRange},
		{[]int64{255, 255}, impl.ErrTaken}, {[]int64{1, 2, 3, 4, 1}, impl.ErrTaken}, {[]int64{5, 5}, impl.ErrTaken},
	} {
		wantNew(t, c.addrs, impl.PathsResult{Code: c.code})
	}
}

func TestAllSmallListsOfAddresses(t *testing.T) {
	found := map[int64]int{}
	for count := range 7 {
		eachList([]int64{-1, 0, 1, 255, 256}, count, nil, func(addrs []int64) {
			want := newPathsElsewhere(addrs)
			wantNew(t, addrs, want)
			found[want.Code]++
		})
	}
	for code, least := range map[int64]int{impl.OK: 4, impl.ErrMany: 1000, impl.ErrRange: 1000, impl.ErrTaken: 50} {
		if found[code] < least {
			t.Errorf("only %d lists have the code %d", found[code], code)
		}
	}
}

func TestKnownPaths(t *testing.T) {
	p := impl.NewPaths([]int64{5, 6}).Paths
	fresh := impl.Path{Addr: 6, Rto: 100}
	q := p
	for i, failed := range []impl.Path{{Addr: 5, Errors: 1, Rto: 200}, {Addr: 5, Errors: 2, Rto: 400}, {Addr: 5, Errors: 3, Rto: 800}, {Addr: 5, Errors: 4, Rto: 1600, Down: true}} {
		q = wantNoted(t, q, 5, false, impl.PathsResult{Paths: impl.Paths{List: []impl.Path{failed, fresh}, First: 5}})
		wantInt(t, impl.PickPath(q), []int64{5, 5, 5, 6}[i], "PickPath after failures", int64(i+1))
	}
	wantNotApplied(t, q, impl.AddrOp{Kind: impl.OpDel, Addr: 5}, impl.ErrState)
	q = wantNoted(t, q, 5, true, impl.PathsResult{Paths: p})
	wantInt(t, impl.PickPath(q), 5, "PickPath after a success")
	ops := []impl.AddrOp{{Kind: impl.OpAdd, Addr: 7}, {Kind: impl.OpAdd, Addr: 7}, {Kind: impl.OpDel, Addr: 9}, {Kind: impl.OpDel, Addr: 5}, {Kind: impl.OpFirst, Addr: 7}, {Kind: impl.OpDel, Addr: 5}, {Kind: 4, Addr: 1}}
	q = wantFolded(t, q, ops, impl.PathsResult{
		Paths: impl.Paths{List: []impl.Path{{Addr: 6, Rto: 100}, {Addr: 7, Rto: 100}}, First: 7},
		Codes: []int64{impl.OK, impl.ErrTaken, impl.ErrNone, impl.ErrState, impl.OK, impl.OK, impl.ErrRange},
	})
	if got := impl.AddrsOf(q); got.Code != impl.OK || !slices.Equal(got.List, []int64{6, 7}) {
		t.Errorf("AddrsOf(%+v) = %+v", q, got)
	}
}

func TestFailuresOfEachPath(t *testing.T) {
	want := []impl.Path{
		{Errors: 0, Rto: 100}, {Errors: 1, Rto: 200}, {Errors: 2, Rto: 400}, {Errors: 3, Rto: 800},
		{Errors: 4, Rto: 1600, Down: true}, {Errors: 4, Rto: 1600, Down: true}, {Errors: 4, Rto: 1600, Down: true},
	}
	for _, addrs := range [][]int64{{9}, {1, 255}, {5, 4, 3}, {255, 254, 2, 1}, {1, 2, 3, 4, 5}} {
		for place, addr := range addrs {
			for _, first := range addrs {
				for failures := range want {
					p := newPaths(addrs...)
					p.First = first
					for count := 1; count <= failures; count++ {
						after := copiedPaths(p)
						after.List[place] = want[count]
						after.List[place].Addr = addr
						p = wantNoted(t, p, addr, false, impl.PathsResult{Paths: after})
					}
					// One success makes it what it was, however often it failed.
					after := newPaths(addrs...)
					after.First = first
					p = wantNoted(t, p, addr, true, impl.PathsResult{Paths: after})
					wantNoted(t, p, addr, true, impl.PathsResult{Paths: after})
				}
			}
		}
	}
}

func TestErrorsAndDown(t *testing.T) {
	for errors := range int64(5) {
		for _, rto := range []int64{100, 200, 400, 800, 1600} {
			p := impl.Paths{List: []impl.Path{newPath(3), {Addr: 8, Errors: errors, Rto: rto, Down: errors == 4}}, First: 8}
			wantPathsFault(t, p, impl.OK)
			picked := int64(8)
			if errors == 4 {
				picked = 3
			}
			wantInt(t, impl.PickPath(p), picked, "PickPath", errors)
			failed, noted := copiedPaths(p), copiedPaths(p)
			failed.List[1] = impl.Path{Addr: 8, Errors: []int64{1, 2, 3, 4, 4}[errors], Rto: min(2*rto, 1600), Down: errors >= 3}
			wantNoted(t, p, 8, false, impl.PathsResult{Paths: failed})
			noted.List[1] = newPath(8)
			wantNoted(t, p, 8, true, impl.PathsResult{Paths: noted})
			wantInt(t, impl.PickPath(noted), 8, "PickPath after a success", errors)
		}
	}
}

func TestEveryTimeout(t *testing.T) {
	for rto := int64(100); rto <= 1600; rto++ {
		for errors := range int64(5) {
			p := impl.Paths{List: []impl.Path{{Addr: 1, Errors: errors, Rto: rto, Down: errors == 4}, {Addr: 2, Errors: 1, Rto: 333}}, First: 2}
			twice := rto + rto
			if twice > 1600 {
				twice = 1600
			}
			want := copiedPaths(p)
			want.List[0] = impl.Path{Addr: 1, Errors: []int64{1, 2, 3, 4, 4}[errors], Rto: twice, Down: errors > 2}
			wantNoted(t, p, 1, false, impl.PathsResult{Paths: want})
			want.List[0] = impl.Path{Addr: 1, Rto: 100}
			wantNoted(t, p, 1, true, impl.PathsResult{Paths: want})
		}
	}
	for _, c := range [][]int64{{100, 200, 400, 800, 1600, 1600}, {150, 300, 600, 1200, 1600, 1600}, {101, 202, 404, 808, 1600, 1600}, {799, 1598, 1600}, {800, 1600, 1600}, {801, 1600, 1600}, {1599, 1600}, {1600, 1600, 1600}, {199, 398, 796, 1592, 1600}} {
		p := impl.Paths{List: []impl.Path{{Addr: 4, Rto: c[0]}}, First: 4}
		for i, rto := range c[1:] {
			p = impl.NotePath(p, 4, false).Paths
			if p.List[0].Rto != rto {
				t.Errorf("after %d failures from %d on the Rto is %d, want %d", i+1, c[0], p.List[0].Rto, rto)
			}
		}
	}
}

func TestNotesOfPathsThatDoNotExist(t *testing.T) {
	for _, p := range somePaths() {
		there := addrsElsewhere(p)
		for _, addr := range append(notFrom(1, 255), oneTo(255)...) {
			if slices.Contains(there, addr) {
				continue
			}
			for _, good := range []bool{false, true} {
				wantNoted(t, p, addr, good, impl.PathsResult{Code: impl.ErrNone})
			}
		}
		for _, addr := range there {
			// Numbers of which a part is this address.
			for _, more := range []int64{256, -256, 65536, allNumbers, -allNumbers} {
				wantNoted(t, p, addr+more, true, impl.PathsResult{Code: impl.ErrNone})
				wantNoted(t, p, addr+more, false, impl.PathsResult{Code: impl.ErrNone})
			}
			wantNoted(t, p, -addr, true, impl.PathsResult{Code: impl.ErrNone})
		}
	}
}

func TestANoteChangesOnePath(t *testing.T) {
	for _, p := range somePaths() {
		for place, path := range p.List {
			for _, good := range []bool{false, true} {
				want := copiedPaths(p)
				want.List[place] = noteElsewhere(p, path.Addr, good).Paths.List[place]
				wantNoted(t, p, path.Addr, good, impl.PathsResult{Paths: want})
			}
		}
	}
}

func TestPickingAmongAllPaths(t *testing.T) {
	addrs := []int64{200, 3, 255, 1, 9}
	for count := 1; count <= 5; count++ {
		for choice := range 1 << count {
			var down []int
			for place := range count {
				if choice>>place&1 == 1 {
					down = append(down, place)
				}
			}
			for first := range count {
				p := downPaths(newPaths(addrs[:count]...), down...)
				p.First = addrs[first]
				want := addrs[first]
				if slices.Contains(down, first) && len(down) < count {
					// The first place that is not among those in order.
					place := 0
					for slices.Contains(down, place) {
						place++
					}
					want = addrs[place]
				}
				wantInt(t, impl.PickPath(p), want, "PickPath of paths that are down", int64(choice), int64(first))
				wantInOrder(t, p)
			}
		}
	}
}

func TestPickingAroundTheFirstPath(t *testing.T) {
	three := newPaths(4, 5, 6)
	for _, c := range []struct {
		first int64
		down  []int
		want  int64
	}{
		{5, nil, 5}, {5, []int{0}, 5}, {5, []int{2}, 5}, {5, []int{0, 2}, 5},
		{5, []int{1}, 4}, {5, []int{0, 1}, 6}, {5, []int{1, 2}, 4}, {5, []int{0, 1, 2}, 5},
		{4, []int{0}, 5}, {4, []int{0, 1}, 6}, {4, []int{0, 2}, 5}, {4, []int{0, 1, 2}, 4}, {4, []int{1, 2}, 4},
		{6, []int{2}, 4}, {6, []int{0, 2}, 5}, {6, []int{1, 2}, 4}, {6, []int{0, 1, 2}, 6}, {6, []int{0, 1}, 6},
	} {
		p := downPaths(three, c.down...)
		p.First = c.first
		wantInt(t, impl.PickPath(p), c.want, fmt.Sprintf("PickPath with %d first and %v down", c.first, c.down))
	}
	// Errors alone do not matter, as long as the path is not down.
	p := newPaths(4, 5)
	p.List[0].Errors, p.List[0].Rto = 3, 1600
	wantInt(t, impl.PickPath(p), 4, "PickPath with 3 errors")
	one := downPaths(newPaths(77), 0)
	wantInt(t, impl.PickPath(one), 77, "PickPath of one path that is down")
}

func TestAddingAddresses(t *testing.T) {
	for _, p := range somePaths() {
		for _, addr := range oneTo(255) {
			switch {
			case slices.Contains(addrsElsewhere(p), addr):
				// That it is there comes before the lack of room.
				wantNotApplied(t, p, opAdd(addr), impl.ErrTaken)
			case len(p.List) == 5:
				wantNotApplied(t, p, opAdd(addr), impl.ErrFull)
			default:
				want := impl.Paths{List: append(slices.Clone(p.List), impl.Path{Addr: addr, Rto: 100}), First: p.First}
				got := wantApplied(t, p, opAdd(addr), impl.PathsResult{Paths: want})
				// It can be removed again, and then nothing is left of it.
				wantApplied(t, got, opDel(addr), impl.PathsResult{Paths: p})
				wantFolded(t, p, []impl.AddrOp{opAdd(addr), opDel(addr)}, impl.PathsResult{Paths: p, Codes: []int64{0, 0}})
				// So it can after a failure, or with another path behind it.
				failed := impl.NotePath(got, addr, false).Paths
				wantApplied(t, failed, opDel(addr), impl.PathsResult{Paths: p})
				list := []impl.AddrOp{opAdd(addr), opAdd(addr%255 + 1), opDel(addr)}
				wantFolded(t, p, list, foldElsewhere(p, list))
			}
		}
	}
}

func TestAsManyPathsAsThereMayBe(t *testing.T) {
	p := newPaths(10)
	for count := int64(1); count < 5; count++ {
		want := copiedPaths(p)
		want.List = append(want.List, newPath(10+count))
		p = wantApplied(t, p, opAdd(10+count), impl.PathsResult{Paths: want})
	}
	wantNotApplied(t, p, opAdd(15), impl.ErrFull)
	wantNotApplied(t, p, opAdd(14), impl.ErrTaken)
	wantNotApplied(t, p, opAdd(10), impl.ErrTaken)
	wantNotApplied(t, p, opAdd(256), impl.ErrRange)
	for _, gone := range []int64{11, 12, 13, 14} {
		// Where one is removed, there is room, but at the end.
		var want []impl.Path
		for _, addr := range []int64{10, 11, 12, 13, 14, 15} {
			if addr != gone {
				want = append(want, newPath(addr))
			}
		}
		wantFolded(t, p, []impl.AddrOp{opAdd(15), opDel(gone), opAdd(15), opAdd(gone)}, impl.PathsResult{
			Paths: impl.Paths{List: want, First: 10}, Codes: []int64{impl.ErrFull, 0, 0, impl.ErrFull},
		})
	}
}

func TestDeletingAddresses(t *testing.T) {
	for _, p := range somePaths() {
		for _, addr := range oneTo(255) {
			place := slices.Index(addrsElsewhere(p), addr)
			switch {
			case place < 0:
				wantNotApplied(t, p, opDel(addr), impl.ErrNone)
			case addr == p.First:
				wantNotApplied(t, p, opDel(addr), impl.ErrState)
			default:
				want := impl.Paths{First: p.First}
				want.List = append(want.List, p.List[:place]...)
				want.List = append(want.List, p.List[place+1:]...)
				got := wantApplied(t, p, opDel(addr), impl.PathsResult{Paths: want})
				wantNotApplied(t, got, opDel(addr), impl.ErrNone)
				// If it is added anew, it is the last one, and knows nothing of its past.
				want.List = append(want.List, newPath(addr))
				wantApplied(t, got, opAdd(addr), impl.PathsResult{Paths: want})
			}
		}
	}
}

func TestDeletingThePrimaryAddress(t *testing.T) {
	for _, p := range somePaths() {
		wantNotApplied(t, p, opDel(p.First), impl.ErrState)
		for _, path := range p.List {
			if path.Addr == p.First {
				// It stays the first one, and stays.
				wantFolded(t, p, []impl.AddrOp{opFirst(path.Addr), opDel(path.Addr)}, impl.PathsResult{Paths: p, Codes: []int64{0, impl.ErrState}})
				continue
			}
			want := impl.Paths{First: path.Addr}
			for _, other := range p.List {
				if other.Addr != p.First {
					want.List = append(want.List, other)
				}
			}
			wantFolded(t, p, []impl.AddrOp{opDel(p.First), opFirst(path.Addr), opDel(p.First), opDel(path.Addr)}, impl.PathsResult{Paths: want, Codes: []int64{impl.ErrState, 0, 0, impl.ErrState}})
			moved := impl.ApplyOp(p, opFirst(path.Addr)).Paths
			wantApplied(t, moved, opDel(p.First), impl.PathsResult{Paths: want})
		}
	}
	// Down or not, the only path there is cannot be deleted.
	wantNotApplied(t, newPaths(1), opDel(1), impl.ErrState)
	wantNotApplied(t, downPaths(newPaths(255), 0), opDel(255), impl.ErrState)
	// That another one is picked does not make it the first one.
	p := downPaths(newPaths(5, 6), 0)
	wantInt(t, impl.PickPath(p), 6, "PickPath")
	wantNotApplied(t, p, opDel(5), impl.ErrState)
	wantApplied(t, p, opDel(6), impl.PathsResult{Paths: impl.Paths{List: p.List[:1], First: 5}})
}

func TestMakingAddressesFirst(t *testing.T) {
	for _, p := range somePaths() {
		for _, addr := range oneTo(255) {
			if !slices.Contains(addrsElsewhere(p), addr) {
				wantNotApplied(t, p, opFirst(addr), impl.ErrNone)
				continue
			}
			// The list stays as it is, also if the path is down.
			wantApplied(t, p, opFirst(addr), impl.PathsResult{Paths: impl.Paths{List: p.List, First: addr}})
		}
	}
}

func TestOperationsThatAreNone(t *testing.T) {
	kinds := append(notFrom(1, 3), 0, 4, -1)
	for _, p := range somePaths() {
		for _, kind := range kinds {
			for _, addr := range []int64{p.First, p.List[0].Addr, 77, 0, 256} {
				wantNotApplied(t, p, impl.AddrOp{Kind: kind, Addr: addr}, impl.ErrRange)
			}
		}
		for kind := int64(1); kind <= 3; kind++ {
			for _, addr := range append(notFrom(1, 255), 0, 256, -1, -p.First, p.First+256, p.First+allNumbers) {
				wantNotApplied(t, p, impl.AddrOp{Kind: kind, Addr: addr}, impl.ErrRange)
			}
		}
		wantNotApplied(t, p, impl.AddrOp{}, impl.ErrRange)
	}
}

func TestTheEndsOfTheAddresses(t *testing.T) {
	for _, addr := range []int64{1, 255} {
		p := newPaths(7)
		want := newPaths(7, addr)
		p = wantApplied(t, p, opAdd(addr), impl.PathsResult{Paths: want})
		want.First = addr
		p = wantApplied(t, p, opFirst(addr), impl.PathsResult{Paths: want})
		want.List[1] = impl.Path{Addr: addr, Errors: 1, Rto: 200}
		p = wantNoted(t, p, addr, false, impl.PathsResult{Paths: want})
		wantInt(t, impl.PickPath(p), addr, "PickPath")
		want.List = want.List[1:]
		p = wantApplied(t, p, opDel(7), impl.PathsResult{Paths: want})
		p = wantFolded(t, p, []impl.AddrOp{opAdd(7), opFirst(7), opDel(addr)}, impl.PathsResult{Paths: newPaths(7), Codes: []int64{0, 0, 0}})
		wantNotApplied(t, p, opDel(addr), impl.ErrNone)
	}
}

func TestFoldingNoOperations(t *testing.T) {
	for _, p := range somePaths() {
		wantFolded(t, p, nil, impl.PathsResult{Paths: p})
		wantFolded(t, p, []impl.AddrOp{}, impl.PathsResult{Paths: p})
	}
}

func TestFoldingAsManyOperationsAsThereMayBe(t *testing.T) {
	for _, p := range somePaths() {
		for _, o := range []impl.AddrOp{opAdd(77), opFirst(p.First), opDel(78), {}} {
			for _, count := range []int{39, 40} {
				wantFolded(t, p, slices.Repeat([]impl.AddrOp{o}, count), foldElsewhere(p, slices.Repeat([]impl.AddrOp{o}, count)))
			}
			for _, count := range []int{41, 42, 80, 256, 296} {
				wantFolded(t, p, slices.Repeat([]impl.AddrOp{o}, count), impl.PathsResult{Code: impl.ErrMany})
			}
		}
	}
	// The last one of forty counts.
	list := append(slices.Repeat([]impl.AddrOp{opDel(5)}, 39), opAdd(9))
	codes := append(slices.Repeat([]int64{impl.ErrState}, 39), impl.OK)
	wantFolded(t, newPaths(5), list, impl.PathsResult{Paths: newPaths(5, 9), Codes: codes})
	wantFolded(t, newPaths(5), append(list, opAdd(10)), impl.PathsResult{Code: impl.ErrMany})
	wantFolded(t, newPaths(5), append(list, impl.AddrOp{}), impl.PathsResult{Code: impl.ErrMany})
}

func TestOperationsWithACodeChangeNothing(t *testing.T) {
	wrong := []struct {
		op   impl.AddrOp
		code int64
	}{
		{opAdd(6), impl.ErrTaken}, {opAdd(1), impl.ErrFull}, {opDel(1), impl.ErrNone}, {opDel(6), impl.ErrState},
		{opFirst(1), impl.ErrNone}, {opAdd(0), impl.ErrRange}, {impl.AddrOp{Kind: 4, Addr: 6}, impl.ErrRange},
	}
	p := newPaths(5, 6, 7, 8, 9)
	p.First = 6
	p.List[3].Errors, p.List[3].Rto = 2, 444
	want := copiedPaths(p)
	want.List, want.First = append(slices.Delete(want.List, 0, 1), newPath(200)), 8
	good := []impl.AddrOp{opDel(5), opAdd(200), opFirst(8)}
	// The operations are performed although others, before, between and behind them, are not.
	for _, w := range wrong {
		wantNotApplied(t, p, w.op, w.code)
	}
	for _, a := range wrong {
		for _, b := range wrong {
			list := []impl.AddrOp{a.op, good[0], good[1], b.op, good[2]}
			got := impl.FoldOps(p, list)
			if !equalPaths(got.Paths, want) || len(got.Codes) != 5 || got.Codes[0] != a.code || got.Codes[1] != 0 || got.Codes[2] != 0 || got.Codes[3] != b.code || got.Codes[4] != 0 {
				t.Errorf("FoldOps(%+v, %+v) = %+v, want %+v", p, list, got, want)
			}
			wantFolded(t, p, list, foldElsewhere(p, list))
		}
	}
}

// someOps are operations on few addresses, so that they depend on each other.
func someOps(seed *rand.Rand, count int) []impl.AddrOp {
	var list []impl.AddrOp
	for range count {
		list = append(list, impl.AddrOp{Kind: int64(1 + seed.Intn(3)), Addr: int64(1 + seed.Intn(8))})
		if seed.Intn(20) == 0 {
			list[len(list)-1].Kind = int64(seed.Intn(6))
		}
		if seed.Intn(30) == 0 {
			list[len(list)-1].Addr = int64(255 + seed.Intn(3))
		}
	}
	return list
}

func TestFoldingInParts(t *testing.T) {
	t.Parallel()
	seed := rand.New(rand.NewSource(5))
	found := map[int64]int{}
	for round := range 300 {
		p := somePaths()[round%len(somePaths())]
		list := someOps(seed, seed.Intn(41))
		whole := impl.FoldOps(p, list)
		wantFolded(t, p, list, foldElsewhere(p, list))
		for part := range len(list) + 1 {
			one := impl.FoldOps(p, list[:part])
			two := impl.FoldOps(one.Paths, list[part:])
			if joined := (impl.PathsResult{Paths: two.Paths, Codes: slices.Concat(one.Codes, two.Codes)}); one.Code != 0 || two.Code != 0 || !equalPathsResults(joined, whole) {
				t.Errorf("FoldOps(%+v, %+v) = %+v, and in parts of %d and the rest %+v", p, list, whole, part, joined)
			}
		}
		// One by one, the paths are left as they are by what has a code.
		own := p
		for i, o := range list {
			after := impl.ApplyOp(own, o)
			if after.Code != whole.Codes[i] {
				t.Errorf("ApplyOp(%+v, %+v) = %+v, and in a list the code is %d", own, o, after, whole.Codes[i])
			}
			if after.Code == impl.OK {
				own = after.Paths
			}
			found[after.Code]++
		}
		if !equalPaths(own, whole.Paths) {
			t.Errorf("FoldOps(%+v, %+v) = %+v, and one by one %+v", p, list, whole, own)
		}
	}
	for _, code := range []int64{impl.OK, impl.ErrRange, impl.ErrTaken, impl.ErrFull, impl.ErrNone, impl.ErrState} {
		if found[code] < 50 {
			t.Errorf("only %d operations have the code %d", found[code], code)
		}
	}
}

func TestAllPairsOfOperations(t *testing.T) {
	t.Parallel()
	var ops []impl.AddrOp
	for _, addr := range []int64{1, 2, 3, 255} {
		ops = append(ops, opAdd(addr), opDel(addr), opFirst(addr))
	}
	ops = append(ops, impl.AddrOp{}, opAdd(256))
	for _, p := range []impl.Paths{newPaths(1), newPaths(2, 1), downPaths(newPaths(3, 255, 1), 0, 2), newPaths(1, 2, 3, 4), newPaths(5, 4, 3, 2, 1)} {
		for count := range 4 {
			eachList(ops, count, nil, func(list []impl.AddrOp) {
				wantFolded(t, p, list, foldElsewhere(p, list))
			})
		}
	}
}

// road is what is known of the paths: the addresses in order, the primary one, and for
// each address how often it failed in a row. What the paths must have become is built
// anew from it.
type road struct {
	addrs    []int64
	first    int64
	failures map[int64]int
	paths    impl.Paths
}

func newRoad(addrs ...int64) *road {
	return &road{addrs: addrs, first: addrs[0], failures: map[int64]int{}, paths: newPaths(addrs...)}
}

func (r *road) wanted() impl.Paths {
	p := impl.Paths{First: r.first}
	for _, addr := range r.addrs {
		failures := min(r.failures[addr], 4)
		p.List = append(p.List, impl.Path{Addr: addr, Errors: int64(failures), Rto: 100 << failures, Down: failures == 4})
	}
	return p
}

// note has every address, also one that has no path.
func (r *road) note(t *testing.T, addr int64, good bool) {
	t.Helper()
	if !slices.Contains(r.addrs, addr) {
		wantNoted(t, r.paths, addr, good, impl.PathsResult{Code: impl.ErrNone})
		return
	}
	r.failures[addr]++
	if good {
		r.failures[addr] = 0
	}
	r.paths = wantNoted(t, r.paths, addr, good, impl.PathsResult{Paths: r.wanted()})
}

// perform returns the code that the operation must have.
func (r *road) perform(o impl.AddrOp) int64 {
	place := slices.Index(r.addrs, o.Addr)
	switch {
	case o.Kind == 1 && place >= 0:
		return impl.ErrTaken
	case o.Kind == 1 && len(r.addrs) == 5:
		return impl.ErrFull
	case o.Kind == 1:
		r.addrs = append(slices.Clone(r.addrs), o.Addr)
		r.failures[o.Addr] = 0
	case place < 0:
		return impl.ErrNone
	case o.Kind == 3:
		r.first = o.Addr
	case o.Addr == r.first:
		return impl.ErrState
	default:
		r.addrs = slices.Delete(slices.Clone(r.addrs), place, place+1)
	}
	return impl.OK
}

func (r *road) fold(t *testing.T, list []impl.AddrOp) {
	t.Helper()
	var codes []int64
	for _, o := range list {
		codes = append(codes, r.perform(o))
	}
	r.paths = wantFolded(t, r.paths, list, impl.PathsResult{Paths: r.wanted(), Codes: codes})
}

// chosen is the address to be picked.
func (r *road) chosen() int64 {
	for _, addr := range append([]int64{r.first}, r.addrs...) {
		if r.failures[addr] < 4 {
			return addr
		}
	}
	return r.first
}

func TestLongHistoriesOfPaths(t *testing.T) {
	t.Parallel()
	for round := range 40 {
		seed := rand.New(rand.NewSource(int64(round)))
		r := newRoad([]int64{3, 1, 255, 7, 200}[:1+round%5]...)
		allDown, others := 0, 0
		for step := range 400 {
			addr := []int64{3, 1, 255, 7, 200, 4, 5}[seed.Intn(7)]
			switch seed.Intn(12) {
			case 0:
				r.note(t, addr, true)
			case 1:
				r.fold(t, []impl.AddrOp{{Kind: int64(1 + seed.Intn(3)), Addr: addr}})
			case 2:
				var list []impl.AddrOp
				for range seed.Intn(4) {
					list = append(list, impl.AddrOp{Kind: int64(1 + seed.Intn(3)), Addr: []int64{3, 1, 255, 7, 200, 4, 5}[seed.Intn(7)]})
				}
				r.fold(t, list)
			default:
				r.note(t, addr, false)
			}
			wantInt(t, impl.PickPath(r.paths), r.chosen(), "PickPath")
			if r.chosen() != r.first {
				others++
			} else if r.failures[r.first] >= 4 {
				allDown++
			}
			if t.Failed() {
				t.Fatalf("round %d, step %d", round, step)
			}
		}
		if allDown+others < 20 {
			t.Errorf("round %d: all paths were down %d times, and another one was picked %d times", round, allDown, others)
		}
	}
}

func TestFailuresInTurn(t *testing.T) {
	// Each path fails until it is down, and the next one is picked.
	addrs := []int64{30, 10, 20, 255, 1}
	for first := range addrs {
		r := newRoad(addrs...)
		r.fold(t, []impl.AddrOp{opFirst(addrs[first])})
		order := append([]int64{addrs[first]}, slices.Delete(slices.Clone(addrs), first, first+1)...)
		for i, addr := range order {
			for range 4 {
				wantInt(t, impl.PickPath(r.paths), addr, "PickPath before a failure")
				r.note(t, addr, false)
			}
			if i == len(order)-1 {
				// There is no other one left.
				wantInt(t, impl.PickPath(r.paths), addrs[first], "PickPath of paths that are all down")
			}
		}
		// From behind, each one that is good again is picked instead.
		for _, addr := range slices.Backward(order[1:]) {
			r.note(t, addr, true)
			wantInt(t, impl.PickPath(r.paths), addr, "PickPath after a success")
		}
		r.note(t, addrs[first], true)
		wantInt(t, impl.PickPath(r.paths), addrs[first], "PickPath")
	}
}

// validPaths have something in every field.
func validPaths() impl.Paths {
	return impl.Paths{First: 128, List: []impl.Path{
		{Addr: 7, Errors: 0, Rto: 100}, {Addr: 255, Errors: 4, Rto: 1600, Down: true}, {Addr: 1, Errors: 2, Rto: 400},
		{Addr: 128, Errors: 4, Rto: 150, Down: true}, {Addr: 9, Errors: 3, Rto: 1599},
	}}
}

func TestPathsInOrder(t *testing.T) {
	wantPathsFault(t, validPaths(), impl.OK)
	for _, p := range somePaths() {
		wantPathsFault(t, p, impl.OK)
	}
	for _, addr := range oneTo(255) {
		for errors := range int64(5) {
			for _, rto := range []int64{100, 101, 850, 1599, 1600} {
				wantPathsFault(t, impl.Paths{List: []impl.Path{{Addr: addr, Errors: errors, Rto: rto, Down: errors == 4}}, First: addr}, impl.OK)
			}
		}
	}
	for place := range 5 {
		p := validPaths()
		p.First = p.List[place].Addr
		wantPathsFault(t, p, impl.OK)
	}
}

func TestCountsOfPaths(t *testing.T) {
	wantPathsFault(t, impl.Paths{}, impl.ErrMany)
	wantPathsFault(t, impl.Paths{First: 7}, impl.ErrMany)
	wantPathsFault(t, impl.Paths{List: []impl.Path{}, First: 7}, impl.ErrMany)
	// Paths behind the list do not count.
	wantPathsFault(t, impl.Paths{List: validPaths().List[:0], First: 7}, impl.ErrMany)
	for count := 1; count <= 5; count++ {
		wantPathsFault(t, impl.Paths{List: validPaths().List[:count], First: 7}, impl.OK)
		if count < 4 {
			wantPathsFault(t, impl.Paths{List: validPaths().List[:count], First: 128}, impl.ErrNone)
		}
	}
	wantPathsFault(t, newPaths(1, 2, 3, 4, 5, 6), impl.ErrMany)
	for _, count := range []int64{6, 7, 10, 255} {
		wantPathsFault(t, newPaths(oneTo(count)...), impl.ErrMany)
	}
	for _, count := range []int{6, 256, 257, 261} {
		// Nor does it matter what else is wrong.
		wantPathsFault(t, impl.Paths{List: make([]impl.Path, count)}, impl.ErrMany)
		wantPathsFault(t, impl.Paths{List: slices.Repeat([]impl.Path{newPath(5)}, count), First: 9}, impl.ErrMany)
	}
}

func TestNumbersOfPaths(t *testing.T) {
	for place := range validPaths().List {
		change := func(make func(path *impl.Path), code int64) {
			t.Helper()
			p := validPaths()
			make(&p.List[place])
			wantPathsFault(t, p, code)
		}
		for _, n := range append(notFrom(1, 255), 0, 256, -1) {
			change(func(path *impl.Path) { path.Addr = n }, impl.ErrRange)
		}
		for _, n := range append(notFrom(0, 4), 5, -1) {
			change(func(path *impl.Path) { path.Errors = n }, impl.ErrRange)
			// Down fits such a number no more than its opposite does.
			change(func(path *impl.Path) { path.Errors, path.Down = n, !path.Down }, impl.ErrRange)
		}
		for _, n := range append(notFrom(100, 1600), 99, 1601, 0, 3200) {
			change(func(path *impl.Path) { path.Rto = n }, impl.ErrRange)
		}
		for errors := range int64(5) {
			for _, down := range []bool{false, true} {
				code := int64(impl.OK)
				if down != (errors == 4) {
					code = impl.ErrState
				}
				change(func(path *impl.Path) { path.Errors, path.Down = errors, down }, code)
			}
		}
		for before := range place {
			change(func(path *impl.Path) { path.Addr = validPaths().List[before].Addr }, impl.ErrTaken)
		}
	}
}

func TestTheFirstAddressOfPaths(t *testing.T) {
	t.Parallel()
	for _, p := range append(somePaths(), validPaths()) {
		there := addrsElsewhere(p)
		for _, first := range append(notFrom(1, 255), oneTo(255)...) {
			own := copiedPaths(p)
			own.First = first
			if slices.Contains(there, first) {
				wantPathsFault(t, own, impl.OK)
			} else {
				wantPathsFault(t, own, impl.ErrNone)
			}
		}
		// The path itself has another address.
		own := copiedPaths(p)
		own.List[slices.Index(there, p.First)].Addr = 77
		wantPathsFault(t, own, impl.ErrNone)
	}
}

// pathAt is the path at a place, or one that belongs to no list.
func pathAt(p *impl.Paths, place int) *impl.Path {
	if place < len(p.List) {
		return &p.List[place]
	}
	return &impl.Path{}
}

// pathBreaches make a path of the paths above faulty.
func pathBreaches[T any](rank int, place int, paths func(v *T) *impl.Paths) []breach[T] {
	path := func(v *T) *impl.Path { return pathAt(paths(v), place) }
	all := slices.Concat(
		numberBreaches(rank, impl.ErrRange, func(v *T) *int64 { return &path(v).Addr }, 0, 256, -1, 263, allNumbers+7),
		numberBreaches(rank+1, impl.ErrRange, func(v *T) *int64 { return &path(v).Errors }, -1, 5, 256, 260),
		numberBreaches(rank+2, impl.ErrRange, func(v *T) *int64 { return &path(v).Rto }, 99, 1601, 0, -100),
		[]breach[T]{
			{rank + 4, impl.ErrState, func(v *T) { path(v).Down = !path(v).Down }},
			{rank + 4, impl.ErrState, func(v *T) {
				// Errors that are out of range are another breach, and stay.
				if own := path(v); own.Errors == 4 {
					own.Errors = 3
				} else if own.Errors >= 0 && own.Errors < 4 {
					own.Errors = 4
				}
			}},
		})
	if place == 0 {
		return all
	}
	return append(all, breach[T]{rank + 3, impl.ErrTaken, func(v *T) {
		// So does an address that is out of range.
		if own := path(v); isAddrElsewhere(own.Addr) {
			own.Addr = pathAt(paths(v), 0).Addr
		}
	}})
}

// pathsBreaches make the paths above faulty.
func pathsBreaches[T any](paths func(v *T) *impl.Paths) []breach[T] {
	change := func(rank int, code int64, make func(p *impl.Paths)) breach[T] {
		return breach[T]{rank, code, func(v *T) { make(paths(v)) }}
	}
	all := []breach[T]{
		change(1, impl.ErrMany, func(p *impl.Paths) { p.List = nil }),
		change(1, impl.ErrMany, func(p *impl.Paths) { p.List = append(p.List, newPath(77)) }),
		change(1, impl.ErrMany, func(p *impl.Paths) { p.List = append(p.List, p.List...)[:6] }),
	}
	for place := range 5 {
		all = append(all, pathBreaches(10*(place+1), place, paths)...)
	}
	return append(all, numberBreaches(100, impl.ErrNone, func(v *T) *int64 { return &paths(v).First }, 0, 77, 256, -1, 7+256, 128+allNumbers)...)
}

func TestOfTwoFaultsOfPathsTheFirstCounts(t *testing.T) {
	t.Parallel()
	all := pathsBreaches(func(v *impl.Paths) *impl.Paths { return v })
	eachBreach(validPaths, all, func(p impl.Paths, code int64) {
		t.Helper()
		wantPathsFault(t, p, code)
		if other := pathsFaultElsewhere(p); other != code {
			t.Errorf("the fault of %+v is %d, want %d", p, other, code)
		}
	})
}

func TestAPathIsCheckedWholeBeforeTheNextOne(t *testing.T) {
	wrong := []impl.Path{{Addr: 256, Rto: 100}, {Addr: 6, Errors: 5, Rto: 100, Down: true}, {Addr: 6, Rto: 99}, {Addr: 5, Rto: 100}, {Addr: 6, Rto: 100, Down: true}, {Addr: 6, Errors: 4, Rto: 100}}
	codes := []int64{impl.ErrRange, impl.ErrRange, impl.ErrRange, impl.ErrTaken, impl.ErrState, impl.ErrState}
	for first, code := range codes {
		for _, second := range wrong {
			// No path has the First, which is found last.
			wantPathsFault(t, impl.Paths{List: []impl.Path{newPath(5), wrong[first], second}, First: 200}, code)
		}
	}
	// Within a path, numbers come first, then the address of another one, then Down.
	for _, c := range []struct {
		path impl.Path
		code int64
	}{
		{impl.Path{Addr: 5, Errors: 5, Rto: 100}, impl.ErrRange}, {impl.Path{Addr: 5, Rto: 1601, Down: true}, impl.ErrRange},
		{impl.Path{Addr: 5, Rto: 100, Down: true}, impl.ErrTaken}, {impl.Path{Addr: 5, Errors: 4, Rto: 100}, impl.ErrTaken},
		{impl.Path{Addr: 6, Errors: 4, Rto: 1600}, impl.ErrState}, {impl.Path{Addr: 6, Errors: 3, Rto: 1600, Down: true}, impl.ErrState},
	} {
		wantPathsFault(t, impl.Paths{List: []impl.Path{newPath(5), c.path}, First: 5}, c.code)
	}
}

// foldCase are the arguments of operations on paths.
type foldCase struct {
	paths impl.Paths
	ops   []impl.AddrOp
}

func TestOfTwoFaultsOfOperationsTheFirstCounts(t *testing.T) {
	t.Parallel()
	valid := func() foldCase {
		return foldCase{validPaths(), []impl.AddrOp{opDel(9), opAdd(9)}}
	}
	all := pathsBreaches(func(v *foldCase) *impl.Paths { return &v.paths })
	for _, count := range []int{41, 42, 256, 257} {
		all = append(all, breach[foldCase]{200, impl.ErrMany, func(v *foldCase) { v.ops = make([]impl.AddrOp, count) }})
	}
	wantFolded(t, valid().paths, valid().ops, foldElsewhere(valid().paths, valid().ops))
	eachBreach(valid, all, func(c foldCase, code int64) {
		t.Helper()
		wantFolded(t, c.paths, c.ops, impl.PathsResult{Code: code})
	})
}

func TestFaultsOfAllSmallPaths(t *testing.T) {
	t.Parallel()
	from := []impl.Path{
		newPath(1), newPath(255), {Addr: 1, Errors: 4, Rto: 1600, Down: true}, {Addr: 2, Errors: 3, Rto: 1600}, newPath(0), newPath(256),
		{Addr: 3, Errors: 5, Rto: 100, Down: true}, {Addr: 3, Errors: -1, Rto: 100}, {Addr: 3, Rto: 99}, {Addr: 3, Rto: 1601}, {Addr: 3, Rto: 100, Down: true}, {Addr: 3, Errors: 4, Rto: 100},
	}
	found := map[int64]int{}
	for count := range 4 {
		eachList(from, count, nil, func(list []impl.Path) {
			for _, first := range []int64{0, 1, 2, 255, 256} {
				p := impl.Paths{List: list, First: first}
				want := pathsFaultElsewhere(p)
				wantPathsFault(t, p, want)
				found[want]++
			}
		})
	}
	for code, least := range map[int64]int{impl.OK: 15, impl.ErrMany: 5, impl.ErrRange: 1000, impl.ErrTaken: 100, impl.ErrState: 100, impl.ErrNone: 40} {
		if found[code] < least {
			t.Errorf("only %d paths have the code %d", found[code], code)
		}
	}
}

// anyPaths need not be in order.
func anyPaths(seed *rand.Rand) impl.Paths {
	p := impl.Paths{First: int64(1 + seed.Intn(9))}
	addrs := seed.Perm(9)
	for place := range seed.Intn(6) {
		path := impl.Path{Addr: int64(1 + addrs[place]), Errors: int64(seed.Intn(5)), Rto: int64(100 + seed.Intn(1501))}
		path.Down = path.Errors == 4
		switch seed.Intn(40) {
		case 0:
			path.Down = !path.Down
		case 1:
			path.Errors = 5
		case 2:
			path.Rto = 1601
		case 3:
			path.Addr = int64(seed.Intn(4))
		}
		p.List = append(p.List, path)
		if seed.Intn(3) == 0 {
			p.First = path.Addr
		}
	}
	return p
}

func TestAnyPaths(t *testing.T) {
	t.Parallel()
	seed := rand.New(rand.NewSource(11))
	found := map[string]int{}
	for range 30000 {
		p := anyPaths(seed)
		wantPathsFault(t, p, pathsFaultElsewhere(p))
		addr, good := int64(seed.Intn(11)), seed.Intn(3) == 0
		noted := noteElsewhere(p, addr, good)
		wantNoted(t, p, addr, good, noted)
		list := someOps(seed, 1+seed.Intn(6))
		applied := applyElsewhere(p, list[0])
		wantPaths(t, p, impl.ApplyOp(p, list[0]), applied, "ApplyOp", list[0])
		wantFolded(t, p, list, foldElsewhere(p, list))
		found[fmt.Sprintf("note %t %d", good, noted.Code)]++
		found[fmt.Sprintf("apply %d", applied.Code)]++
	}
	for _, call := range []string{"note false 0", "note true 0", "note false 4", "note true 4", "apply 0", "apply 2", "apply 3", "apply 4", "apply 6", "apply 7", "apply 8"} {
		if found[call] < 100 {
			t.Errorf("only %d calls are %s: %v", found[call], call, found)
		}
	}
}

// changedPaths are paths and others that differ from them in one field, a length or an
// order.
func changedPaths(p impl.Paths) []impl.Paths {
	list := []impl.Paths{copiedPaths(p)}
	change := func(make func(own *impl.Paths)) {
		own := copiedPaths(p)
		make(&own)
		list = append(list, own)
	}
	change(func(own *impl.Paths) { own.First++ })
	change(func(own *impl.Paths) { own.First += 256 })
	change(func(own *impl.Paths) { own.First += allNumbers })
	change(func(own *impl.Paths) { own.List = append(own.List, newPath(99)) })
	change(func(own *impl.Paths) { own.List = append(own.List, impl.Path{}) })
	for i := range p.List {
		for _, more := range []int64{1, -1, 256, allNumbers} {
			change(func(own *impl.Paths) { own.List[i].Addr += more })
			change(func(own *impl.Paths) { own.List[i].Errors += more })
			change(func(own *impl.Paths) { own.List[i].Rto += more })
		}
		change(func(own *impl.Paths) { own.List[i].Down = !own.List[i].Down })
		change(func(own *impl.Paths) { own.List = slices.Delete(own.List, i, i+1) })
		change(func(own *impl.Paths) { own.List = own.List[:i] })
		change(func(own *impl.Paths) { own.List[0], own.List[i] = own.List[i], own.List[0] })
	}
	change(func(own *impl.Paths) { slices.Reverse(own.List) })
	return list
}

func wantSamePaths(t *testing.T, a impl.Paths, b impl.Paths, want bool) {
	t.Helper()
	if impl.SamePaths(a, b) != want || impl.SamePaths(b, a) != want {
		t.Errorf("SamePaths(%+v, %+v) = %t, or in the other order %t, want %t", a, b, impl.SamePaths(a, b), impl.SamePaths(b, a), want)
	}
}

func TestComparingPaths(t *testing.T) {
	faulty := impl.Paths{First: -5, List: []impl.Path{{Addr: 256, Errors: -1, Rto: 99, Down: true}, {}, {Addr: -allNumbers, Errors: 1 << 40}}}
	for _, p := range []impl.Paths{validPaths(), newPaths(7), newPaths(1, 2), faulty, {}, {First: 3}} {
		for i, a := range changedPaths(p) {
			for j, b := range changedPaths(p) {
				wantSamePaths(t, a, b, i == j || equalPaths(a, b))
			}
		}
		wantSamePaths(t, p, copiedPaths(p), true)
	}
	// Of the changes above, these make a difference for certain.
	p := validPaths()
	for place := range p.List {
		for _, change := range []func(path *impl.Path){
			func(path *impl.Path) { path.Addr = 77 }, func(path *impl.Path) { path.Errors++ }, func(path *impl.Path) { path.Rto-- }, func(path *impl.Path) { path.Down = !path.Down },
		} {
			other := validPaths()
			change(&other.List[place])
			wantSamePaths(t, p, other, false)
		}
		wantSamePaths(t, p, impl.Paths{List: p.List[:place], First: p.First}, false)
	}
	other := validPaths()
	other.First = 7
	wantSamePaths(t, p, other, false)
	wantSamePaths(t, newPaths(1, 2), impl.Paths{List: []impl.Path{newPath(2), newPath(1)}, First: 1}, false)
	wantSamePaths(t, impl.Paths{}, impl.Paths{List: []impl.Path{}}, true)
	wantSamePaths(t, impl.Paths{}, impl.Paths{List: []impl.Path{{}}}, false)
}

func TestAddressesOfPaths(t *testing.T) {
	p := impl.Paths{First: 9, List: []impl.Path{{Addr: 200, Errors: 4, Rto: 1600, Down: true}, {Addr: 9, Errors: 1, Rto: 200}, newPath(1)}}
	if got := impl.AddrsOf(p); got.Code != impl.OK || !slices.Equal(got.List, []int64{200, 9, 1}) {
		t.Errorf("AddrsOf(%+v) = %+v", p, got)
	}
	// What NewPaths was given comes back, and after operations what they made of it.
	eachOrder([]int64{255, 1, 9, 8, 127}, 0, func(order []int64) {
		for count := 1; count <= 5; count++ {
			p := impl.NewPaths(order[:count]).Paths
			if got := impl.AddrsOf(p); got.Code != impl.OK || !slices.Equal(got.List, order[:count]) {
				t.Errorf("AddrsOf(%+v) = %+v, want %v", p, got, order[:count])
			}
		}
		p := impl.NewPaths(order[:4]).Paths
		for _, c := range []struct {
			op   impl.AddrOp
			want []int64
		}{
			{opAdd(order[4]), order}, {opDel(order[1]), []int64{order[0], order[2], order[3]}}, {opDel(order[2]), []int64{order[0], order[1], order[3]}},
			{opDel(order[3]), order[:3]}, {opFirst(order[3]), order[:4]},
		} {
			if got := impl.AddrsOf(impl.ApplyOp(p, c.op).Paths); got.Code != impl.OK || !slices.Equal(got.List, c.want) {
				t.Errorf("after %+v the addresses of %+v are %+v, want %v", c.op, p, got, c.want)
			}
		}
	})
}
