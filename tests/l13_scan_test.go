package tests

import (
	"slices"
	"testing"

	"loop.example/g00251/impl"
)

// channelsOf answers the channels of both kinds of a build.
func channelsOf(t *testing.T, b impl.Build) []impl.Chan {
	t.Helper()
	var both []impl.Chan
	for kind := int64(1); kind <= 2; kind++ {
		start := checkStart(t, b, kind)
		if start.Code != impl.OK {
			t.Fatalf("StartChan(%+v, %d) = %+v", b, kind, start)
		}
		both = append(both, start.Chan)
	}
	return both
}

// checkScanEnds asks for the Trap, the steps, the cells, right side up, and the Sig of a scan.
func checkScanEnds(t *testing.T, b impl.Build, c impl.Chan, inputs []int64, trap, used int64, cells []int64, sig int64) {
	t.Helper()
	got := checkChanScan(t, b, c, inputs)
	if got.Code != impl.OK || got.Trap != trap || got.Used != used || got.Chan.Sig != sig || !slices.Equal(impl.TrueCells(got.Chan).List, cells) {
		t.Errorf("ScanChan(%+v, %+v, %v) = %+v, want the Trap %d, %d steps, %v, the Sig %d", b, c, inputs, got, trap, used, cells, sig)
	}
}

func checkUnscanned(t *testing.T, b impl.Build, c impl.Chan, inputs []int64) {
	t.Helper()
	if got := checkChanScan(t, b, c, inputs); !sameChans(got, impl.ChanResult{Code: impl.ErrForm}) {
		t.Errorf("ScanChan(%+v, %+v, %v) = %+v, want the code %d", b, c, inputs, got, impl.ErrForm)
	}
}

func TestInputsOfScans(t *testing.T) {
	none := impl.BuildText("out x : int; x := x + 1;").Build
	two := impl.BuildText("in a : int; var n : int; in b : bool; n := a; if b then n := a + a; end;").Build
	for i := range 2 {
		c := channelsOf(t, none)[i]
		checkScanEnds(t, none, c, nil, impl.OK, 6, []int64{1}, 4)
		checkScanEnds(t, none, c, []int64{}, impl.OK, 6, []int64{1}, 4)
		checkUnscanned(t, none, c, []int64{0})
		c = channelsOf(t, two)[i]
		for _, inputs := range [][]int64{nil, {}, {1}, {1, 1, 1}, make([]int64, 24), make([]int64, 401)} {
			checkUnscanned(t, two, c, inputs)
		}
		for _, n := range oddNumbers {
			if isNoWord(n) {
				checkUnscanned(t, two, c, []int64{n, 1})
				checkUnscanned(t, two, c, []int64{1, n})
				checkUnscanned(t, two, c, []int64{n})
				continue
			}
			got := checkChanScan(t, two, c, []int64{n, n})
			want := []int64{n, n, 0}
			if n != 0 {
				want = []int64{n, 2 * n % 65536, 1}
			}
			if cells := impl.TrueCells(got.Chan).List; got.Code != impl.OK || got.Trap != impl.OK || !slices.Equal(cells, want) {
				t.Errorf("ScanChan with %d: %+v, want %v", n, got, want)
			}
		}
	}
}

// An input that is a bool is 1, if it is not 0, whatever the cell had.
func TestPortsThatAreBools(t *testing.T) {
	b := impl.Build{Cells: 2, BudgetA: 1, BudgetB: 1, Ports: []impl.Port{{Cell: 1, Bool: true}}}
	b = withCode(b, []int64{impl.AsEnd}, []int64{impl.RsEnd})
	for _, c := range channelsOf(t, b) {
		for _, was := range []int64{0, 1, 2, 65534, 65535} {
			c.Cells = sameWords(2, was)
			left := impl.TrueCells(c).List[0]
			for _, input := range []int64{0, 1, 2, 255, 256, 32768, 65534, 65535} {
				checkScanEnds(t, b, c, []int64{input}, impl.OK, 1, []int64{left, min(1, input)}, 0)
			}
			b.Ports[0].Bool = false
			for _, input := range []int64{0, 1, 2, 255, 256, 32768, 65534, 65535} {
				checkScanEnds(t, b, c, []int64{input}, impl.OK, 1, []int64{left, input}, 0)
			}
			b.Ports[0].Bool = true
		}
	}
}

// Ports in any order; of two of one cell the later one stands there.
func TestPortsOfOneCell(t *testing.T) {
	for _, c := range []struct {
		ports  []impl.Port
		inputs []int64
		want   []int64
	}{
		{[]impl.Port{{Cell: 0}, {Cell: 0}}, []int64{3, 4}, []int64{4, 9, 9}},
		{[]impl.Port{{Cell: 0}, {Cell: 0, Bool: true}}, []int64{3, 4}, []int64{1, 9, 9}},
		{[]impl.Port{{Cell: 0, Bool: true}, {Cell: 0}}, []int64{3, 4}, []int64{4, 9, 9}},
		{[]impl.Port{{Cell: 0}, {Cell: 0, Bool: true}}, []int64{3, 0}, []int64{0, 9, 9}},
		{[]impl.Port{{Cell: 2}, {Cell: 0}, {Cell: 2}}, []int64{3, 4, 5}, []int64{4, 9, 5}},
		{[]impl.Port{{Cell: 2}, {Cell: 1}, {Cell: 0}}, []int64{3, 4, 5}, []int64{5, 4, 3}},
		{slices.Repeat([]impl.Port{{Cell: 1}}, 24), mixedWords(24, 2), []int64{9, mixedWords(24, 2)[23], 9}},
	} {
		b := withCode(impl.Build{Cells: 3, BudgetA: 5, BudgetB: 5, Ports: c.ports}, []int64{impl.AsEnd}, []int64{impl.RsEnd})
		both := channelsOf(t, b)
		both[0].Cells, both[1].Cells = sameWords(3, 9), sameWords(3, 65526)
		for _, channel := range both {
			checkScanEnds(t, b, channel, c.inputs, impl.OK, 1, c.want, 0)
		}
	}
}

// The channel has as many cells as the build, or there is no scan; its code may be another one.
func TestCellsOfScans(t *testing.T) {
	for _, count := range []int{0, 1, 2, 79, 80} {
		b := withCode(impl.Build{Cells: int64(count), BudgetA: 9, BudgetB: 9}, []int64{impl.AsEnd}, []int64{impl.RsMark, 1, impl.RsEnd})
		for i, c := range channelsOf(t, b) {
			checkScanEnds(t, b, c, nil, impl.OK, int64(i)+1, make([]int64, count), int64(2*i))
			for _, other := range []int{0, 1, 2, 3, 78, 79, 80} {
				c.Cells = mixedWords(other, 6)
				if other == count {
					checkScanEnds(t, b, c, nil, impl.OK, int64(i)+1, impl.TrueCells(c).List, int64(2*i))
				} else {
					checkUnscanned(t, b, c, nil)
					checkUnscanned(t, b, c, []int64{1})
				}
			}
			c.Cells, c.Code, c.Sums = make([]int64, count), nil, nil
			checkScanEnds(t, b, c, nil, impl.ErrForm, 1, impl.TrueCells(c).List, 0)
		}
	}
}

// Each channel has the budget of its kind: with one step too few it is at its end, and what it had then is told.
func TestBudgetsOfScans(t *testing.T) {
	b := impl.BuildText("in a : int; out x : int; x := a + 1;").Build
	for i, c := range channelsOf(t, b) {
		c.Cells = sameWords(2, 300)
		c.Sig = 77
		was := impl.TrueCells(c).List[1]
		for budget := range int64(9) {
			b.BudgetA, b.BudgetB = budget, 20000
			if i == 1 {
				b.BudgetA, b.BudgetB = 0, budget
			}
			cells, sig := []int64{41, was}, int64(0)
			if budget > 0 {
				sig = 4
			}
			if budget > 4 {
				cells[1] = 42
			}
			checkScanEnds(t, b, c, []int64{41}, codeIf(impl.ErrMany, budget < 6), min(6, budget), cells, sig)
		}
	}
	// What has no end takes all of it.
	round := withCode(impl.Build{Cells: 1, BudgetA: 19999, BudgetB: 20000}, []int64{impl.AsMark, 2, impl.AsJump, 0}, []int64{impl.RsJump, 0})
	both := channelsOf(t, round)
	sig := int64(0)
	for range 10000 {
		sig = (31*sig + 3) % 65521
	}
	checkScanEnds(t, round, both[0], nil, impl.ErrMany, 19999, []int64{0}, sig)
	checkScanEnds(t, round, both[1], nil, impl.ErrMany, 20000, []int64{0}, 0)
}

// Behind a mark of 5 and a cell that was set to 77 the code traps in every way: Cells and Sig are what they were then.
func TestScansThatTrap(t *testing.T) {
	b := impl.Build{Cells: 2, Ports: []impl.Port{{Cell: 0}}, BudgetA: 100, BudgetB: 90}
	both := []struct {
		kind  int64
		ahead []int64
		ways  []trapWay
	}{
		{impl.ChanA, []int64{impl.AsMark, 5, impl.AsPush, 77, impl.AsStore, 1}, []trapWay{
			{impl.ErrForm, 1, nil}, {impl.ErrForm, 1, []int64{0}}, {impl.ErrForm, 1, []int64{14}}, {impl.ErrForm, 1, []int64{65535}}, {impl.ErrForm, 1, []int64{impl.AsPush}}, {impl.ErrForm, 1, []int64{impl.AsLoadx, 0}},
			{impl.ErrForm, 1, []int64{impl.AsStore, 0}}, {impl.ErrForm, 1, []int64{impl.AsNeg}}, {impl.ErrForm, 2, []int64{impl.AsPush, 1, impl.AsTwo, 1}}, {impl.ErrForm, 1, []int64{impl.AsLoad, 2}}, {impl.ErrForm, 2, []int64{impl.AsPush, 1, impl.AsStore, 2}},
			{impl.ErrForm, 2, []int64{impl.AsJump, 65535}}, {impl.ErrForm, 2, []int64{impl.AsJump, 9}}, {impl.ErrForm, 81, []int64{impl.AsPush, 1, impl.AsJump, 6}}, {impl.ErrForm, 2, []int64{impl.AsPush, 1, impl.AsLoadx, 1, 2}},
			{impl.ErrForm, 3, []int64{impl.AsPush, 1, impl.AsPush, 1, impl.AsTwo, 0}}, {impl.ErrForm, 3, []int64{impl.AsPush, 1, impl.AsPush, 0, impl.AsTwo, 11}}, {impl.ErrRange, 2, []int64{impl.AsPush, 2, impl.AsLoadx, 0, 2}}, {impl.ErrRange, 2, []int64{impl.AsPush, 65535, impl.AsLoadx, 1, 1}},
			{impl.ErrRange, 3, []int64{impl.AsPush, 1, impl.AsPush, 7, impl.AsStorex, 0, 1}}, {impl.ErrNone, 3, []int64{impl.AsPush, 1, impl.AsPush, 0, impl.AsTwo, impl.OpDiv}}, {impl.ErrNone, 3, []int64{impl.AsLoad, 0, impl.AsPush, 0, impl.AsTwo, impl.OpMod}}, {impl.ErrMany, 97, []int64{impl.AsJump, 6}},
		}},
		{impl.ChanB, []int64{impl.RsMark, 5, impl.RsConst, 0, 65458, impl.RsStore, 1, 0}, []trapWay{
			{impl.ErrForm, 1, nil}, {impl.ErrForm, 1, []int64{0}}, {impl.ErrForm, 1, []int64{14}}, {impl.ErrForm, 1, []int64{65535}}, {impl.ErrForm, 1, []int64{impl.RsConst, 0}}, {impl.ErrForm, 1, []int64{impl.RsTwo, 0, 0, 0}},
			{impl.ErrForm, 1, []int64{impl.RsConst, 24, 0}}, {impl.ErrForm, 1, []int64{impl.RsNeg, 0, 24}}, {impl.ErrForm, 1, []int64{impl.RsTwo, 0, 0, 65535, 1}}, {impl.ErrForm, 1, []int64{impl.RsLoad, 0, 2}}, {impl.ErrForm, 1, []int64{impl.RsStore, 2, 0}},
			{impl.ErrForm, 2, []int64{impl.RsJump, 65535}}, {impl.ErrForm, 2, []int64{impl.RsJump, 11}}, {impl.ErrForm, 2, []int64{impl.RsConst, 3, 65534, impl.RsLoadx, 0, 3, 1, 2}},
			{impl.ErrForm, 1, []int64{impl.RsTwo, 0, 0, 0, 0}}, {impl.ErrForm, 1, []int64{impl.RsTwo, 0, 0, 1, 11}}, {impl.ErrRange, 1, []int64{impl.RsLoadx, 1, 0, 0, 77}}, {impl.ErrRange, 2, []int64{impl.RsConst, 3, 0, impl.RsLoadx, 0, 3, 1, 1}},
			{impl.ErrRange, 1, []int64{impl.RsStorex, 1, 0, 0, 0}}, {impl.ErrNone, 1, []int64{impl.RsTwo, 0, 0, 1, impl.OpDiv}}, {impl.ErrNone, 1, []int64{impl.RsTwo, 0, 0, 23, impl.OpMod}}, {impl.ErrMany, 87, []int64{impl.RsJump, 8}},
		}},
	}
	for _, one := range both {
		for _, way := range one.ways {
			code := slices.Concat(one.ahead, way.behind)
			whole := withCode(b, code, code)
			c := impl.StartChan(whole, one.kind).Chan
			c.Sig, c.Next = 1000, 65535
			checkScanEnds(t, whole, c, []int64{8}, way.trap, 3+way.steps, []int64{8, 77}, 6)
			// The code is that of the channel, whatever the build has.
			checkScanEnds(t, b, c, []int64{8}, way.trap, 3+way.steps, []int64{8, 77}, 6)
		}
	}
}

// trapWay is code, how many of its steps are begun, and the Trap of the last one.
type trapWay struct {
	trap   int64
	steps  int64
	behind []int64
}
