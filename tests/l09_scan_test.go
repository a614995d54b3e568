package tests

import (
	"math"
	"slices"
	"strings"
	"testing"

	"loop.example/g00251/impl"
)

// checkLatched asks for the cells with the inputs in them, or for a code and nothing else.
func checkLatched(t *testing.T, tree impl.Tree, cells, inputs []int64, code int64, want ...int64) {
	t.Helper()
	if got := impl.LatchInputs(tree, impl.State{Cells: cells}, inputs); !sameInts(got, impl.IntsResult{Code: code, List: want}) {
		t.Errorf("LatchInputs(%s, %v, %v) = %v, want %d, %v", showTree(tree), cells, inputs, got, code, want)
	}
	scan := checkStackScan(t, tree, []int64{impl.AsEnd}, cells, inputs, 1)
	if scan.Code != code || !slices.Equal(scan.State.Cells, want) {
		t.Errorf("ScanStack(%s, %v, %v) = %v, want %d, %v", showTree(tree), cells, inputs, scan, code, want)
	}
}

func TestLatchedInputs(t *testing.T) {
	tree := program(t, "var a:int; in n:int; out x:int; in p:bool; var r:int[2]; in q:bool; in m:int; sr s(p, q);")
	cells := []int64{11, 12, 13, 14, 15, 16, 17, 18, 19}
	checkLatched(t, tree, cells, []int64{1, 0, 1, 4}, impl.OK, 11, 1, 13, 0, 15, 16, 1, 4, 19)
	checkLatched(t, tree, cells, []int64{65535, 65535, 0, 0}, impl.OK, 11, 65535, 13, 1, 15, 16, 0, 0, 19)
	for word, kept := range map[int64]int64{0: 0, 1: 1, 2: 1, 256: 1, 32768: 1, 65535: 1} {
		checkLatched(t, tree, cells, []int64{word, word, word, word}, impl.OK, 11, word, 13, kept, 15, 16, kept, word, 19)
	}
	for count := range 7 {
		if count != 4 {
			checkLatched(t, tree, cells, make([]int64, count), impl.ErrForm)
		}
	}
	for _, odd := range oddNumbers {
		for at := range 4 {
			if odd < 0 || odd > 65535 {
				checkLatched(t, tree, cells, withWord([]int64{1, 2, 3, 4}, at, odd), impl.ErrForm)
			}
		}
	}
	checkLatched(t, tree, cells, make([]int64, 401), impl.ErrForm)
	// Where there are no inputs none must come.
	checkLatched(t, program(t, "var a:int; out b:bool;"), []int64{4, 5}, nil, impl.OK, 4, 5)
	checkLatched(t, program(t, "var a:int; out b:bool;"), []int64{4, 5}, []int64{0}, impl.ErrForm)
	checkLatched(t, impl.Tree{}, nil, nil, impl.OK)
	checkLatched(t, impl.Tree{}, nil, []int64{0}, impl.ErrForm)
}

// Rows that are VarIn stay as they are, and no input stands for them.
func TestLatchedRows(t *testing.T) {
	tree := program(t, "in r:int[2]; in n:int; in s:bool[3]; in p:bool; in z:int[1];")
	cells := []int64{21, 22, 23, 24, 25, 26, 27, 28}
	checkLatched(t, tree, cells, []int64{7, 8}, impl.OK, 21, 22, 7, 24, 25, 26, 1, 28)
	for _, count := range []int{0, 1, 3, 5, 8} {
		checkLatched(t, tree, cells, make([]int64, count), impl.ErrForm)
	}
	checkLatched(t, program(t, "in r:bool[8];"), sameWords(8, 9), nil, impl.OK, 9, 9, 9, 9, 9, 9, 9, 9)
	checkLatched(t, program(t, "in r:bool[8];"), sameWords(8, 9), []int64{1}, impl.ErrForm)
}

// As many inputs as there may be variables.
func TestLatched24Inputs(t *testing.T) {
	text := strings.ReplaceAll(declarations(23), "var ", "in ") + "in x:bool;"
	tree := program(t, text)
	inputs := mixedWords(24, 5)
	checkLatched(t, tree, sameWords(24, 3), inputs, impl.OK, withWord(inputs, 23, 1)...)
	checkLatched(t, tree, sameWords(24, 3), inputs[:23], impl.ErrForm)
	checkLatched(t, tree, sameWords(24, 3), append(inputs, 0), impl.ErrForm)
}

// The fault of the state is told ahead of that of the inputs.
func TestLatchedStates(t *testing.T) {
	tree := program(t, "in n:int; var r:bool[3]; out x:int;")
	cells := []int64{1, 2, 3, 4, 5}
	for _, inputs := range [][]int64{{7}, nil, {-1}, {65536}, {1, 2}} {
		for _, count := range []int{0, 1, 4, 6, 60, 81, 401} {
			checkLatched(t, tree, make([]int64, count), inputs, impl.ErrForm)
			checkLatched(t, tree, sameWords(count, -1), inputs, impl.ErrForm)
		}
		for _, odd := range oddNumbers {
			for at := range cells {
				if odd < 0 || odd > 65535 {
					checkLatched(t, tree, withWord(cells, at, odd), inputs, impl.ErrRange)
				}
			}
		}
	}
	checkLatched(t, tree, cells, []int64{65535}, impl.OK, 65535, 2, 3, 4, 5)
}

func TestOutsOfStates(t *testing.T) {
	const head = "out a:int; in i:int; out r:int[3]; var n:int; var s:int[2]; out f:bool; out rb:bool[2]; in ri:int[2]; out z:int[1]; "
	cells := []int64{1, 2, 3, 4, 5, 6, 7, 8, 9, 10, 11, 12, 13, 65535}
	for text, want := range map[string][]int64{
		head: {1, 3, 4, 5, 9, 10, 11, 65535}, "": nil, "var n:int; in i:int[8]; sr q(1, 1);": nil, "out b:bool;": {1}, "var n:int; out b:bool[2]; var k:int;": {2, 3}, "in n:int; out x:int; rtrig g(1);": {2},
	} {
		tree := program(t, text)
		count := int(impl.CellsOf(tree).Value)
		checkStackScan(t, tree, nil, cells[:count], nil, 0)
		if got := impl.OutsOf(tree, impl.State{Cells: cells[:count]}); !sameInts(got, impl.IntsResult{List: want}) {
			t.Errorf("OutsOf(%q) = %v, want %v", text, got, want)
		}
		for many := range 16 {
			if got := impl.OutsOf(tree, impl.State{Cells: make([]int64, many)}); many != count && !sameInts(got, impl.IntsResult{Code: impl.ErrForm}) {
				t.Errorf("OutsOf(%q) of %d cells = %v", text, many, got)
			}
		}
		for at := range count {
			for _, odd := range []int64{-1, 65536, math.MinInt64, math.MaxInt64} {
				if got := impl.OutsOf(tree, impl.State{Cells: withWord(cells[:count], at, odd)}); !sameInts(got, impl.IntsResult{Code: impl.ErrRange}) {
					t.Errorf("OutsOf(%q) with %d = %v", text, odd, got)
				}
			}
		}
	}
}

// They are what ScanTree tells of the cells that it leaves.
func TestOutsOfScans(t *testing.T) {
	m := &programMaker{state: 15}
	seen := 0
	for _, tree := range programsThatRun(t)[:500] {
		for _, scan := range stepsOf(t, tree, m.scansFor(tree, 4)) {
			if scan.Code != impl.OK {
				continue
			}
			if got := impl.OutsOf(tree, scan.State); !sameInts(got, impl.IntsResult{List: scan.Outs}) {
				t.Fatalf("OutsOf(%s, %v) = %v, want %v", showTree(tree), scan.State, got, scan.Outs)
			}
			seen++
		}
	}
	if seen < 500 {
		t.Errorf("just %d scans", seen)
	}
}

// checkScanned asks what a scan of any code tells.
func checkScanned(t *testing.T, tree impl.Tree, code, cells, inputs []int64, budget int64, want impl.ScanResult) {
	t.Helper()
	if got := checkStackScan(t, tree, code, cells, inputs, budget); !sameScan(got, want) {
		t.Errorf("ScanStack(%s, %v, %v, %v, %d)\n= %v, want\n  %v", showTree(tree), code, cells, inputs, budget, got, want)
	}
}

func TestStackScansByHand(t *testing.T) {
	tree := program(t, "in a:int; out x:int; var n:int; out f:bool; n := n + a; x := 100 / n; f := n < 4;")
	code := checkCompiled(t, tree)
	// Each set is a mark, three for its expression and a store; of the bool there is one more.
	begin := []int64{0, 0, 0, 0}
	for _, end := range [][]int64{{3, 33, 3, 1}, {1, 25, 4, 0}, {65535, 33, 3, 1}} {
		want := impl.ScanResult{Steps: 17, State: impl.State{Cells: end}, Outs: []int64{end[1], end[3]}}
		checkScanned(t, tree, code.Words, begin, end[:1], code.Worst, want)
		begin = end
	}
	checkScanned(t, tree, code.Words, begin, []int64{65533}, code.Worst, impl.ScanResult{Code: impl.ErrNone, Steps: 9})
	if code.Worst != 17 {
		t.Errorf("Worst is %d", code.Worst)
	}
}

// With its own code and Worst, and with other budgets: what is not done then is told by the Trap.
func TestStackScansOfBudgets(t *testing.T) {
	tree := program(t, "in a:int; out x:int; for x := 1 to 2 do end; x := a;")
	code := checkCompiled(t, tree)
	cells := []int64{4, 5}
	whole := impl.ScanResult{Steps: 34, State: impl.State{Cells: []int64{9, 9}}, Outs: []int64{9}}
	for budget := range int64(34) {
		checkScanned(t, tree, code.Words, cells, []int64{9}, budget, impl.ScanResult{Code: impl.ErrMany, Steps: budget})
	}
	for _, budget := range []int64{34, 35, code.Worst, 2000, 19999, 20000} {
		checkScanned(t, tree, code.Words, cells, []int64{9}, budget, whole)
	}
	for _, budget := range []int64{-1, 20001, 65536, math.MinInt64, math.MaxInt64} {
		checkScanned(t, tree, code.Words, cells, []int64{9}, budget, impl.ScanResult{Code: impl.ErrRange})
	}
	if code.Worst != 34 {
		t.Errorf("Worst is %d", code.Worst)
	}
	// One that never ends.
	for _, budget := range []int64{0, 1, 20000} {
		checkScanned(t, tree, []int64{impl.AsJump, 0}, cells, []int64{9}, budget, impl.ScanResult{Code: impl.ErrMany, Steps: budget})
	}
}

// Code that does not belong to the tree does what it does on its cells.
func TestStackScansOfOtherCode(t *testing.T) {
	tree := program(t, "in a:int; in p:bool; out x:int; var r:int[2]; out f:bool; x := a;")
	cells, inputs := []int64{1, 1, 2, 3, 4, 5}, []int64{10, 20}
	ends := func(steps int64, cells ...int64) impl.ScanResult {
		return impl.ScanResult{Steps: steps, State: impl.State{Cells: cells}, Outs: []int64{cells[2], cells[5]}}
	}
	for _, c := range []struct {
		code []int64
		want impl.ScanResult
	}{
		{[]int64{impl.AsEnd}, ends(1, 10, 1, 2, 3, 4, 5)},
		{[]int64{impl.AsLoad, 0, impl.AsStore, 5, impl.AsEnd}, ends(3, 10, 1, 2, 3, 4, 10)},
		{[]int64{impl.AsPush, 7, impl.AsStore, 0, impl.AsLoad, 1, impl.AsStore, 2, impl.AsEnd}, ends(5, 7, 1, 1, 3, 4, 5)},
		{[]int64{impl.AsPush, 2, impl.AsPush, 65535, impl.AsStorex, 3, 3, impl.AsEnd, 0, 14}, ends(4, 10, 1, 2, 3, 4, 65535)},
		{nil, impl.ScanResult{Code: impl.ErrForm, Steps: 1}},
		{[]int64{}, impl.ScanResult{Code: impl.ErrForm, Steps: 1}},
		{[]int64{0}, impl.ScanResult{Code: impl.ErrForm, Steps: 1}},
		{[]int64{14}, impl.ScanResult{Code: impl.ErrForm, Steps: 1}},
		{[]int64{65535, 65535}, impl.ScanResult{Code: impl.ErrForm, Steps: 1}},
		{[]int64{impl.AsPush}, impl.ScanResult{Code: impl.ErrForm, Steps: 1}},
		{[]int64{impl.AsPush, 7, impl.AsStore, 2}, impl.ScanResult{Code: impl.ErrForm, Steps: 3}},
		{[]int64{impl.AsPush, 7, impl.AsStore, 6, impl.AsEnd}, impl.ScanResult{Code: impl.ErrForm, Steps: 2}},
		{[]int64{impl.AsMark, 1, impl.AsNeg, impl.AsEnd}, impl.ScanResult{Code: impl.ErrForm, Steps: 2}},
		{[]int64{impl.AsPush, 2, impl.AsLoadx, 3, 2, impl.AsEnd}, impl.ScanResult{Code: impl.ErrRange, Steps: 2}},
		{[]int64{impl.AsPush, 2, impl.AsPush, 0, impl.AsTwo, impl.OpMod, impl.AsEnd}, impl.ScanResult{Code: impl.ErrNone, Steps: 3}},
		{[]int64{impl.AsPush, 2, impl.AsPush, 0, impl.AsTwo, 11, impl.AsEnd}, impl.ScanResult{Code: impl.ErrForm, Steps: 3}},
		{[]int64{impl.AsMark, 5, impl.AsJump, 0, impl.AsEnd}, impl.ScanResult{Code: impl.ErrMany, Steps: 50}},
		{append(sameWords(398, impl.AsMark), impl.AsEnd, impl.AsEnd), impl.ScanResult{Code: impl.ErrMany, Steps: 50}},
		{sameWords(400, impl.AsEnd), ends(1, 10, 1, 2, 3, 4, 5)},
		{sameWords(401, impl.AsEnd), impl.ScanResult{Code: impl.ErrMany}},
		{sameWords(401, -1), impl.ScanResult{Code: impl.ErrMany}},
		{[]int64{impl.AsEnd, 65536}, impl.ScanResult{Code: impl.ErrRange}},
		{[]int64{impl.AsEnd, -1}, impl.ScanResult{Code: impl.ErrRange}},
		{[]int64{math.MinInt64}, impl.ScanResult{Code: impl.ErrRange}},
		{[]int64{math.MaxInt64}, impl.ScanResult{Code: impl.ErrRange}},
	} {
		checkScanned(t, tree, c.code, cells, inputs, 50, c.want)
		// The code of words is told ahead of that of a budget, and that of inputs and of a state ahead of both.
		if want := (impl.ScanResult{Code: impl.ErrRange}); impl.WordsFault(c.code) == impl.OK {
			checkScanned(t, tree, c.code, cells, inputs, 20001, want)
		} else {
			checkScanned(t, tree, c.code, cells, inputs, 20001, c.want)
		}
		checkScanned(t, tree, c.code, cells, inputs[:1], 20001, impl.ScanResult{Code: impl.ErrForm})
		checkScanned(t, tree, c.code, withWord(cells, 2, 65536), inputs[:1], -1, impl.ScanResult{Code: impl.ErrRange})
		checkScanned(t, tree, c.code, cells[:5], inputs, -1, impl.ScanResult{Code: impl.ErrForm})
	}
}

// The code of one program on the cells of another one.
func TestStackScansOfOtherPrograms(t *testing.T) {
	m := &programMaker{state: 33}
	codes := map[int64]int{}
	var all []impl.Tree
	for _, text := range bareTexts(200, 51) {
		if tree := program(t, text); impl.CompileStack(tree).Code == impl.OK {
			all = append(all, tree)
		}
	}
	all = append(all, program(t, "in i:int; out o:int; o := i;"), program(t, "out o:bool;"), impl.Tree{})
	for range 1500 {
		one, other := all[m.less(len(all))], all[m.less(len(all))]
		if m.less(5) == 0 {
			other = all[len(all)-1-m.less(3)]
		}
		code := impl.CompileStack(one)
		got := checkStackScan(t, other, code.Words, m.words(len(cellNames(other))), m.words(portCount(other)), code.Worst)
		codes[got.Code]++
	}
	for _, code := range []int64{impl.OK, impl.ErrForm, impl.ErrNone, impl.ErrRange} {
		if codes[code] < 20 {
			t.Errorf("just %d scans have the code %d: %v", codes[code], code, codes)
		}
	}
}

// A tree with calls may be scanned by other code, its blocks' own among the cells.
func TestStackScansOfTreesWithCalls(t *testing.T) {
	tree := program(t, "in p:bool; out u:bool; rtrig g(p); u := gq;")
	checkUncompiled(t, tree, impl.ErrState)
	code := []int64{impl.AsLoad, 0, impl.AsLoad, 2, impl.AsNot, impl.AsTwo, impl.OpAnd, impl.AsStore, 3, impl.AsLoad, 0, impl.AsStore, 2, impl.AsLoad, 3, impl.AsStore, 1, impl.AsEnd}
	cells := zeros(t, tree)
	for _, c := range [][]int64{{0, 0, 0, 0, 0}, {9, 1, 1, 1, 1}, {1, 1, 0, 1, 0}, {0, 0, 0, 0, 0}, {1, 1, 1, 1, 1}} {
		want := impl.ScanResult{Steps: 10, State: impl.State{Cells: c[1:]}, Outs: c[2:3]}
		checkScanned(t, tree, code, cells, c[:1], 10, want)
		told := impl.ScanTree(tree, impl.State{Cells: cells}, c[:1])
		if told.Code != impl.OK || !slices.Equal(told.State.Cells, c[1:]) {
			t.Errorf("ScanTree from %v with %v: %v", cells, c[:1], told)
		}
		cells = c[1:]
	}
	// 60 cells, of which the last ones are its own.
	wide := program(t, "var a:int[8];var b:int[8];var c:int[8];var d:int[8];var e:int[8];var f:int[8];var h:int[8]; out x:int; ctu g(1, 1, 1);")
	words := mixedWords(60, 8)
	want := impl.ScanResult{Steps: 3, State: impl.State{Cells: withWord(words, 59, 77)}, Outs: words[56:57]}
	checkScanned(t, wide, []int64{impl.AsPush, 77, impl.AsStore, 59, impl.AsEnd}, words, nil, 3, want)
	checkScanned(t, wide, []int64{impl.AsPush, 77, impl.AsStore, 60, impl.AsEnd}, words, nil, 3, impl.ScanResult{Code: impl.ErrForm, Steps: 2})
	checkScanned(t, wide, []int64{impl.AsEnd}, append(words, 1), nil, 3, impl.ScanResult{Code: impl.ErrForm})
}

// checkSameEnd asks that a scan of a program and those of its code for both machines end in the same way and with this code,
// and how many steps it tells, and each of them. All cells are 0 ahead of it.
func checkSameEnd(t *testing.T, text string, inputs []int64, code, steps, used int64) {
	t.Helper()
	tree := program(t, declared+text)
	made := checkCompiled(t, tree)
	cells := zeros(t, tree)
	told := checkScan(t, tree, cells, inputs)
	got := checkStackScan(t, tree, made.Words, cells, inputs, made.Worst)
	if told.Code != code || got.Code != code || told.Steps != steps || got.Steps != used || !slices.Equal(told.State.Cells, got.State.Cells) || !slices.Equal(told.Outs, got.Outs) {
		t.Errorf("%q with %v: %v\nits code: %v\nwant %d, %d, %d", text, inputs, told, got, code, steps, used)
	}
	if regs := checkAllScans(t, tree, cells, inputs); regs.Code != code || regs.Steps != used {
		t.Errorf("%q with %v on registers: %v, want %d, %d", text, inputs, regs, code, used)
	}
}

func TestTrapsOfPrograms(t *testing.T) {
	at := func(i int64) []int64 { return []int64{i, 0} }
	checkSameEnd(t, "o := 7 / i;", at(0), impl.ErrNone, 1, 4)
	checkSameEnd(t, "o := 7 / i;", at(65534), impl.OK, 1, 6)
	checkSameEnd(t, "o := 7 mod i;", at(0), impl.ErrNone, 1, 4)
	checkSameEnd(t, "n := 1; if 1 / i = 1 then n := 2; end;", at(0), impl.ErrNone, 2, 7)
	checkSameEnd(t, "for n := 1 to 3 do k := 5 / (n - i); end;", at(2), impl.ErrNone, 5, 33)
	checkSameEnd(t, "o := rn[i];", at(2), impl.OK, 1, 5)
	checkSameEnd(t, "o := rn[i];", at(3), impl.ErrRange, 1, 3)
	checkSameEnd(t, "o := rn[i];", at(65535), impl.ErrRange, 1, 3)
	checkSameEnd(t, "o := rn[i];", at(32768), impl.ErrRange, 1, 3)
	checkSameEnd(t, "rn[i] := 4;", at(3), impl.ErrRange, 1, 4)
	checkSameEnd(t, "rn[i] := 4;", at(65535), impl.ErrRange, 1, 4)
	checkSameEnd(t, "rb[i] := p;", at(2), impl.ErrRange, 1, 5)
	checkSameEnd(t, "rb[i] := p;", at(1), impl.OK, 1, 6)
	// Of two codes the one that is met first is told: whether a place fits is asked behind the second value.
	checkSameEnd(t, "rn[i] := 4 / k;", at(3), impl.ErrNone, 1, 5)
	checkSameEnd(t, "rn[1 / k] := rn[i];", at(3), impl.ErrNone, 1, 4)
	checkSameEnd(t, "rn[rn[i]] := 4 / k;", at(3), impl.ErrRange, 1, 3)
	checkSameEnd(t, "n := rn[i] + 1 / k;", at(3), impl.ErrRange, 1, 3)
	checkSameEnd(t, "n := 1 / k + rn[i];", at(3), impl.ErrNone, 1, 4)
	// What is not done has no code.
	checkSameEnd(t, "if p then n := 1 / 0; else n := 3; end;", at(0), impl.OK, 2, 7)
	checkSameEnd(t, "for n := 1 to 0 do k := 1 / 0; end;", at(0), impl.OK, 1, 9)
}

// Words that are no bool stand in the cells of bools; what is put there is one.
func TestBoolsOfStates(t *testing.T) {
	begin := map[string]int64{"f": 6, "b": 65535}
	for _, text := range []string{"f := b;", "f := f and b;", "f := not b;", "b := f xor b;", "if f then n := 1; else n := 2; end;", "rb[0] := f; rb[1] := b = f;", "rb[1] := f or p; f := rb[0];", "f := f = b;", "if b then f := 5 < n; end; b := f;"} {
		tree := program(t, declared+text)
		made := checkCompiled(t, tree)
		cells := withCells(t, tree, begin)
		cells[12], cells[13] = 300, 400
		told, got := impl.ScanTree(tree, impl.State{Cells: cells}, []int64{0, 4}), checkStackScan(t, tree, made.Words, cells, []int64{0, 4}, made.Worst)
		if told.Code != impl.OK || got.Code != impl.OK || !slices.Equal(told.State.Cells, got.State.Cells) || !slices.Equal(told.Outs, got.Outs) {
			t.Errorf("%q: %v, its code: %v", text, told, got)
		}
		checkAllScans(t, tree, cells, []int64{0, 4})
	}
}
