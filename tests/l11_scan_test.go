package tests

import (
	"math"
	"slices"
	"strconv"
	"testing"

	"loop.example/g00251/impl"
)

// checkRegScanned asks what a scan of any code tells.
func checkRegScanned(t *testing.T, tree impl.Tree, code, cells, inputs []int64, budget int64, want impl.ScanResult) {
	t.Helper()
	if got := checkRegScan(t, tree, code, cells, inputs, budget); !sameScan(got, want) {
		t.Errorf("ScanRegs(%s, %v, %v, %v, %d)\n= %v, want\n  %v", showTree(tree), code, cells, inputs, budget, got, want)
	}
}

func TestRegScansByHand(t *testing.T) {
	tree := program(t, "in a:int; out x:int; var n:int; out f:bool; n := n + a; x := 100 / n; f := n < 4;")
	code := checkRegsMade(t, tree)
	// Each set is a mark, three for its expression and a store; of the bool there is one more.
	begin := []int64{0, 0, 0, 0}
	for _, end := range [][]int64{{3, 33, 3, 1}, {1, 25, 4, 0}, {65535, 33, 3, 1}} {
		want := impl.ScanResult{Steps: 17, State: impl.State{Cells: end}, Outs: []int64{end[1], end[3]}}
		checkRegScanned(t, tree, code.Words, begin, end[:1], code.Worst, want)
		begin = end
	}
	checkRegScanned(t, tree, code.Words, begin, []int64{65533}, code.Worst, impl.ScanResult{Code: impl.ErrNone, Steps: 9})
	if code.Worst != 17 {
		t.Errorf("Worst is %d", code.Worst)
	}
}

// With its own code and Worst, and with other budgets: what is not done then is told by the Trap.
func TestRegScansOfBudgets(t *testing.T) {
	tree := program(t, "in a:int; out x:int; for x := 1 to 2 do end; x := a;")
	code := checkRegsMade(t, tree)
	cells := []int64{4, 5}
	whole := impl.ScanResult{Steps: 34, State: impl.State{Cells: []int64{9, 9}}, Outs: []int64{9}}
	for budget := range int64(34) {
		checkRegScanned(t, tree, code.Words, cells, []int64{9}, budget, impl.ScanResult{Code: impl.ErrMany, Steps: budget})
	}
	for _, budget := range []int64{34, 35, code.Worst, 2000, 19999, 20000} {
		checkRegScanned(t, tree, code.Words, cells, []int64{9}, budget, whole)
	}
	for _, budget := range []int64{-1, 20001, 65536, math.MinInt64, math.MaxInt64} {
		checkRegScanned(t, tree, code.Words, cells, []int64{9}, budget, impl.ScanResult{Code: impl.ErrRange})
	}
	if code.Worst != 34 {
		t.Errorf("Worst is %d", code.Worst)
	}
	// One that never ends.
	for _, budget := range []int64{0, 1, 20000} {
		checkRegScanned(t, tree, []int64{impl.RsJump, 0}, cells, []int64{9}, budget, impl.ScanResult{Code: impl.ErrMany, Steps: budget})
	}
	// All budgets of a program that has a Trap of its own: it is told from the step on with which it comes.
	tree = program(t, "in a:int; out x:int; x := 1; x := 7 / a; x := 2;")
	code = checkRegsMade(t, tree)
	for budget := range int64(14) {
		want := impl.ScanResult{Code: impl.ErrMany, Steps: budget}
		if budget >= 7 {
			want = impl.ScanResult{Code: impl.ErrNone, Steps: 7}
		}
		checkRegScanned(t, tree, code.Words, cells, []int64{0}, budget, want)
	}
}

// Code that does not belong to the tree does what it does on its cells; what a scan is told and tells is right side up.
func TestRegScansOfOtherCode(t *testing.T) {
	tree := program(t, "in a:int; in p:bool; out x:int; var r:int[2]; out f:bool; x := a;")
	cells, inputs := []int64{1, 1, 2, 3, 4, 5}, []int64{10, 20}
	ends := func(steps int64, cells ...int64) impl.ScanResult {
		return impl.ScanResult{Steps: steps, State: impl.State{Cells: cells}, Outs: []int64{cells[2], cells[5]}}
	}
	for _, c := range []struct {
		code []int64
		want impl.ScanResult
	}{
		{[]int64{impl.RsEnd}, ends(1, 10, 1, 2, 3, 4, 5)},
		{[]int64{impl.RsLoad, 3, 0, impl.RsStore, 5, 3, impl.RsEnd}, ends(3, 10, 1, 2, 3, 4, 10)},
		{[]int64{impl.RsConst, 0, 65528, impl.RsStore, 0, 0, impl.RsLoad, 0, 1, impl.RsStore, 2, 0, impl.RsEnd}, ends(5, 7, 1, 1, 3, 4, 5)},
		{[]int64{impl.RsConst, 0, 7, impl.RsStore, 2, 0, impl.RsEnd}, ends(3, 10, 1, 65528, 3, 4, 5)},
		{[]int64{impl.RsStore, 2, 23, impl.RsStore, 5, 0, impl.RsEnd}, ends(3, 10, 1, 0, 3, 4, 0)},
		{[]int64{impl.RsConst, 0, 65533, impl.RsConst, 1, 0, impl.RsStorex, 0, 1, 3, 3, impl.RsEnd, 0, 14}, ends(4, 10, 1, 2, 3, 4, 65535)},
		{nil, impl.ScanResult{Code: impl.ErrForm, Steps: 1}},
		{[]int64{}, impl.ScanResult{Code: impl.ErrForm, Steps: 1}},
		{[]int64{0}, impl.ScanResult{Code: impl.ErrForm, Steps: 1}},
		{[]int64{14}, impl.ScanResult{Code: impl.ErrForm, Steps: 1}},
		{[]int64{65535, 65535}, impl.ScanResult{Code: impl.ErrForm, Steps: 1}},
		{[]int64{impl.RsConst, 0}, impl.ScanResult{Code: impl.ErrForm, Steps: 1}},
		{[]int64{impl.RsConst, 0, 7, impl.RsStore, 2, 0}, impl.ScanResult{Code: impl.ErrForm, Steps: 3}},
		{[]int64{impl.RsConst, 0, 7, impl.RsStore, 6, 0, impl.RsEnd}, impl.ScanResult{Code: impl.ErrForm, Steps: 2}},
		{[]int64{impl.RsMark, 1, impl.RsNeg, 24, 0, impl.RsEnd}, impl.ScanResult{Code: impl.ErrForm, Steps: 2}},
		{[]int64{impl.RsConst, 0, 65533, impl.RsLoadx, 0, 0, 3, 2, impl.RsEnd}, impl.ScanResult{Code: impl.ErrRange, Steps: 2}},
		{[]int64{impl.RsConst, 1, 65533, impl.RsTwo, 0, 1, 2, impl.OpMod, impl.RsEnd}, impl.ScanResult{Code: impl.ErrNone, Steps: 2}},
		{[]int64{impl.RsTwo, 0, 1, 2, 11, impl.RsEnd}, impl.ScanResult{Code: impl.ErrForm, Steps: 1}},
		{[]int64{impl.RsMark, 5, impl.RsJump, 0, impl.RsEnd}, impl.ScanResult{Code: impl.ErrMany, Steps: 50}},
		{append(sameWords(398, impl.RsMark), impl.RsEnd, impl.RsEnd), impl.ScanResult{Code: impl.ErrMany, Steps: 50}},
		{sameWords(400, impl.RsEnd), ends(1, 10, 1, 2, 3, 4, 5)},
		{sameWords(401, impl.RsEnd), impl.ScanResult{Code: impl.ErrMany}},
		{sameWords(401, -1), impl.ScanResult{Code: impl.ErrMany}},
		{[]int64{impl.RsEnd, 65536}, impl.ScanResult{Code: impl.ErrRange}},
		{[]int64{impl.RsEnd, -1}, impl.ScanResult{Code: impl.ErrRange}},
		{[]int64{math.MinInt64}, impl.ScanResult{Code: impl.ErrRange}},
		{[]int64{math.MaxInt64}, impl.ScanResult{Code: impl.ErrRange}},
		// The words of the stack machine mean something else.
		{impl.CompileStack(tree).Words, impl.ScanResult{Code: impl.ErrForm, Steps: 3}},
	} {
		checkRegScanned(t, tree, c.code, cells, inputs, 50, c.want)
		// The code of words is told ahead of that of a budget, and that of inputs and of a state ahead of both.
		if want := (impl.ScanResult{Code: impl.ErrRange}); impl.WordsFault(c.code) == impl.OK {
			checkRegScanned(t, tree, c.code, cells, inputs, 20001, want)
		} else {
			checkRegScanned(t, tree, c.code, cells, inputs, 20001, c.want)
		}
		checkRegScanned(t, tree, c.code, cells, inputs[:1], 20001, impl.ScanResult{Code: impl.ErrForm})
		checkRegScanned(t, tree, c.code, cells, append(inputs, 1), 20001, impl.ScanResult{Code: impl.ErrForm})
		checkRegScanned(t, tree, c.code, cells, withWord(inputs, 1, 65536), 20001, impl.ScanResult{Code: impl.ErrForm})
		checkRegScanned(t, tree, c.code, withWord(cells, 2, 65536), inputs[:1], -1, impl.ScanResult{Code: impl.ErrRange})
		checkRegScanned(t, tree, c.code, cells[:5], inputs, -1, impl.ScanResult{Code: impl.ErrForm})
	}
}

// The code of one program on the cells of another one.
func TestRegScansOfOtherPrograms(t *testing.T) {
	m := &programMaker{state: 83}
	codes := map[int64]int{}
	var all []impl.Tree
	for _, text := range bareTexts(200, 77) {
		if tree := program(t, text); impl.CompileRegs(tree).Code == impl.OK {
			all = append(all, tree)
		}
	}
	all = append(all, program(t, "in i:int; out o:int; o := i;"), program(t, "out o:bool;"), impl.Tree{})
	for range 1000 {
		one, other := all[m.less(len(all))], all[m.less(len(all))]
		if m.less(5) == 0 {
			other = all[len(all)-1-m.less(3)]
		}
		code := impl.CompileRegs(one)
		got := checkRegScan(t, other, code.Words, m.words(len(cellNames(other))), m.words(portCount(other)), code.Worst)
		codes[got.Code]++
	}
	for _, code := range []int64{impl.OK, impl.ErrForm, impl.ErrNone, impl.ErrRange} {
		if codes[code] < 20 {
			t.Errorf("just %d scans have the code %d: %v", codes[code], code, codes)
		}
	}
}

// A tree with calls may be scanned by other code, its blocks' own among the cells.
func TestRegScansOfTreesWithCalls(t *testing.T) {
	tree := program(t, "in p:bool; out u:bool; rtrig g(p); u := gq;")
	checkUnmade(t, tree, impl.ErrState)
	code := []int64{impl.RsLoad, 0, 0, impl.RsLoad, 1, 2, impl.RsNot, 1, 1, impl.RsTwo, 1, 0, 1, impl.OpAnd, impl.RsStore, 3, 1, impl.RsStore, 2, 0, impl.RsStore, 1, 1, impl.RsEnd}
	cells := zeros(t, tree)
	for _, c := range [][]int64{{0, 0, 0, 0, 0}, {9, 1, 1, 1, 1}, {1, 1, 0, 1, 0}, {0, 0, 0, 0, 0}, {1, 1, 1, 1, 1}} {
		want := impl.ScanResult{Steps: 8, State: impl.State{Cells: c[1:]}, Outs: c[2:3]}
		checkRegScanned(t, tree, code, cells, c[:1], 8, want)
		told := impl.ScanTree(tree, impl.State{Cells: cells}, c[:1])
		if told.Code != impl.OK || !slices.Equal(told.State.Cells, c[1:]) {
			t.Errorf("ScanTree from %v with %v: %v", cells, c[:1], told)
		}
		cells = c[1:]
	}
	// 60 cells, of which the last ones are its own.
	wide := program(t, "var a:int[8];var b:int[8];var c:int[8];var d:int[8];var e:int[8];var f:int[8];var h:int[8]; out x:int; ctu g(1, 1, 1);")
	words := mixedWords(60, 8)
	want := impl.ScanResult{Steps: 3, State: impl.State{Cells: withWord(words, 59, 77)}, Outs: words[56:57]}
	checkRegScanned(t, wide, []int64{impl.RsConst, 5, 65535 - 77, impl.RsStore, 59, 5, impl.RsEnd}, words, nil, 3, want)
	checkRegScanned(t, wide, []int64{impl.RsStore, 60, 5, impl.RsEnd}, words, nil, 3, impl.ScanResult{Code: impl.ErrForm, Steps: 1})
	checkRegScanned(t, wide, []int64{impl.RsEnd}, append(words, 1), nil, 3, impl.ScanResult{Code: impl.ErrForm})
}

// checkEnd asks that a scan and those of both codes end in the same way, and with this code.
func checkEnd(t *testing.T, text string, i, code int64) impl.ScanResult {
	t.Helper()
	tree := program(t, declared+text)
	got := checkAllScans(t, tree, withCells(t, tree, map[string]int64{"k": 2, "n": 5}), []int64{i, 1})
	if got.Code != code {
		t.Errorf("%q with %d: %v, want the code %d", text, i, got, code)
	}
	return got
}

// An item of a row read and put, with an index at 0, at the last one, at -1 and one too far, and one that an expression
// makes; ri stands in the cells 2 and 3, rn in 9 to 11, rb in the last ones, 12 and 13. i is put in, k is 2, n is 5.
func TestItemsOfRowsOnRegs(t *testing.T) {
	for i := int64(-3); i <= 5; i++ {
		word := restOf(i)
		fits := func(last int64) int64 {
			if i < 0 || i > last {
				return impl.ErrRange
			}
			return impl.OK
		}
		minus := strconv.Itoa(int(i + 7))
		for _, index := range []string{"i", "(i + k - 2)", "(" + minus + " - 7)", "-(-i)", "(i * 3 / 3)"} {
			checkEnd(t, "o := ri["+index+"];", word, fits(1))
			checkEnd(t, "o := rn["+index+"];", word, fits(2))
			checkEnd(t, "b := rb["+index+"];", word, fits(1))
			checkEnd(t, "o := 4 + rn["+index+"];", word, fits(2))
			for _, value := range []string{"77", "n", "i + 3", "rn[1] - 1"} {
				if got := checkEnd(t, "rn["+index+"] := "+value+";", word, fits(2)); got.Code == impl.OK {
					want := map[string]int64{"77": 77, "n": 5, "i + 3": i + 3, "rn[1] - 1": 65535}[value]
					if got.State.Cells[9+i] != want {
						t.Errorf("rn[%d] := %s: %v", i, value, got)
					}
				}
			}
			for value, want := range map[string]int64{"p": 1, "not p": 0, "n = 5": 1} {
				if got := checkEnd(t, "rb["+index+"] := "+value+";", word, fits(1)); got.Code == impl.OK && got.State.Cells[12+i] != want {
					t.Errorf("rb[%d] := %s: %v", i, value, got)
				}
			}
		}
	}
	for _, index := range []int64{32767, 32768, 65534} {
		checkEnd(t, "o := rn[i];", index, impl.ErrRange)
		checkEnd(t, "rb[i] := p;", index, impl.ErrRange)
	}
	// A row of each size at the first cells and one at the last ones.
	for size := int64(1); size <= 8; size++ {
		number := strconv.Itoa(int(size))
		tree := program(t, "var a:int["+number+"]; in i:int; out x:int; out z:int["+number+"]; x := a[i]; a[i] := z[i] + 1; z[i] := x;")
		cells := mixedWords(int(2*size)+2, 5)
		for i := int64(-1); i <= size; i++ {
			got := checkAllScans(t, tree, cells, []int64{restOf(i)})
			if i < 0 || i == size {
				if got.Code != impl.ErrRange || got.Steps != 3 {
					t.Errorf("rows of %d, %d: %v", size, i, got)
				}
				continue
			}
			want := withWord(withWord(withWord(cells, int(size), i), int(size)+1, cells[i]), int(i), restOf(cells[size+2+i]+1))
			want[size+2+i] = cells[i]
			if got.Code != impl.OK || !slices.Equal(got.State.Cells, want) {
				t.Errorf("rows of %d, %d: %v, want %v", size, i, got, want)
			}
		}
	}
}

// A division by 0 on either side, and in each place where an expression stands.
func TestDivisionsOnRegs(t *testing.T) {
	for _, op := range []string{"/", "mod"} {
		by := "(7 " + op + " i)"
		for i, code := range map[int64]int64{0: impl.ErrNone, 3: impl.OK} {
			for _, text := range []string{
				"o := " + by + ";", "o := 1 + " + by + ";", "o := " + by + " + 1;", "o := " + by + " - " + by + ";", "o := -" + by + ";", "f := " + by + " < 2;", "f := not (2 = " + by + ");",
				"rn[" + by + " - " + by + "] := 5;", "rn[1] := " + by + ";", "rb[1] := " + by + " = 2;", "o := rn[0 * " + by + "];", "if " + by + " = 2 then n := 1; else n := 3; end;",
				"for n := 1 to 2 do o := o + " + by + "; end;", "if p then o := " + by + "; end;", "if not p then else o := " + by + "; end;",
			} {
				checkEnd(t, text, i, code)
			}
		}
		// What is not done has no code.
		checkEnd(t, "if not p then o := "+by+"; end;", 0, impl.OK)
		checkEnd(t, "for n := 1 to 0 do o := "+by+"; end;", 0, impl.OK)
		// The signs of both sides.
		for _, left := range []string{"7", "-7", "32768", "0"} {
			for _, i := range []int64{1, 2, 65535, 65534, 32768, 7} {
				checkEnd(t, "o := ("+left+") "+op+" i;", i, impl.OK)
			}
		}
	}
}

// A bool that is set to what is neither 0 nor 1 keeps 1; what stands in a state is reckoned with as it stands.
func TestBoolsOnRegs(t *testing.T) {
	for _, word := range []int64{0, 1, 2, 6, 256, 32768, 65534, 65535} {
		for _, text := range []string{"b := f;", "b := f and f;", "b := f or p;", "b := f xor p;", "b := not f;", "b := f = p;", "rb[0] := f;", "rb[1] := rb[0];", "f := rb[0]; b := f;", "if f then b := f; else b := p; end;"} {
			tree := program(t, declared+text)
			cells := withCells(t, tree, map[string]int64{"f": word, "rb": word})
			got := checkAllScans(t, tree, cells, []int64{0, word})
			if got.Code != impl.OK || got.Outs[1] > 1 || got.State.Cells[1] != min(1, word) {
				t.Errorf("%q with %d: %v", text, word, got)
			}
		}
	}
	tree := program(t, declared+"b := f; rb[1] := f;")
	got := checkAllScans(t, tree, withCells(t, tree, map[string]int64{"f": 300, "b": 300}), []int64{0, 0})
	if want := []int64{0, 0, 0, 0, 0, 1, 0, 0, 300, 0, 0, 0, 0, 1}; !slices.Equal(got.State.Cells, want) {
		t.Errorf("%v, want the cells %v", got, want)
	}
}
