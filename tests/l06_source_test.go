package tests

import (
	"math"
	"slices"
	"strconv"
	"strings"
	"testing"

	"loop.example/g00251/impl"
)

// zeros answers the state in which a program begins.
func zeros(t *testing.T, tree impl.Tree) []int64 {
	t.Helper()
	start := impl.StartState(tree)
	if start.Code != impl.OK || start.Steps != 0 || len(start.Outs) != 0 || slices.ContainsFunc(start.State.Cells, func(n int64) bool { return n != 0 }) {
		t.Fatalf("StartState(%s) = %v", showTree(tree), start)
	}
	if cells := impl.CellsOf(tree).Value; int64(len(start.State.Cells)) != cells {
		t.Fatalf("StartState(%s) = %v, of %d cells", showTree(tree), start, cells)
	}
	return start.State.Cells
}

// withCells answers a state in which the cells of some names have words, and all others 0.
func withCells(t *testing.T, tree impl.Tree, words map[string]int64) []int64 {
	t.Helper()
	cells := zeros(t, tree)
	for name, word := range words {
		cell := impl.CellOf(tree, name)
		if cell.Code != impl.OK {
			t.Fatalf("no cell of %q", name)
		}
		cells[cell.Value] = word
	}
	return cells
}

func codeIf(code int64, holds bool) int64 {
	if holds {
		return code
	}
	return impl.OK
}

// checkEnds asks what a scan from a state tells: a code and the steps, and with no code the words of some names.
func checkEnds(t *testing.T, text string, begin map[string]int64, inputs []int64, code, steps int64, end map[string]int64) impl.ScanResult {
	t.Helper()
	tree := program(t, text)
	got := checkScan(t, tree, withCells(t, tree, begin), inputs)
	if got.Code != code || got.Steps != steps {
		t.Errorf("%q from %v with %v: code %d, %d steps; want %d, %d", text, begin, inputs, got.Code, got.Steps, code, steps)
		return got
	}
	if code != impl.OK && (len(got.State.Cells) != 0 || len(got.Outs) != 0) {
		t.Errorf("%q: with a code %v", text, got)
	}
	for name, word := range end {
		if cell := impl.CellOf(tree, name).Value; got.State.Cells[cell] != word {
			t.Errorf("%q from %v with %v: %q is %d, want %d", text, begin, inputs, name, got.State.Cells[cell], word)
		}
	}
	return got
}

// checkValue asks what an expression is; n, k and f and the rows have words of their own.
func checkValue(t *testing.T, expression string, code, want int64) {
	t.Helper()
	const head = "in i:int; in p:bool; out o:int; var n:int; var k:int; var f:bool; var rn:int[3]; var rb:bool[2]; "
	cells := []int64{11, 1, 12, 13, 65535, 6, 20, 21, 22, 1, 0, 40, 3, 0}
	tree := program(t, head+"n := "+expression+"; ctu u(p,p,1);")
	set := slices.IndexFunc(tree.Nodes, func(node impl.Node) bool { return node.Kind == impl.NodeSet })
	if impl.CheckTree(tree).Code != impl.OK {
		tree.Nodes[set].Name = "f"
	}
	at := tree.Nodes[set].Kids[0]
	got := impl.ValueOf(tree, impl.State{Cells: cells}, at)
	if got.Code != code || got.Value != want {
		t.Errorf("ValueOf(%q) = %v, want the code %d, %d", expression, got, code, want)
	}
	checkScan(t, tree, cells, []int64{11, 1})
}

// All that asks for a state, of a tree that may not be run.
func TestMeaningOfTreesWithACode(t *testing.T) {
	for _, text := range []string{"var a:int; var a:int;", "sr abcdefgh(1,1);", "y := 1;", "in i:int; i := 1;", "var n:int; n := 1 < 2;", "var n:int; for n := 0 to 1001 do end;", "var n:int; n[0] := 1;", "sr s(1);",
		withCost(t, 2001), strings.Repeat("rtrig r(1); ", 2), "var a:int[8];var b:int[8];var c:int[8];var d:int[8];var e:int[8];var f:int[8];var g:int[8];var h:int[8];"} {
		tree := program(t, text)
		code := impl.CheckTree(tree).Code
		if code == impl.OK {
			t.Fatalf("%q may be run", text)
		}
		checkCodes(t, tree, code)
	}
	faulty := copyTree(program(t, "var n:int; n := 1;"))
	faulty.Body = nil
	checkCodes(t, faulty, impl.ErrForm)
	faulty.Vars[0].Kind = 0
	checkCodes(t, faulty, impl.ErrRange)
	checkCodes(t, impl.Tree{Vars: make([]impl.Var, 25)}, impl.ErrMany)
}

// checkCodes asks that each function tells the code of the tree, ahead of all else that is wrong.
func checkCodes(t *testing.T, tree impl.Tree, code int64) {
	t.Helper()
	for _, cells := range [][]int64{nil, {0}, {-1}, make([]int64, 60), slices.Repeat([]int64{65536}, 61)} {
		state := impl.State{Cells: cells}
		if got := impl.StateFault(tree, state); got != code {
			t.Errorf("StateFault = %d, want %d", got, code)
		}
		for _, at := range []int64{-1, 0, 1, 300} {
			if got := impl.ValueOf(tree, state, at); got != (impl.IntResult{Code: code}) {
				t.Errorf("ValueOf = %v, want %d", got, code)
			}
		}
		if got := impl.ScanTree(tree, state, cells); !sameScan(got, impl.ScanResult{Code: code}) {
			t.Errorf("ScanTree = %v, want %d", got, code)
		}
	}
	if got := impl.StartState(tree); !sameScan(got, impl.ScanResult{Code: code}) {
		t.Errorf("StartState = %v, want %d", got, code)
	}
	for _, count := range []int{0, 1, 40, 41} {
		if got := impl.RunScans(tree, make([][]int64, count)); !sameScans(got, impl.ScansResult{Code: code}) {
			t.Errorf("RunScans = %v, want %d", got, code)
		}
	}
}

func TestStartStates(t *testing.T) {
	for text, cells := range map[string]int{"": 0, "var n:int;": 1, "in a:bool[8]; out b:int;": 9, "ctu c(1,1,1); ton t(1,1); rtrig r(1); sr s(1,1);": 8,
		"var a:int[8];var b:int[8];var c:int[8];var d:int[8];var e:int[8];var f:int[8];var g:int[8];var h:int[4];": 60} {
		if got := zeros(t, program(t, text)); len(got) != cells {
			t.Errorf("%q begins with %v, want %d cells", text, got, cells)
		}
		checkScans(t, program(t, text), nil)
	}
}

func TestFaultsOfStates(t *testing.T) {
	tree := program(t, declared+"sr s(p,p);")
	count := int(impl.CellsOf(tree).Value)
	fault := func(cells []int64, want int64) {
		t.Helper()
		if got := impl.StateFault(tree, impl.State{Cells: cells}); got != want {
			t.Errorf("StateFault(%v) = %d, want %d", cells, got, want)
		}
		if got := checkScan(t, tree, cells, []int64{1, 1}); got.Code != want {
			t.Errorf("ScanTree from %v = %v, want %d", cells, got, want)
		}
		// The fault of the state is asked ahead of the number of inputs, and of the place.
		wantInputs, wantPlace := want, want
		if want == impl.OK {
			wantInputs, wantPlace = impl.ErrForm, impl.ErrForm
		}
		if got := impl.ScanTree(tree, impl.State{Cells: cells}, nil); !sameScan(got, impl.ScanResult{Code: wantInputs}) {
			t.Errorf("ScanTree from %v without inputs = %v, want %d", cells, got, wantInputs)
		}
		if got := impl.ValueOf(tree, impl.State{Cells: cells}, -1); got != (impl.IntResult{Code: wantPlace}) {
			t.Errorf("ValueOf in %v = %v, want %d", cells, got, wantPlace)
		}
	}
	fault(sameWords(count, 0), impl.OK)
	fault(sameWords(count, 65535), impl.OK)
	fault(mixedWords(count, 3), impl.OK)
	for _, other := range []int{count - 1, count + 1, 0, 1, 60, 61, 80, 500} {
		fault(sameWords(other, 0), impl.ErrForm)
		fault(sameWords(other, -1), impl.ErrForm)
	}
	fault(nil, impl.ErrForm)
	for at := range count {
		for _, word := range oddNumbers {
			want := int64(impl.ErrRange)
			if word >= 0 && word <= 65535 {
				want = impl.OK
			}
			fault(withWord(sameWords(count, 1), at, word), want)
		}
	}
	for _, word := range []int64{-1, 65536} {
		if got := impl.StateFault(impl.Tree{}, impl.State{Cells: []int64{word}}); got != impl.ErrForm {
			t.Errorf("StateFault of nothing with %d = %d", word, got)
		}
	}
	if got := impl.StateFault(impl.Tree{}, impl.State{}); got != impl.OK {
		t.Errorf("StateFault of nothing = %d", got)
	}
}

func TestValuesAtNoPlace(t *testing.T) {
	tree := program(t, declared+"n := 1; rn[0] := 2; if p then o := 3; end; for k := 0 to 1 do end; rtrig r(p);")
	state := impl.State{Cells: zeros(t, tree)}
	for at, node := range tree.Nodes {
		got := impl.ValueOf(tree, state, int64(at))
		isStatement := node.Kind >= impl.NodeSet
		if got.Code != codeIf(impl.ErrForm, isStatement) || isStatement && got.Value != 0 {
			t.Errorf("ValueOf of %s = %v", showNode(node), got)
		}
	}
	for _, at := range append([]int64{int64(len(tree.Nodes))}, oddNumbers...) {
		if at >= 0 && at < int64(len(tree.Nodes)) {
			continue
		}
		if got := impl.ValueOf(tree, state, at); got != (impl.IntResult{Code: impl.ErrForm}) {
			t.Errorf("ValueOf at %d = %v", at, got)
		}
	}
	if got := impl.ValueOf(impl.Tree{}, impl.State{}, 0); got != (impl.IntResult{Code: impl.ErrForm}) {
		t.Errorf("ValueOf of nothing = %v", got)
	}
}

func TestValuesOfEachKind(t *testing.T) {
	for expression, want := range map[string]int64{"0": 0, "1": 1, "65535": 65535, "16#8000": 32768, "true": 1, "false": 0,
		"i": 11, "p": 1, "o": 12, "n": 13, "k": 65535, "f": 6, "uv": 40, "um": 3, "uq": 0,
		"rn[0]": 20, "rn[1]": 21, "rn[2]": 22, "rb[0]": 1, "rb[true]": 0, "rn[rn[2] - rn[0]]": 22, "rn[k + 2]": 21, "rn[-k]": 21,
		"-0": 0, "-1": 65535, "-n": 65523, "-k": 1, "-32768": 32768, "-32767": 32769, "- - n": 13, "-true": 65535,
		"not 0": 1, "not 1": 0, "not f": 0, "not not f": 1, "not uq": 1, "not um": 0,
		"n + k": 12, "65535 + 1": 0, "32767 + 1": 32768, "n - k": 14, "0 - 1": 65535, "0 - 32768": 32768, "n * k": 65523, "256 * 256": 0, "255 * 257": 65535,
		"7 / 2": 3, "-7 / 2": 65533, "7 / -2": 65533, "-7 / -2": 3, "k / 2": 0, "32768 / k": 32768, "32768 / 32768": 1, "32767 / 32768": 0,
		"7 mod 2": 1, "-7 mod 2": 65535, "7 mod -2": 1, "-7 mod -2": 65535, "32768 mod k": 0, "32767 mod 32768": 32767,
		// Bools are words as they stand in the cells, and bits are held against bits.
		"f and um": 2, "f or um": 7, "f xor um": 5, "f and 1": 0, "f or 1": 7, "f xor 1": 7, "p and um": 1, "p xor p": 0, "f and f": 6,
		"n < k": 0, "k < n": 1, "k < 0": 1, "0 < k": 0, "32768 < 32767": 1, "32767 < 32768": 0, "n < n": 0, "n <= n": 1, "n > 12": 1, "n >= 14": 0,
		"n = 13": 1, "n = 14": 0, "n <> 13": 0, "k = 65535": 1, "k = -1": 1, "f = um": 0, "f = f": 1, "p = 1": 1, "f = 1": 0, "1 = p": 1, "0 = uq": 1, "f <> p": 1} {
		checkValue(t, expression, impl.OK, want)
	}
}

// Each op with words at the edges of SignedOf on both sides.
func TestOpsAtEdges(t *testing.T) {
	for op, sign := range treeOps {
		kind, target := "int", "n"
		switch int64(op + 1) {
		case impl.OpAnd, impl.OpOr, impl.OpXor:
			kind = "bool"
		}
		if op+1 >= impl.OpAnd {
			target = "f"
		}
		tree := program(t, "var a:"+kind+"; var b:"+kind+"; var n:int; var f:bool; "+target+" := a "+sign+" b;")
		for _, a := range edgeWords {
			for _, b := range edgeWords {
				want := binaryTold(int64(op+1), a, b)
				cells := []int64{a, b, 7, 1}
				if got := impl.ValueOf(tree, impl.State{Cells: cells}, 2); got != want {
					t.Fatalf("%d %s %d is %v, want %v", a, sign, b, got, want)
				}
				scan := impl.ScanTree(tree, impl.State{Cells: cells}, nil)
				switch {
				case scan.Code != want.Code || scan.Steps != 1:
					t.Fatalf("%d %s %d: scanned %v", a, sign, b, scan)
				case want.Code != impl.OK:
				case target == "n":
					cells[2] = want.Value
				default:
					cells[3] = countIf(want.Value != 0)
				}
				if scan.Code == impl.OK && !slices.Equal(scan.State.Cells, cells) {
					t.Fatalf("%d %s %d: scanned %v, want %v", a, sign, b, scan, cells)
				}
			}
		}
	}
	for _, word := range append(slices.Clone(edgeWords), 12345) {
		tree := program(t, "var a:int; var f:bool; a := -a; f := not f;")
		cells := []int64{word, word}
		if got := impl.ValueOf(tree, impl.State{Cells: cells}, 1); got != (impl.IntResult{Value: impl.NegOf(word)}) {
			t.Errorf("- %d is %v", word, got)
		}
		if got := impl.ValueOf(tree, impl.State{Cells: cells}, 4); got != (impl.IntResult{Value: impl.NotOf(word)}) {
			t.Errorf("not %d is %v", word, got)
		}
		checkScan(t, tree, cells, nil)
	}
}

func TestValuesWithACode(t *testing.T) {
	for _, expression := range []string{"7 / 0", "7 mod 0", "n / (k + 1)", "0 / 0", "0 mod 0", "32768 / uv * 0 / 0", "1 + 7 / 0", "7 / 0 + 1", "7 mod 0 * 1", "-(7 / 0)", "not (7 / 0 = 1)", "rn[7 / 0]", "rn[7 mod 0]",
		"(7 / 0) / (n - n)", "(7 / 0 = 1) and p", "p and (7 / 0 = 1)", "uq and (7 / 0 = 1)", "p or (7 / 0 = 1)", "0 * (7 / 0)"} {
		checkValue(t, expression, impl.ErrNone, 0)
	}
	for _, expression := range []string{"rn[-1]", "rn[3]", "rn[65535]", "rn[32768]", "rn[32767]", "rn[k]", "rn[n]", "rb[2]", "rb[-1]", "rn[rn[0]]", "rn[rn[3]]", "-rn[3]", "not rb[2]", "rn[3] + 1", "1 + rn[3]", "rn[3] * 0",
		"rb[2] and uq", "uq and rb[2]", "p or rb[2]"} {
		checkValue(t, expression, impl.ErrRange, 0)
	}
	// Two codes: the left kid ahead of the right one, what is within ahead of that in which it is.
	for expression, code := range map[string]int64{"7 / 0 + rn[3]": impl.ErrNone, "rn[3] + 7 / 0": impl.ErrRange, "rn[3] / 0": impl.ErrRange, "rn[3] mod 0": impl.ErrRange, "0 / rn[3]": impl.ErrRange, "7 / (rn[3] - rn[3])": impl.ErrRange,
		"(7 / 0) / rn[3]": impl.ErrNone, "rn[7 / 0] + rn[3]": impl.ErrNone, "rn[3] + rn[7 / 0]": impl.ErrRange, "rn[7 / 0 + 3]": impl.ErrNone, "rn[rn[3] / 0]": impl.ErrRange, "rb[2] and (7 / 0 = 1)": impl.ErrRange,
		"(7 / 0 = 1) and rb[2]": impl.ErrNone, "7 / 0 < rn[3]": impl.ErrNone, "7 / 0 > rn[3]": impl.ErrRange, "rn[3] < 7 / 0": impl.ErrRange, "rn[3] > 7 / 0": impl.ErrNone, "7 / 0 = rn[3]": impl.ErrNone, "not (rn[3] = 7 mod 0)": impl.ErrRange} {
		checkValue(t, expression, code, 0)
	}
}

// Items of rows of each size, at the places about their ends.
func TestPlacesOfItems(t *testing.T) {
	for size := int64(1); size <= 8; size++ {
		row := strconv.FormatInt(size, 10)
		tree := program(t, "var a:int; var r:int["+row+"]; var b:int; var s:bool["+row+"]; var f:bool; b := r[a]; f := s[a]; r[a] := 9; s[a] := true;")
		items := []int64{1, 4}
		count := int(impl.CellsOf(tree).Value)
		for _, place := range []int64{-1, 0, 1, size - 1, size, size + 1, 9, 255, 256, 32767, -32768, -2} {
			cells := mixedWords(count, uint64(size))
			cells[0] = restOf(place)
			want := []impl.IntResult{{Code: impl.ErrRange}, {Code: impl.ErrRange}}
			if place >= 0 && place < size {
				want = []impl.IntResult{{Value: cells[1+place]}, {Value: cells[2+size+place]}}
			}
			for i, item := range items {
				if got := impl.ValueOf(tree, impl.State{Cells: cells}, item); got != want[i] {
					t.Errorf("a row of %d at %d: %v, want %v", size, place, got, want[i])
				}
			}
			scan := checkScan(t, tree, cells, nil)
			if scan.Code != want[0].Code || scan.Code != impl.OK && scan.Steps != 1 {
				t.Errorf("a row of %d at %d: scanned %v", size, place, scan)
			}
			if scan.Code == impl.OK {
				cells[1+size], cells[2+2*size] = cells[1+place], countIf(cells[2+size+place] != 0)
				cells[1+place], cells[2+size+place] = 9, 1
				if !slices.Equal(scan.State.Cells, cells) {
					t.Errorf("a row of %d at %d: scanned %v, want %v", size, place, scan.State.Cells, cells)
				}
			}
		}
	}
}

func TestInputs(t *testing.T) {
	const head = "in ra:int[2]; in a:int; out o:int; in p:bool; in rb:bool[3]; var n:int; in b:int; in q:bool; "
	tree := program(t, head)
	begin := mixedWords(int(impl.CellsOf(tree).Value), 8)
	for _, inputs := range [][]int64{{0, 0, 0, 0}, {1, 1, 1, 1}, {65535, 65535, 65535, 65535}, {7, 2, 32768, 256}, {0, 32768, 1, 0}} {
		want := slices.Clone(begin)
		want[2], want[4], want[9], want[10] = inputs[0], countIf(inputs[1] != 0), inputs[2], countIf(inputs[3] != 0)
		got := checkScan(t, tree, begin, inputs)
		if got.Code != impl.OK || got.Steps != 0 || !slices.Equal(got.State.Cells, want) || !slices.Equal(got.Outs, []int64{begin[3]}) {
			t.Errorf("with %v: %v, want %v", inputs, got, want)
		}
	}
	wrong := [][]int64{nil, {}, {1}, {1, 1, 1}, {1, 1, 1, 1, 1}, {1, 1, 1, 1, 1, 1}, make([]int64, 9), make([]int64, 401)}
	for _, n := range oddNumbers {
		if n < 0 || n > 65535 {
			wrong = append(wrong, []int64{n, 0, 0, 0}, []int64{0, n, 0, 0}, []int64{0, 0, 0, n}, []int64{n, n, n, n}, []int64{n})
		}
	}
	for _, inputs := range wrong {
		if got := checkScan(t, tree, begin, inputs); !sameScan(got, impl.ScanResult{Code: impl.ErrForm}) {
			t.Errorf("with %v: %v", inputs, got)
		}
	}
	// A row that is an input stays as it is, and what it has is read.
	checkEnds(t, head+"o := ra[1] + a; n := b;", map[string]int64{"ra": 5, "a": 1000}, []int64{3, 9, 77, 0}, impl.OK, 2, map[string]int64{"o": 3, "ra": 5, "a": 3, "p": 1, "n": 77, "q": 0, "b": 77})
	// No inputs, and rows alone.
	for _, text := range []string{"", "in r:int[1];", "in r:bool[8]; in s:int[2];", "out o:int; var n:bool;"} {
		none := program(t, text)
		if got := checkScan(t, none, zeros(t, none), nil); got.Code != impl.OK {
			t.Errorf("%q: %v", text, got)
		}
		if got := checkScan(t, none, zeros(t, none), []int64{0}); got.Code != impl.ErrForm {
			t.Errorf("%q with an input: %v", text, got)
		}
	}
	// They are asked ahead of what the statements tell.
	failing := program(t, "in a:int; var n:int; n := 7 / a;")
	if got := checkScan(t, failing, []int64{0, 0}, []int64{0, 0}); !sameScan(got, impl.ScanResult{Code: impl.ErrForm}) {
		t.Errorf("inputs that do not fit: %v", got)
	}
	if got := checkScan(t, failing, []int64{5, 0}, []int64{0}); !sameScan(got, impl.ScanResult{Code: impl.ErrNone, Steps: 1}) {
		t.Errorf("an input of 0 in place of 5: %v", got)
	}
}

func TestWhatSetsDo(t *testing.T) {
	checkEnds(t, "var n:int; n := 7;", nil, nil, impl.OK, 1, map[string]int64{"n": 7})
	checkEnds(t, "var n:int; n := n + 1; n := n + 1; n := n * n;", map[string]int64{"n": 3}, nil, impl.OK, 3, map[string]int64{"n": 25})
	checkEnds(t, "var n:int; var k:int; n := k; k := n;", map[string]int64{"n": 1, "k": 2}, nil, impl.OK, 2, map[string]int64{"n": 2, "k": 2})
	// What a bool is set to is 1, if it is not 0.
	for _, word := range []int64{0, 1, 2, 3, 255, 256, 32768, 65535} {
		begin := map[string]int64{"f": word, "g": 2 * word % 65536, "r": word}
		got := checkEnds(t, "var f:bool; var g:bool; var r:bool[2]; out b:bool; var s:bool[3]; b := f; s[1] := f; s[2] := r[0];", begin, nil, impl.OK, 3, map[string]int64{"b": countIf(word != 0), "f": word, "r": word})
		if got.State.Cells[6] != countIf(word != 0) || got.State.Cells[7] != countIf(word != 0) || !slices.Equal(got.Outs, []int64{countIf(word != 0)}) {
			t.Errorf("bools that are set to %d: %v", word, got)
		}
		checkEnds(t, "var f:bool; var g:bool; var r:bool; f := f and g; r := f or g;", map[string]int64{"f": word, "g": 2}, nil, impl.OK, 2, map[string]int64{"f": countIf(word&2 != 0), "r": 1})
		checkEnds(t, "var n:int; var r:int[2]; n := n; r[0] := n;", map[string]int64{"n": word}, nil, impl.OK, 2, map[string]int64{"n": word, "r": word})
	}
	checkEnds(t, "var n:int; var f:bool; n := true; f := false;", map[string]int64{"f": 9}, nil, impl.OK, 2, map[string]int64{"n": 1, "f": 0})
	// One that is not set stays, whatever it is.
	checkEnds(t, "out f:bool; out n:int; n := 1;", map[string]int64{"f": 9}, nil, impl.OK, 1, map[string]int64{"f": 9})
}

func TestWhatPutsDo(t *testing.T) {
	const head = "var n:int; var rn:int[3]; var k:int; var rb:bool[2]; var f:bool; "
	got := checkEnds(t, head+"rn[0] := 5; rn[2] := 7; rb[1] := true;", map[string]int64{"n": 1, "k": 2, "f": 3}, nil, impl.OK, 3, nil)
	if !slices.Equal(got.State.Cells, []int64{1, 5, 0, 7, 2, 0, 1, 3}) {
		t.Errorf("rows are put: %v", got)
	}
	// A place that does not fit, asked behind the value.
	for _, place := range []string{"-1", "3", "65535", "32768", "n", "rn[0]", "-n"} {
		checkEnds(t, head+"rn["+place+"] := 1; n := 2;", map[string]int64{"n": 3, "rn": 4}, nil, impl.ErrRange, 1, nil)
		checkEnds(t, head+"rn["+place+"] := 7 / k;", map[string]int64{"n": 3, "rn": 4}, nil, impl.ErrNone, 1, nil)
		checkEnds(t, head+"rn["+place+"] := rn[9] / 0;", map[string]int64{"n": 3, "rn": 4}, nil, impl.ErrRange, 1, nil)
		checkEnds(t, head+"rn["+place+"] := 7 mod 0 + rn[9];", map[string]int64{"n": 3, "rn": 4}, nil, impl.ErrNone, 1, nil)
		checkEnds(t, head+"rb["+place+"] := 7 / k = 1;", map[string]int64{"n": 3, "rn": 4}, nil, impl.ErrNone, 1, nil)
	}
	// The code of the place is asked ahead of the value's.
	checkEnds(t, head+"rn[7 / k] := 1;", nil, nil, impl.ErrNone, 1, nil)
	checkEnds(t, head+"rn[7 / k] := rn[3];", nil, nil, impl.ErrNone, 1, nil)
	checkEnds(t, head+"rn[rn[3]] := 7 / k;", nil, nil, impl.ErrRange, 1, nil)
	checkEnds(t, head+"rn[0] := rn[3];", nil, nil, impl.ErrRange, 1, nil)
	checkEnds(t, head+"rn[0] := 7 / k;", nil, nil, impl.ErrNone, 1, nil)
	checkEnds(t, head+"rb[1] := rb[2];", nil, nil, impl.ErrRange, 1, nil)
	// Its place names what its value names: both are taken ahead of what is put.
	got = checkEnds(t, head+"rn[rn[0]] := rn[0] + 5;", map[string]int64{"rn": 1}, nil, impl.OK, 1, nil)
	if !slices.Equal(got.State.Cells, []int64{0, 1, 6, 0, 0, 0, 0, 0}) {
		t.Errorf("rn[rn[0]] := rn[0] + 5: %v", got)
	}
	got = checkEnds(t, head+"rn[n] := n; n := n + 1; rn[n] := rn[n - 1] * 2; rn[rn[2]] := rn[rn[2]] + 9;", map[string]int64{"n": 1}, nil, impl.OK, 4, nil)
	if !slices.Equal(got.State.Cells, []int64{2, 0, 1, 11, 0, 0, 0, 0}) {
		t.Errorf("rn[n] := n: %v", got)
	}
	got = checkEnds(t, head+"rb[n] := not rb[n]; rb[1 - n] := f;", map[string]int64{"n": 1, "f": 2}, nil, impl.OK, 2, nil)
	if !slices.Equal(got.State.Cells, []int64{1, 0, 0, 0, 0, 1, 1, 2}) {
		t.Errorf("rb[n] := not rb[n]: %v", got)
	}
}

func TestWhatIfsDo(t *testing.T) {
	const head = "in p:bool; var n:int; var f:bool; "
	for _, p := range []int64{0, 1, 2, 65535} {
		end := 1 + countIf(p == 0)
		checkEnds(t, head+"if p then n := 1; else n := 2; end;", nil, []int64{p}, impl.OK, 2, map[string]int64{"n": end})
		checkEnds(t, head+"if p then n := 1; end;", nil, []int64{p}, impl.OK, 1+countIf(p != 0), map[string]int64{"n": countIf(p != 0)})
		checkEnds(t, head+"if p then else n := 2; end; n := n + 1;", nil, []int64{p}, impl.OK, 2+countIf(p == 0), map[string]int64{"n": 1 + 2*countIf(p == 0)})
		checkEnds(t, head+"if p then end; if p then else end;", nil, []int64{p}, impl.OK, 2, nil)
		// What is in a cell is a bool, whatever it is.
		checkEnds(t, head+"if f then n := 1; else n := 2; end;", map[string]int64{"f": p}, []int64{0}, impl.OK, 2, map[string]int64{"n": end})
		checkEnds(t, head+"if p then n := 7 / n; else n := 5; n := 6; end;", nil, []int64{p}, codeIf(impl.ErrNone, p != 0), 2+countIf(p == 0), nil)
	}
	checkEnds(t, head+"if f and true then n := 1; end;", map[string]int64{"f": 2}, []int64{0}, impl.OK, 1, map[string]int64{"n": 0})
	checkEnds(t, head+"if 1 / n = 1 then n := 1; end;", nil, []int64{0}, impl.ErrNone, 1, nil)
	checkEnds(t, head+"if 1 then if 0 then n := 1; else if 1 then n := 2; n := n + 1; end; end; end; n := n * 2;", nil, []int64{0}, impl.OK, 6, map[string]int64{"n": 6})
	// What was done ahead of the if is asked by it, and what it does is not asked again.
	checkEnds(t, head+"f := not f; if f then f := not f; n := 3; else n := 4; end;", nil, []int64{0}, impl.OK, 4, map[string]int64{"n": 3, "f": 0})
}

func TestWhatLoopsDo(t *testing.T) {
	const head = "var i:int; var j:int; var n:int; var k:int; "
	for _, c := range []struct {
		from, to    string
		rounds, end int64
	}{
		{"1", "0", 0, 1}, {"5", "4", 0, 5}, {"1000", "0", 0, 1000}, {"1000", "999", 0, 1000}, {"0", "0", 1, 1}, {"5", "5", 1, 6}, {"1000", "1000", 1, 1001}, {"0", "1", 2, 2}, {"3", "7", 5, 8}, {"998", "1000", 3, 1001}, {"0", "100", 101, 101}, {"900", "1000", 101, 1001},
	} {
		bounds := c.from + " to " + c.to
		checkEnds(t, head+"for i := "+bounds+" do end;", map[string]int64{"i": 77}, nil, impl.OK, 1+c.rounds, map[string]int64{"i": c.end})
		checkEnds(t, head+"for i := "+bounds+" do n := n + 1; k := k * 2 + i; end; j := i;", nil, nil, impl.OK, 2+3*c.rounds, map[string]int64{"i": c.end, "n": c.rounds, "j": c.end})
	}
	checkEnds(t, head+"for i := 500 to 1000 do end; n := i + 1;", nil, nil, impl.OK, 503, map[string]int64{"i": 1001, "n": 1002})
	checkEnds(t, head+"for i := 2 to 5 do n := n * 10 + i; end;", nil, nil, impl.OK, 9, map[string]int64{"i": 6, "n": 2345})
	// Within one another: the inner one begins anew each time, and has its end behind it.
	checkEnds(t, head+"for i := 1 to 3 do for j := 4 to 5 do n := n + i * j; end; k := k + j; end;", map[string]int64{"j": 9}, nil, impl.OK, 1+3*(1+1+2*2+1), map[string]int64{"i": 4, "j": 6, "n": 54, "k": 18})
	checkEnds(t, head+"for i := 1 to 3 do for j := 5 to 4 do n := 1; end; end;", nil, nil, impl.OK, 1+3*2, map[string]int64{"i": 4, "j": 5, "n": 0})
	checkEnds(t, head+"for i := 2 to 1 do for j := 5 to 9 do n := 1; end; end;", map[string]int64{"j": 9}, nil, impl.OK, 1, map[string]int64{"i": 2, "j": 9, "n": 0})
	checkEnds(t, head+"for i := 0 to 1 do for j := 0 to 2 do for k := 0 to 3 do n := n + 1; end; end; end;", nil, nil, impl.OK, 1+2*(1+1+3*(1+1+4*2)), map[string]int64{"i": 2, "j": 3, "k": 4, "n": 24})
	checkEnds(t, head+"for i := 1 to 2 do end; for i := 5 to 6 do n := n + i; end; i := i + 1;", nil, nil, impl.OK, 1+2+1+4+1, map[string]int64{"i": 8, "n": 11})
	checkEnds(t, head+"for i := 1 to 2 do if n < 1 then n := i; else k := i; end; end;", nil, nil, impl.OK, 7, map[string]int64{"n": 1, "k": 2})
	// A variable that is put out is told as it is behind the loop, and rows are gone through.
	got := checkEnds(t, "out o:int; out r:int[4]; for o := 1 to 3 do r[o] := o * o; end;", nil, nil, impl.OK, 7, nil)
	if !slices.Equal(got.Outs, []int64{4, 0, 1, 4, 9}) {
		t.Errorf("outs of a loop: %v", got)
	}
	// A code in a round ends the scan there.
	checkEnds(t, head+"for i := 0 to 9 do n := 7 / (3 - i); end;", nil, nil, impl.ErrNone, 1+4*2, nil)
	checkEnds(t, "var i:int; var n:int; var r:int[3]; for i := 0 to 9 do n := 1; r[i] := 5; n := 2; end;", nil, nil, impl.ErrRange, 1+3*4+3, nil)
}

// How many statements are begun, the one that ends the scan with them.
func TestSteps(t *testing.T) {
	const head = "in p:bool; var n:int; var i:int; var j:int; var r:int[2]; var f:bool; "
	for _, c := range []struct {
		text  string
		code  int64
		steps int64
	}{
		{"", impl.OK, 0}, {"n := 1;", impl.OK, 1}, {"r[0] := 1;", impl.OK, 1}, {"if p then end;", impl.OK, 1}, {"for i := 1 to 0 do n := 1; end;", impl.OK, 1}, {"for i := 0 to 0 do end;", impl.OK, 2}, {"rtrig x(p);", impl.OK, 1},
		{"ctu x(p,p,1); ton y(p,1); rtrig z(p); sr w(p,p);", impl.OK, 4}, {"n := 1; r[0] := 1; if p then end; rtrig x(p);", impl.OK, 4}, {"if p then n := 1; n := 2; else n := 3; end;", impl.OK, 3}, {"if not p then n := 1; n := 2; else n := 3; end;", impl.OK, 2},
		{"if p then rtrig x(p); end; if not p then rtrig y(p); end;", impl.OK, 3}, {"for i := 1 to 3 do for j := 1 to 2 do end; end;", impl.OK, 1 + 3*(1+1+2)},
		{"n := 7 / 0;", impl.ErrNone, 1}, {"n := 1; n := 2; n := 7 mod 0; n := 3;", impl.ErrNone, 3}, {"n := r[2];", impl.ErrRange, 1}, {"n := 1; r[2] := 5;", impl.ErrRange, 2}, {"n := 1; r[1 / 0] := 5;", impl.ErrNone, 2}, {"if 1 / n = 1 then n := 1; end;", impl.ErrNone, 1},
		{"if p then n := 1; n := 7 / 0; n := 2; end; n := 3;", impl.ErrNone, 3}, {"if not p then n := 1; else n := 7 / 0; end;", impl.ErrNone, 2}, {"n := 1; if p then if p then n := r[7]; end; end;", impl.ErrRange, 4},
		{"for i := 0 to 0 do n := 7 / 0; end;", impl.ErrNone, 3}, {"for i := 1 to 3 do r[i] := i; end;", impl.ErrRange, 5}, {"for i := 0 to 3 do for j := 0 to 3 do n := 9 / (5 - i * j); end; end;", impl.OK, 1 + 4*(1+1+4*2)},
		{"for i := 0 to 3 do for j := 0 to 3 do n := 9 / (6 - i * j); end; end;", impl.ErrNone, 1 + 2*(1+1+4*2) + (1 + 1 + 4*2)}, {"rtrig x(1 / n = 1); n := 1;", impl.ErrNone, 1}, {"n := 1; ctu x(p, p, r[2]); n := 2;", impl.ErrRange, 2}, {"ton x(p, 1); ton y(1 / (n - n) = 1, r[2]);", impl.ErrNone, 2},
		{"sr x(r[2] = 1, 1 / n = 1);", impl.ErrRange, 1}, {"sr x(1 / n = 1, r[2] = 1);", impl.ErrNone, 1}, {"ctu x(p, r[2] = 1, 1 / n);", impl.ErrRange, 1},
	} {
		checkEnds(t, head+c.text, nil, []int64{1}, c.code, c.steps, nil)
	}
}

// checkBlock asks what a block's own are behind a step, by itself and in a scan.
func checkBlock(t *testing.T, op int64, kept, args, want []int64) {
	t.Helper()
	got := impl.BlockStep(op, kept, args)
	if got.Code != impl.OK || !slices.Equal(got.List, want) {
		t.Errorf("BlockStep(%d, %v, %v) = %v, want %v", op, kept, args, got, want)
	}
	if told := blockTold(op, kept, args); !slices.Equal(told.List, want) {
		t.Errorf("the second way to BlockStep(%d, %v, %v) = %v, want %v", op, kept, args, told, want)
	}
	names := []string{"a", "b", "c"}[:len(args)]
	text := ""
	for i, letter := range givenLetters[op] {
		text += "var " + names[i] + ":" + map[rune]string{'b': "bool", 'i': "int"}[letter] + "; "
	}
	tree := program(t, text+"var z:int; "+[]string{"", "ctu", "ton", "rtrig", "sr"}[op]+" x("+strings.Join(names, ",")+");")
	scan := checkScan(t, tree, slices.Concat(args, []int64{77}, kept), nil)
	if scan.Code != impl.OK || scan.Steps != 1 || !slices.Equal(scan.State.Cells, slices.Concat(args, []int64{77}, want)) {
		t.Errorf("a scan of block %d from %v with %v: %v, want %v", op, kept, args, scan, want)
	}
}

func TestBlockCtu(t *testing.T) {
	step := func(count, m, q, cu, r, pv int64, want ...int64) {
		t.Helper()
		checkBlock(t, impl.BlockCtu, []int64{count, m, q}, []int64{cu, r, pv}, want)
	}
	step(0, 0, 0, 0, 0, 1, 0, 0, 0)
	step(0, 0, 0, 1, 0, 1, 1, 1, 1)
	step(0, 0, 0, 1, 0, 2, 1, 1, 0)
	step(1, 1, 0, 1, 0, 2, 1, 1, 0)
	step(1, 1, 0, 0, 0, 2, 1, 0, 0)
	step(1, 0, 0, 1, 0, 2, 2, 1, 1)
	step(2, 1, 1, 0, 0, 2, 2, 0, 1)
	step(2, 0, 1, 1, 0, 2, 3, 1, 1)
	// To reset is asked ahead of counting, and the edge is held all the same.
	step(5, 0, 1, 1, 1, 5, 0, 1, 0)
	step(5, 1, 1, 1, 1, 5, 0, 1, 0)
	step(5, 0, 1, 0, 1, 0, 0, 0, 1)
	step(65535, 0, 0, 0, 7, 1, 0, 0, 0)
	// What is not 0 is true.
	step(0, 0, 9, 65535, 0, 1, 1, 1, 1)
	step(0, 2, 0, 256, 0, 1, 0, 1, 0)
	step(9, 0, 0, 1, 32768, 1, 0, 1, 0)
	// The greatest count, and counts that are below 0.
	step(32766, 0, 0, 1, 0, 32767, 32767, 1, 1)
	step(32766, 1, 0, 1, 0, 32767, 32766, 1, 0)
	step(32767, 0, 1, 1, 0, 32767, 32767, 1, 1)
	step(32767, 0, 1, 1, 0, 32768, 32767, 1, 1)
	step(32768, 0, 1, 1, 0, 0, 32769, 1, 0)
	step(32768, 0, 1, 0, 0, 32768, 32768, 0, 1)
	step(65535, 0, 0, 1, 0, 0, 0, 1, 1)
	step(65535, 0, 0, 0, 0, 0, 65535, 0, 0)
	step(65534, 0, 0, 1, 0, 65535, 65535, 1, 1)
	// pv is signed, too.
	step(0, 0, 0, 0, 0, 0, 0, 0, 1)
	step(0, 0, 0, 0, 0, 65535, 0, 0, 1)
	step(0, 0, 0, 0, 0, 32768, 0, 0, 1)
	step(0, 0, 0, 0, 0, 32767, 0, 0, 0)
}

func TestBlockTon(t *testing.T) {
	step := func(count, q, in, pt int64, want ...int64) {
		t.Helper()
		checkBlock(t, impl.BlockTon, []int64{count, q}, []int64{in, pt}, want)
	}
	step(0, 0, 0, 2, 0, 0)
	step(0, 0, 1, 2, 1, 0)
	step(1, 0, 1, 2, 2, 1)
	step(2, 1, 1, 2, 2, 1)
	step(3, 1, 1, 2, 3, 1)
	step(2, 1, 0, 2, 0, 0)
	step(2, 1, 7, 3, 3, 1)
	step(1, 9, 65535, 4, 2, 0)
	// Where there is nothing to wait for.
	step(0, 0, 1, 0, 0, 1)
	step(0, 0, 0, 0, 0, 0)
	step(0, 0, 1, 65535, 0, 1)
	step(0, 1, 0, 65535, 0, 0)
	step(0, 0, 1, 32768, 0, 1)
	// The ends of what is signed.
	step(32766, 0, 1, 32767, 32767, 1)
	step(32765, 0, 1, 32767, 32766, 0)
	step(32767, 0, 1, 32767, 32767, 1)
	step(32767, 1, 0, 32767, 0, 0)
	step(32768, 0, 1, 32767, 32769, 0)
	step(32768, 0, 1, 32768, 32768, 1)
	step(32768, 0, 1, 0, 32769, 0)
	step(65535, 0, 1, 0, 0, 1)
	step(65535, 0, 1, 1, 0, 0)
	step(65535, 0, 1, 65535, 65535, 1)
	step(65534, 0, 1, 65535, 65535, 1)
	step(65535, 1, 0, 0, 0, 0)
}

func TestBlockRtrigAndSr(t *testing.T) {
	for _, held := range []int64{0, 1, 2, 32768, 65535} {
		for _, q := range []int64{0, 1, 9} {
			checkBlock(t, impl.BlockRtrig, []int64{held, q}, []int64{0}, []int64{0, 0})
			for _, clock := range []int64{1, 2, 65535} {
				checkBlock(t, impl.BlockRtrig, []int64{held, q}, []int64{clock}, []int64{1, countIf(held == 0)})
			}
		}
		for _, resets := range []int64{0, 1, 2, 65535} {
			checkBlock(t, impl.BlockSr, []int64{held}, []int64{0, resets}, []int64{countIf(held != 0 && resets == 0)})
			for _, sets := range []int64{1, 2, 32768} {
				checkBlock(t, impl.BlockSr, []int64{held}, []int64{sets, resets}, []int64{1})
			}
		}
	}
}

func TestBlocksAtEdges(t *testing.T) {
	words := []int64{0, 1, 2, 32766, 32767, 32768, 32769, 65534, 65535}
	for op := range int64(4) {
		kept, args := len(ownLetters[op+1]), len(givenLetters[op+1])
		all := eachOf(words, kept+args)
		// Of three and three there are many: every seventh, so that each of the nine words is met at each place.
		step := 1
		if len(all) > 100000 {
			step = 7
		}
		for i := 0; i < len(all); i += step {
			got, want := impl.BlockStep(op+1, all[i][:kept], all[i][kept:]), blockTold(op+1, all[i][:kept], all[i][kept:])
			if got.Code != want.Code || !slices.Equal(got.List, want.List) {
				t.Fatalf("BlockStep(%d, %v) = %v, want %v", op+1, all[i], got, want)
			}
		}
	}
}

// eachOf answers all lists of so many of the words.
func eachOf(words []int64, count int) [][]int64 {
	if count == 0 {
		return [][]int64{nil}
	}
	var all [][]int64
	for _, list := range eachOf(words, count-1) {
		for _, word := range words {
			all = append(all, append(slices.Clone(list), word))
		}
	}
	return all
}

func TestBlocksThatAreNone(t *testing.T) {
	for _, op := range append([]int64{5, 0, -1}, oddNumbers...) {
		if op >= 1 && op <= 4 {
			continue
		}
		for _, list := range [][]int64{nil, {0}, {1, 1}, {1, 1, 1}, {-1}} {
			if got := impl.BlockStep(op, list, list); got.Code != impl.ErrRange || len(got.List) != 0 {
				t.Errorf("BlockStep(%d, %v) = %v", op, list, got)
			}
		}
	}
	refused := func(op int64, kept, args []int64) {
		t.Helper()
		if got := impl.BlockStep(op, kept, args); got.Code != impl.ErrForm || len(got.List) != 0 {
			t.Errorf("BlockStep(%d, %v, %v) = %v", op, kept, args, got)
		}
	}
	for op := int64(1); op <= 4; op++ {
		kept, args := sameWords(len(ownLetters[op]), 1), sameWords(len(givenLetters[op]), 1)
		if got := impl.BlockStep(op, kept, args); got.Code != impl.OK {
			t.Errorf("BlockStep(%d, %v, %v) = %v", op, kept, args, got)
		}
		for _, count := range []int{0, 1, 2, 3, 4, 5, 400, 401} {
			if count != len(kept) {
				refused(op, sameWords(count, 1), args)
			}
			if count != len(args) {
				refused(op, kept, sameWords(count, 1))
			}
		}
		for _, word := range oddNumbers {
			if word >= 0 && word <= 65535 {
				continue
			}
			for at := range kept {
				refused(op, withWord(kept, at, word), args)
			}
			for at := range args {
				refused(op, kept, withWord(args, at, word))
			}
		}
	}
}

// What a call is given is taken of what its own were, and of what was done ahead of it.
func TestCallsInScans(t *testing.T) {
	checkEnds(t, "var n:int; n := 4; ctu c(not cq, cm, cv + n); n := cv;", map[string]int64{"cv": 2, "cm": 0, "cq": 0}, nil, impl.OK, 3, map[string]int64{"n": 3, "cv": 3, "cm": 1, "cq": 0})
	checkEnds(t, "in p:bool; out q:bool; if p then sr s(true, false); else rtrig g(sq); end; q := gq;", map[string]int64{"sq": 1}, []int64{0}, impl.OK, 3, map[string]int64{"q": 1, "sq": 1, "gq": 1, "gm": 1})
	checkEnds(t, "in p:bool; out q:bool; if p then sr s(true, false); else rtrig g(sq); end; q := gq;", map[string]int64{"sq": 0}, []int64{1}, impl.OK, 3, map[string]int64{"q": 0, "sq": 1, "gq": 0, "gm": 0})
	// Calls in another order than their cells.
	tree := program(t, "var n:int; sr a(1,0); ton b(aq,5); ctu c(aq,bq,3); rtrig d(cm); n := cv;")
	slices.Reverse(tree.Body)
	got := checkScan(t, tree, zeros(t, tree), nil)
	if !slices.Equal(got.State.Cells, []int64{0, 1, 0, 0, 0, 0, 0, 0, 0}) || got.Steps != 5 {
		t.Errorf("calls from the last to the first: %v", got)
	}
	slices.Reverse(tree.Body)
	if got := checkScan(t, tree, zeros(t, tree), nil); !slices.Equal(got.State.Cells, []int64{1, 1, 1, 0, 1, 1, 0, 1, 1}) {
		t.Errorf("calls from the first to the last: %v", got)
	}
}

// scansOf answers so many lists of inputs, all the same.
func scansOf(count int, inputs ...int64) [][]int64 {
	return slices.Repeat([][]int64{inputs}, count)
}

// checkOuts asks what the outputs of each scan are.
func checkOuts(t *testing.T, text string, list [][]int64, failed, why int64, want ...[]int64) {
	t.Helper()
	got := checkScans(t, program(t, text), list)
	if !sameScans(got, impl.ScansResult{Failed: failed, Why: why, Outs: want}) {
		t.Errorf("RunScans(%q, %v) = %v; want %d, %d, %v", text, list, got, failed, why, want)
	}
}

func TestScansByHand(t *testing.T) {
	checkOuts(t, "out x : int; var n : int; n := n + 1; x := n * n;", make([][]int64, 3), -1, 0, []int64{1}, []int64{4}, []int64{9})
	checkOuts(t, "out x : int; var n : int; n := n + 1; x := n * n;", nil, -1, 0)
	checkOuts(t, "", nil, -1, 0)
	checkOuts(t, "", make([][]int64, 2), -1, 0, nil, nil)
	checkOuts(t, "in a:int; var n:int; n := a;", scansOf(2, 5), -1, 0, nil, nil)
	checkOuts(t, "in p:bool; out q:bool; out v:int; ctu c(p, false, 2); q := cq; v := cv;", [][]int64{{1}, {1}, {0}, {7}, {0}, {1}}, -1, 0, []int64{0, 1}, []int64{0, 1}, []int64{0, 1}, []int64{1, 2}, []int64{1, 2}, []int64{1, 3})
	checkOuts(t, "in p:bool; out q:bool; out v:int; ton c(p, 2); q := cq; v := cv;", [][]int64{{1}, {1}, {1}, {0}, {1}}, -1, 0, []int64{0, 1}, []int64{1, 2}, []int64{1, 2}, []int64{0, 0}, []int64{0, 1})
	checkOuts(t, "in p:bool; out q:bool; rtrig c(p); q := cq;", [][]int64{{0}, {1}, {2}, {0}, {0}, {3}, {1}}, -1, 0, []int64{0}, []int64{1}, []int64{0}, []int64{0}, []int64{0}, []int64{1}, []int64{0})
	checkOuts(t, "in s:bool; in r:bool; out q:bool; sr c(s, r); q := cq;", [][]int64{{0, 0}, {1, 0}, {0, 0}, {0, 1}, {0, 0}, {1, 1}, {0, 0}}, -1, 0, []int64{0}, []int64{1}, []int64{1}, []int64{0}, []int64{0}, []int64{1}, []int64{1})
}

// All VarOut variables in order, of rows all.
func TestOutsOfRows(t *testing.T) {
	const head = "out a:int; in i:int; out r:int[3]; var n:int; var s:int[2]; out f:bool; out rb:bool[2]; in ri:int[2]; out z:int[1]; "
	checkOuts(t, head, scansOf(1, 4), -1, 0, []int64{0, 0, 0, 0, 0, 0, 0, 0})
	checkOuts(t, head+"a := i; r[1] := i + 1; r[2] := r[1] + 1; n := 9; s[0] := 8; f := true; rb[1] := f; z[0] := 3; rtrig g(f); ctu u(f, f, 1);", scansOf(2, 4), -1, 0, []int64{4, 0, 5, 6, 1, 0, 1, 3}, []int64{4, 0, 5, 6, 1, 0, 1, 3})
	tree := program(t, head)
	cells := mixedWords(int(impl.CellsOf(tree).Value), 4)
	if got := checkScan(t, tree, cells, []int64{0}); !slices.Equal(got.Outs, slices.Concat(cells[:1], cells[2:5], cells[8:11], cells[13:14])) {
		t.Errorf("outs of %v: %v", cells, got.Outs)
	}
}

func TestScans40And41(t *testing.T) {
	const text = "in a:int; out x:int; x := x + a;"
	var outs [][]int64
	for n := range int64(40) {
		outs = append(outs, []int64{2 * (n + 1)})
	}
	checkOuts(t, text, scansOf(40, 2), -1, 0, outs...)
	checkOuts(t, text, scansOf(39, 2), -1, 0, outs[:39]...)
	for _, list := range [][][]int64{scansOf(41, 2), scansOf(41), scansOf(41, -1), scansOf(1000, 2)} {
		if got := checkScans(t, program(t, text), list); !sameScans(got, impl.ScansResult{Code: impl.ErrMany}) {
			t.Errorf("%d scans: %v", len(list), got)
		}
	}
}

// A scan with a code at each place: what was put out ahead of it stays, and no more is run.
func TestScansThatFail(t *testing.T) {
	const text = "in a:int; out x:int; out r:int[2]; x := x + 1; r[a] := 6 / (2 - x + a * 10);"
	checkOuts(t, text, [][]int64{{0}, {1}, {1}}, -1, 0, []int64{1, 6, 0}, []int64{2, 6, 0}, []int64{3, 6, 0})
	checkOuts(t, text, [][]int64{{2}, {1}, {0}}, 0, impl.ErrRange)
	checkOuts(t, text, [][]int64{{1}, {0}, {0}}, 1, impl.ErrNone, []int64{1, 0, 0})
	checkOuts(t, text, [][]int64{{0}, {1}, {65535}}, 2, impl.ErrRange, []int64{1, 6, 0}, []int64{2, 6, 0})
	const good = "in a:int; out x:int; x := 100 / a;"
	for at := range int64(40) {
		list, outs := scansOf(40, 50), scansOf(40, 2)
		list[at] = []int64{0}
		checkOuts(t, good, list, at, impl.ErrNone, outs[:at]...)
		list[at] = nil
		checkOuts(t, good, list, at, impl.ErrForm, outs[:at]...)
		list[at] = []int64{50, 50}
		checkOuts(t, good, list, at, impl.ErrForm, outs[:at]...)
		list[at] = []int64{65536}
		checkOuts(t, good, list, at, impl.ErrForm, outs[:at]...)
	}
	for _, word := range []int64{math.MinInt64, -1, 65536, math.MaxInt64} {
		checkOuts(t, good, [][]int64{{50}, {word}, {50}}, 1, impl.ErrForm, []int64{2})
	}
}
