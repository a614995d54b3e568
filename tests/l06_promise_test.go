package tests

import (
	"reflect"
	"slices"
	"strings"
	"testing"

	"loop.example/g00251/impl"
)

// words answers a list that fits; what may be a bool is one as often as not.
func (m *programMaker) words(count int) []int64 {
	list := make([]int64, count)
	for i := range list {
		switch m.less(4) {
		case 0:
			list[i] = edgeWords[m.less(len(edgeWords))]
		case 1:
			list[i] = int64(m.less(65536))
		default:
			list[i] = int64(m.less(3))
		}
	}
	return list
}

// hurtWords answers a list of which the length or one word does not fit, now and then.
func (m *programMaker) hurtWords(count int) []int64 {
	list := m.words(count)
	switch m.less(12) {
	case 0:
		return append(list, 1)
	case 1:
		return list[:max(0, count-1)]
	case 2:
		if count > 0 {
			list[m.less(count)] = oddNumbers[m.less(len(oddNumbers))]
		}
	}
	return list
}

func portCount(t impl.Tree) int {
	count := 0
	for _, v := range t.Vars {
		if v.Kind == impl.VarIn && v.Size == 0 {
			count++
		}
	}
	return count
}

// scansFor answers inputs that fit.
func (m *programMaker) scansFor(t impl.Tree, count int) [][]int64 {
	var list [][]int64
	for range count {
		list = append(list, m.words(portCount(t)))
	}
	return list
}

func TestScansOfNoise(t *testing.T) {
	m := &programMaker{state: 61}
	codes, whys := map[int64]int{}, map[int64]int{}
	for _, text := range fitTexts(1200, 3) {
		tree := program(t, text)
		for range 3 {
			codes[checkScan(t, tree, m.hurtWords(len(cellNames(tree))), m.hurtWords(portCount(tree))).Code]++
		}
		list := m.scansFor(tree, m.less(43))
		if len(list) > 0 && m.less(4) == 0 {
			at := m.less(len(list))
			list[at] = m.hurtWords(len(list[at]))
		}
		whys[checkScans(t, tree, list).Why]++
	}
	for _, code := range []int64{impl.OK, impl.ErrForm, impl.ErrRange, impl.ErrNone, impl.ErrType} {
		if codes[code] < 50 {
			t.Errorf("just %d scans have the code %d: %v", codes[code], code, codes)
		}
	}
	for _, code := range []int64{impl.OK, impl.ErrForm, impl.ErrRange, impl.ErrNone} {
		if whys[code] < 10 {
			t.Errorf("just %d runs end by the code %d: %v", whys[code], code, whys)
		}
	}
}

// The least and the greatest numbers in every field of the tree and in every list.
func TestScansOfRandomFields(t *testing.T) {
	m := &programMaker{state: 43}
	ask := func(tree impl.Tree) {
		t.Helper()
		var cells []int64
		if faultOf(tree) == impl.OK {
			cells = m.hurtWords(len(cellNames(tree)))
		} else {
			cells = m.hurtWords(m.less(5))
		}
		checkScan(t, tree, cells, m.hurtWords(portCount(tree)))
		checkScans(t, tree, [][]int64{m.hurtWords(portCount(tree)), m.hurtWords(portCount(tree))})
	}
	for range 3000 {
		ask(randomTree(m))
	}
	for _, text := range fitTexts(300, 9) {
		right := program(t, text)
		for range 4 {
			hurt := copyTree(right)
			hurtTree(m, &hurt)
			ask(hurt)
		}
	}
	right := program(t, allKinds)
	for at := range right.Nodes {
		for _, n := range oddNumbers {
			ask(withNode(right, at, func(node *impl.Node) { node.Kind = n }))
			ask(withNode(right, at, func(node *impl.Node) { node.Num = n }))
			ask(withNode(right, at, func(node *impl.Node) { node.Kids = append(node.Kids, n) }))
		}
	}
	tree := program(t, declared+"o := i + ri[1]; b := p;")
	count := int(impl.CellsOf(tree).Value)
	for _, n := range oddNumbers {
		for at := range count {
			checkScan(t, tree, withWord(m.words(count), at, n), m.words(2))
		}
		checkScan(t, tree, m.words(count), []int64{n, n})
		checkScan(t, tree, sameWords(count, n), []int64{n, n})
		checkScans(t, tree, scansOf(3, n, 1))
		checkScans(t, tree, scansOf(3, 1, n))
	}
}

// stepsOf goes scan by scan, and answers each of them.
func stepsOf(t *testing.T, tree impl.Tree, list [][]int64) []impl.ScanResult {
	t.Helper()
	var all []impl.ScanResult
	state := impl.StartState(tree).State
	for _, inputs := range list {
		scan := impl.ScanTree(tree, state, inputs)
		all = append(all, scan)
		if scan.Code != impl.OK {
			break
		}
		state = scan.State
	}
	return all
}

// Promise 7: a scan leaves a state without a fault, in no more steps than the budget.
func TestScansLeaveNoFaultWithinTheBudget(t *testing.T) {
	m := &programMaker{state: 17}
	for _, tree := range programsThatRun(t) {
		budget := impl.CheckTree(tree).Budget
		for _, scan := range stepsOf(t, tree, m.scansFor(tree, 6)) {
			if scan.Steps < 0 || scan.Steps > budget || scan.Code == impl.OK && impl.StateFault(tree, scan.State) != impl.OK {
				t.Fatalf("a scan of %s, of the budget %d: %v", showTree(tree), budget, scan)
			}
		}
		// From any state, too.
		scan := impl.ScanTree(tree, impl.State{Cells: m.words(len(cellNames(tree)))}, m.words(portCount(tree)))
		if scan.Steps > budget || scan.Code == impl.OK && impl.StateFault(tree, scan.State) != impl.OK {
			t.Fatalf("a scan of %s, of the budget %d: %v", showTree(tree), budget, scan)
		}
	}
}

// Promise 7: scans are the same each time from the beginning, one by one and all in one.
func TestScansAreTheSameEachTime(t *testing.T) {
	m := &programMaker{state: 23}
	whole := 0
	for _, tree := range programsThatRun(t)[:600] {
		list := m.scansFor(tree, 12)
		first, second := impl.RunScans(tree, list), impl.RunScans(tree, list)
		if first.Code != impl.OK || !sameScans(first, second) {
			t.Fatalf("two runs of %s: %v and %v", showTree(tree), first, second)
		}
		want := impl.ScansResult{Failed: -1}
		for at, scan := range stepsOf(t, tree, list) {
			if scan.Code != impl.OK {
				want.Failed, want.Why = int64(at), scan.Code
				break
			}
			want.Outs = append(want.Outs, scan.Outs)
		}
		if !sameScans(first, want) {
			t.Fatalf("%s: in one %v, one by one %v", showTree(tree), first, want)
		}
		if first.Failed < 0 {
			whole++
		}
		// What is told of the first scans does not hang on those behind them.
		part := impl.RunScans(tree, list[:5])
		if !slices.EqualFunc(part.Outs, first.Outs[:min(5, len(first.Outs))], slices.Equal[[]int64]) {
			t.Fatalf("%s: 5 scans %v, 12 scans %v", showTree(tree), part, first)
		}
	}
	if whole < 100 {
		t.Errorf("just %d programs ran to the end", whole)
	}
}

// Promise 7: a counter counts by one at most, a timer too, and an edge is seen once.
func TestBlocksStepByOne(t *testing.T) {
	const text = "in p:bool; in r:bool; in n:int; out c:int; out v:int; out q:bool; ctu c(p,r,n); ton t(p,n); rtrig e(p); c := cv; v := tv; q := eq;"
	tree := program(t, text)
	m := &programMaker{state: 31}
	for range 60 {
		list := m.scansFor(tree, 40)
		outs := impl.RunScans(tree, list)
		if outs.Failed != -1 || len(outs.Outs) != 40 {
			t.Fatal(outs)
		}
		counted, timed, held := int64(0), int64(0), false
		for at, out := range outs.Outs {
			if out[0] != counted && out[0] != counted+1 && out[0] != 0 || out[1] != timed && out[1] != timed+1 && out[1] != 0 {
				t.Fatalf("%v: from %d and %d to %v", list[:at+1], counted, timed, out)
			}
			rises := list[at][0] != 0 && !held
			if out[2] != countIf(rises) || out[0] == counted+1 && !rises || list[at][1] != 0 && out[0] != 0 || list[at][0] == 0 && out[1] != 0 {
				t.Fatalf("%v: edge %v, from %d and %d to %v", list[:at+1], rises, counted, timed, out)
			}
			counted, timed, held = out[0], out[1], list[at][0] != 0
		}
	}
	// From any state: one more, as a word, or 0, or the same.
	for range 4000 {
		kept, args := m.words(3), m.words(3)
		ctu, ton := impl.BlockStep(impl.BlockCtu, kept, args).List, impl.BlockStep(impl.BlockTon, kept[:2], args[:2]).List
		more := []int64{0, kept[0], impl.WordOf(kept[0] + 1)}
		if !slices.Contains(more, ctu[0]) || !slices.Contains(more, ton[0]) || kept[0] == 32767 && (ctu[0] == 32768 || ton[0] == 32768) {
			t.Fatalf("from %v with %v: %v, %v", kept, args, ctu, ton)
		}
	}
}

// Promise 7: a bool that is put out is 0 or 1, whatever the inputs are.
func TestBoolsThatArePutOut(t *testing.T) {
	m := &programMaker{state: 37}
	seen := map[int64]int{}
	all := programsThatRun(t)
	for range 30 {
		all = append(all, program(t, "in p:bool; in i:int; out b:bool; out n:int; out r:bool[3]; b := p; n := i; r[1] := not p; rtrig g(p); r[2] := gq;"))
	}
	for _, tree := range all {
		for _, out := range impl.RunScans(tree, m.scansFor(tree, 8)).Outs {
			for _, v := range tree.Vars {
				if v.Kind != impl.VarOut {
					continue
				}
				size := max(1, v.Size)
				for _, word := range out[:size] {
					if v.Type == impl.TypeBool && word != 0 && word != 1 {
						t.Fatalf("%s: the bool %q is %d", showTree(tree), v.Name, word)
					}
					if v.Type == impl.TypeBool {
						seen[word]++
					}
				}
				out = out[size:]
			}
		}
	}
	if seen[0] < 500 || seen[1] < 500 {
		t.Errorf("bools that were put out: %v", seen)
	}
}

// A block does what statements do that reckon the same.
func TestBlocksAsStatements(t *testing.T) {
	const head = "in a:bool; in b:bool; in c:int; "
	for call, lines := range map[string]string{
		"ctu x(a,b,c);": "var xv:int; var xm:bool; var xq:bool; if b then xv := 0; else if a and not xm and (xv < 32767) then xv := xv + 1; end; end; xm := a; xq := not (xv < c);",
		"ton x(a,c);":   "var xv:int; var xq:bool; if not a then xv := 0; else if xv < c then xv := xv + 1; end; end; xq := a and not (xv < c);",
		"rtrig x(a);":   "var xm:bool; var xq:bool; xq := a and not xm; xm := a;",
		"sr x(a,b);":    "var xq:bool; xq := a or xq and not b;",
	} {
		told, made := program(t, head+call), program(t, head+lines)
		m := &programMaker{state: 3}
		for range 3000 {
			begin := m.words(len(cellNames(told)))
			// Where bools are not 0 or 1 the words of their bits are another thing.
			for at, name := range cellNames(told) {
				if typ, _, _ := readable(told, name); typ == impl.TypeBool {
					begin[at] %= 2
				}
			}
			inputs := m.words(3)
			one, other := impl.ScanTree(told, impl.State{Cells: begin}, inputs), impl.ScanTree(made, impl.State{Cells: begin}, inputs)
			if one.Code != impl.OK || !slices.Equal(one.State.Cells, other.State.Cells) {
				t.Fatalf("%q from %v with %v: %v; %q: %v", call, begin, inputs, one, lines, other)
			}
		}
	}
}

// Promise 1: every function answers, and changes none of its arguments, nor what lies behind them.
func TestScansChangeNoArgument(t *testing.T) {
	m := &programMaker{state: 29}
	texts := fitTexts(600, 12)
	for i := range 800 {
		tree := randomTree(m)
		cells, inputs := m.hurtWords(m.less(6)), m.hurtWords(portCount(tree))
		if i%4 > 0 {
			tree = program(t, texts[i%len(texts)])
			cells, inputs = m.words(len(cellNames(tree))), m.words(portCount(tree))
		}
		given, before := roomyTree(tree), roomyTree(tree)
		state, list := impl.State{Cells: withSpare(cells)}, [][]int64{withSpare(inputs), withSpare(inputs), withSpare(inputs)}
		impl.StartState(given)
		impl.StateFault(given, state)
		impl.ScanTree(given, state, list[0])
		impl.RunScans(given, list[:2])
		for at := range int64(len(tree.Nodes) + 2) {
			impl.ValueOf(given, state, at-1)
		}
		if !reflect.DeepEqual(wholeTree(given), wholeTree(before)) {
			t.Fatalf("the tree %s was changed", showTree(tree))
		}
		if wanted := withSpare(cells); !slices.Equal(state.Cells[:len(cells)+3], wanted[:len(cells)+3]) {
			t.Fatalf("the state %v became %v", cells, state.Cells)
		}
		for _, each := range list {
			if wanted := withSpare(inputs); !slices.Equal(each[:len(inputs)+3], wanted[:len(inputs)+3]) {
				t.Fatalf("the inputs %v became %v", inputs, each)
			}
		}
	}
	for op := range int64(6) {
		for _, count := range []int{1, 2, 3} {
			for _, given := range []int{1, 2, 3} {
				kept, args := withSpare(sameWords(count, 1)), withSpare(sameWords(given, 1))
				impl.BlockStep(op, kept, args)
				if !slices.Equal(kept[:count+3], withSpare(sameWords(count, 1))[:count+3]) || !slices.Equal(args[:given+3], withSpare(sameWords(given, 1))[:given+3]) {
					t.Fatalf("BlockStep(%d) changed %v or %v", op, kept, args)
				}
			}
		}
	}
}

// overwrite sets each word that belongs to a list, and what lies behind it.
func overwrite(list []int64, word int64) {
	whole := list[:cap(list)]
	for i := range whole {
		whole[i] = word
	}
}

// Promise 1: what is told is new memory, and no two lists of one answer share any.
func TestScansAreNewMemory(t *testing.T) {
	m := &programMaker{state: 47}
	for _, tree := range programsThatRun(t)[:200] {
		cells, inputs := m.words(len(cellNames(tree))), m.words(portCount(tree))
		keptCells, keptInputs := slices.Clone(cells), slices.Clone(inputs)
		first, second := impl.ScanTree(tree, impl.State{Cells: cells}, inputs), impl.ScanTree(tree, impl.State{Cells: cells}, inputs)
		wantOuts := slices.Clone(second.Outs)
		overwrite(first.State.Cells, -1)
		if !slices.Equal(first.Outs, wantOuts) {
			t.Fatalf("%s: the state and the outs share memory", showTree(tree))
		}
		overwrite(first.Outs, -2)
		if !slices.Equal(cells, keptCells) || !slices.Equal(inputs, keptInputs) || !slices.Equal(second.Outs, wantOuts) || slices.Contains(second.State.Cells, -1) || slices.Contains(first.State.Cells, -2) {
			t.Fatalf("%s: a change to an answer is seen elsewhere", showTree(tree))
		}
		begin := impl.StartState(tree)
		overwrite(begin.State.Cells, -3)
		if slices.Contains(impl.StartState(tree).State.Cells, -3) {
			t.Fatalf("%s: two beginnings share memory", showTree(tree))
		}
		checkRunsShareNothing(t, tree, m.scansFor(tree, 5))
	}
	for op := range int64(4) {
		kept, args := sameWords(len(ownLetters[op+1]), 1), sameWords(len(givenLetters[op+1]), 1)
		got := impl.BlockStep(op+1, kept, args)
		overwrite(got.List, -4)
		if slices.Contains(kept, -4) || slices.Contains(args, -4) || slices.Contains(impl.BlockStep(op+1, kept, args).List, -4) {
			t.Errorf("block %d: a change to an answer is seen elsewhere", op+1)
		}
	}
}

func checkRunsShareNothing(t *testing.T, tree impl.Tree, list [][]int64) {
	t.Helper()
	got, want := impl.RunScans(tree, list), impl.RunScans(tree, list)
	for at, outs := range got.Outs {
		overwrite(outs, int64(-10-at))
	}
	for at, outs := range got.Outs {
		for _, word := range outs[:cap(outs)] {
			if word != int64(-10-at) {
				t.Fatalf("%s: two lists of outs share memory", showTree(tree))
			}
		}
	}
	for _, inputs := range list {
		if slices.ContainsFunc(inputs, func(n int64) bool { return n < 0 }) {
			t.Fatalf("%s: inputs and outs share memory", showTree(tree))
		}
	}
	if !sameScans(want, impl.RunScans(tree, list)) {
		t.Fatalf("%s: a change to an answer is seen elsewhere", showTree(tree))
	}
}

// Promise 1: an answer hangs on the arguments alone, whatever was asked ahead.
func TestScansHangOnArgumentsAlone(t *testing.T) {
	texts := fitTexts(250, 33)
	type answers struct {
		start, scan impl.ScanResult
		scans       impl.ScansResult
		values      []impl.IntResult
		fault       int64
	}
	ask := func(at int, tree impl.Tree) answers {
		m := &programMaker{state: uint64(at)}
		state := impl.State{Cells: m.hurtWords(len(cellNames(tree)))}
		all := answers{start: impl.StartState(tree), fault: impl.StateFault(tree, state), scan: impl.ScanTree(tree, state, m.hurtWords(portCount(tree))), scans: impl.RunScans(tree, m.scansFor(tree, 6))}
		for place := range tree.Nodes {
			all.values = append(all.values, impl.ValueOf(tree, state, int64(place)))
		}
		return all
	}
	var told []answers
	for at, text := range texts {
		told = append(told, ask(at, program(t, text)))
	}
	for at, text := range slices.Backward(texts) {
		if got := ask(at, copyTree(program(t, strings.Clone(text)))); !reflect.DeepEqual(got, told[at]) {
			t.Fatalf("another answer of %q", text)
		}
	}
}
