package tests

import (
	"reflect"
	"slices"
	"strings"
	"testing"

	"loop.example/g00251/impl"
)

// compiledProgram is one that may be run, with its code.
type compiledProgram struct {
	tree impl.Tree
	code impl.CodeResult
}

// bareTexts are programs without calls, of which now and then one is wrong.
func bareTexts(count int, seed uint64) []string {
	var texts []string
	for n := range count {
		m := &fitMaker{programMaker: programMaker{state: seed + uint64(n)*7919}, wrongs: []int{0, 0, 0, 100}[n%4]}
		text := "in i:int; in p:bool; in ri:int[2]; out o:int; out b:bool; var n:int; var k:int; var f:bool; var rn:int[3]; out rf:bool[2];\n" + m.statements(m.less(5), 2)
		if impl.ParseText(text).Code == impl.OK {
			texts = append(texts, text)
		}
	}
	return texts
}

// compiledPrograms come from texts without calls, from those of which the calls are told by statements, and from both with
// Nodes in another order.
func compiledPrograms(t *testing.T, count int, seed uint64) []compiledProgram {
	t.Helper()
	m := &programMaker{state: seed}
	trees := []impl.Tree{{}, program(t, declared), program(t, withCost(t, 2000)), program(t, codeOf(400))}
	for _, text := range bareTexts(count, seed) {
		trees = append(trees, program(t, text))
	}
	for _, pair := range expandedPairs(t, count/4, seed) {
		trees = append(trees, pair.made)
	}
	var all []compiledProgram
	for i, tree := range trees {
		if impl.CheckTree(tree).Code == impl.OK && i%3 == 0 {
			tree = otherOrder(m, tree)
		}
		if code := impl.CompileStack(tree); code.Code == impl.OK {
			all = append(all, compiledProgram{tree, code})
		}
	}
	if len(all) < count/3 {
		t.Errorf("just %d of %d programs are compiled", len(all), count)
	}
	return all
}

func TestCompileOfNoise(t *testing.T) {
	m := &programMaker{state: 27}
	codes := map[int64]int{}
	for i, text := range slices.Concat(bareTexts(1500, 7), fitTexts(1500, 7), callTexts(800, 2)) {
		tree := program(t, text)
		if i%3 == 0 && impl.TreeFault(tree) == impl.OK {
			tree = otherOrder(m, tree)
		}
		codes[checkCompiled(t, tree).Code]++
		if made := impl.ExpandTree(tree); i%4 == 0 && made.Code == impl.OK {
			codes[checkCompiled(t, made.Tree).Code]++
		}
	}
	for range 300 {
		if read := impl.ParseText(m.program()); read.Code == impl.OK {
			codes[checkCompiled(t, read.Tree).Code]++
		}
	}
	for _, code := range []int64{impl.OK, impl.ErrForm, impl.ErrMany, impl.ErrRange, impl.ErrNone, impl.ErrText, impl.ErrTaken, impl.ErrType, impl.ErrState} {
		if codes[code] < 10 {
			t.Errorf("just %d programs have the code %d: %v", codes[code], code, codes)
		}
	}
}

// The least and the greatest numbers in every field of the tree and in every list.
func TestStackCodeOfRandomFields(t *testing.T) {
	m := &programMaker{state: 91}
	codes := map[int64]int{}
	ask := func(tree impl.Tree) {
		t.Helper()
		made := checkCompiled(t, tree)
		codes[made.Code]++
		cells := m.hurtWords(m.less(5))
		if faultOf(tree) == impl.OK {
			cells = m.hurtWords(len(cellNames(tree)))
		}
		code := m.hurtWords(m.less(6))
		if made.Code == impl.OK && m.less(4) > 0 {
			code = made.Words
		}
		checkStackScan(t, tree, code, cells, m.hurtWords(portCount(tree)), m.number()*10)
	}
	for range 4000 {
		ask(randomTree(m))
	}
	for _, text := range slices.Concat(bareTexts(300, 13), fitTexts(100, 13), callTexts(60, 13)) {
		right := program(t, text)
		for range 4 {
			hurt := copyTree(right)
			hurtTree(m, &hurt)
			ask(hurt)
		}
	}
	for _, text := range []string{allKinds, declared + "for n := 0 to 2 do rn[n] := -i; end; if not p then b := p; else rb[1] := f and p; end;"} {
		right := program(t, text)
		for at := range right.Nodes {
			for _, n := range append([]int64{2, 3, 4, 5, 9, 10, 11}, oddNumbers...) {
				ask(withNode(right, at, func(node *impl.Node) { node.Kind = n }))
				ask(withNode(right, at, func(node *impl.Node) { node.Op = n }))
				ask(withNode(right, at, func(node *impl.Node) { node.Num = n }))
				ask(withNode(right, at, func(node *impl.Node) { node.Far = n }))
				ask(withNode(right, at, func(node *impl.Node) { node.Kids = append(node.Kids, n) }))
				ask(withNode(right, at, func(node *impl.Node) { node.Then = append(node.Then, n) }))
				ask(withNode(right, at, func(node *impl.Node) { node.Else = []int64{n} }))
			}
		}
		for _, n := range oddNumbers {
			other := copyTree(right)
			other.Body = append(other.Body, n)
			ask(other)
			for _, v := range []impl.Var{{Name: "z", Kind: n, Type: 1}, {Name: "z", Kind: 1, Type: n}, {Name: "z", Kind: 1, Type: 1, Size: n}} {
				other = copyTree(right)
				other.Vars = append(other.Vars, v)
				ask(other)
			}
		}
	}
	if codes[impl.OK] < 300 || codes[impl.ErrForm] < 2000 {
		t.Errorf("codes of trees of random fields: %v", codes)
	}
}

// Odd numbers in the code, the state, the inputs and the budget.
func TestStackScansOfOddNumbers(t *testing.T) {
	tree := program(t, declared+"for n := 0 to 1 do rn[n] := i; rb[n] := p; end; o := rn[i];")
	made := checkCompiled(t, tree)
	for _, n := range oddNumbers {
		for at := range made.Words {
			checkStackScan(t, tree, withWord(made.Words, at, n), sameWords(14, 2), []int64{1, 2}, 200)
		}
		for at := range 14 {
			checkStackScan(t, tree, made.Words, withWord(sameWords(14, 2), at, n), []int64{1, 2}, 200)
		}
		checkStackScan(t, tree, made.Words, sameWords(14, 2), []int64{n, 2}, 200)
		checkStackScan(t, tree, made.Words, sameWords(14, 2), []int64{1, n}, 200)
		checkStackScan(t, tree, made.Words, sameWords(14, n), []int64{n, n}, n)
		checkStackScan(t, tree, sameWords(6, n), sameWords(14, 2), []int64{1, 2}, 200)
		checkStackScan(t, tree, made.Words, sameWords(14, 2), []int64{1, 2}, n)
	}
}

func TestStackScansOfNoise(t *testing.T) {
	m := &codeMaker{programMaker: programMaker{state: 57}}
	codes := map[int64]int{}
	for _, text := range slices.Concat(bareTexts(1000, 19), fitTexts(400, 19), callTexts(200, 19)) {
		tree := program(t, text)
		own := impl.CompileStack(tree)
		for range 3 {
			code, budget := own.Words, own.Worst
			switch m.less(4) {
			case 0:
				code, budget = m.codeOfNoise(len(cellNames(tree))), int64(m.less(100))
			case 1:
				budget = int64(m.less(int(own.Worst) + 2))
			case 2:
				if own.Code == impl.OK {
					code = withWord(code, m.less(len(code)), m.word())
				}
				budget = 300
			}
			codes[checkStackScan(t, tree, code, m.hurtWords(len(cellNames(tree))), m.hurtWords(portCount(tree)), budget).Code]++
		}
	}
	for _, code := range []int64{impl.OK, impl.ErrForm, impl.ErrMany, impl.ErrRange, impl.ErrNone, impl.ErrType} {
		if codes[code] < 50 {
			t.Errorf("just %d scans have the code %d: %v", codes[code], code, codes)
		}
	}
}

// Promise 10: what is compiled does what the program means, over several scans and from any state: the same code, and with
// none the same cells and Outs, within its Worst.
func TestStackCodeDoesWhatTheProgramMeans(t *testing.T) {
	m := &programMaker{state: 63}
	codes := map[int64]int{}
	follow := func(p compiledProgram, cells []int64, list [][]int64) {
		t.Helper()
		for _, inputs := range list {
			state := impl.State{Cells: cells}
			told, got := impl.ScanTree(p.tree, state, inputs), impl.ScanStack(p.tree, p.code.Words, state, inputs, p.code.Worst)
			if told.Code != got.Code || !slices.Equal(told.State.Cells, got.State.Cells) || !slices.Equal(told.Outs, got.Outs) || got.Steps > p.code.Worst || got.Steps < 1 {
				t.Fatalf("%s from %v with %v: %v; its code %v, of the Worst %d: %v", showTree(p.tree), cells, inputs, told, p.code.Words, p.code.Worst, got)
			}
			// More than its Worst is of no use, so that no scan hangs on it.
			if more := impl.ScanStack(p.tree, p.code.Words, state, inputs, 20000); !sameScan(more, got) {
				t.Fatalf("%s from %v with %v: %v, and with 20000 steps %v", showTree(p.tree), cells, inputs, got, more)
			}
			codes[got.Code]++
			if got.Code != impl.OK {
				return
			}
			cells = got.State.Cells
		}
	}
	for _, p := range compiledPrograms(t, 1500, 71) {
		count := len(cellNames(p.tree))
		follow(p, make([]int64, count), m.scansFor(p.tree, 6))
		follow(p, m.words(count), m.scansFor(p.tree, 3))
		follow(p, mixedWords(count, m.state), m.scansFor(p.tree, 2))
	}
	for _, code := range []int64{impl.OK, impl.ErrNone, impl.ErrRange} {
		if codes[code] < 200 {
			t.Errorf("just %d scans have the code %d: %v", codes[code], code, codes)
		}
	}
}

// Promise 8 and 10 together: what has calls gives out the same by the code of its statements.
func TestStackCodeOfBlocks(t *testing.T) {
	m := &programMaker{state: 39}
	scans := 0
	for _, pair := range expandedPairs(t, 400, 29) {
		code := impl.CompileStack(pair.made)
		if code.Code != impl.OK {
			continue
		}
		list := m.scansFor(pair.told, 12)
		told := impl.RunScans(pair.told, list)
		cells := zeros(t, pair.made)
		for at, inputs := range list {
			got := impl.ScanStack(pair.made, code.Words, impl.State{Cells: cells}, inputs, code.Worst)
			if int64(at) == told.Failed {
				if got.Code != told.Why {
					t.Fatalf("%s, scan %d: %v, want the code %d", showTree(pair.told), at, got, told.Why)
				}
				break
			}
			if got.Code != impl.OK || !slices.Equal(got.Outs, told.Outs[at]) {
				t.Fatalf("%s, scan %d: %v, want %v", showTree(pair.told), at, got, told.Outs[at])
			}
			cells = got.State.Cells
			scans++
		}
	}
	if scans < 500 {
		t.Errorf("just %d scans", scans)
	}
}

// Promise 10: the Worst is taken where each if asks for what is put in, so that each side is gone to.
func TestWorstIsTaken(t *testing.T) {
	m := &programMaker{state: 5}
	taken := 0
	for range 300 {
		text, asked := "", 0
		var list func(count, deep int)
		list = func(count, deep int) {
			for range count {
				switch choice := m.less(4); {
				case deep == 0 || choice == 0:
					text += m.one("o:=1; o:=-n; f:=p; f:=1; r[1]:=o; r[0]:=-1+o;")
				case choice == 1 && asked < 7:
					// No input is asked for twice.
					text += "if " + string(rune('a'+asked)) + "x then "
					asked++
					list(m.less(3), deep-1)
					text += "else "
					list(m.less(3), deep-1)
					text += "end;"
				default:
					text += "for " + string("nk"[deep%2]) + " := " + m.one("0 1 2") + " to " + m.one("0 1 2") + " do "
					list(m.less(3), deep-1)
					text += "end;"
				}
			}
		}
		list(1+m.less(2), 2)
		tree := program(t, "in p:bool; in ax:bool; in bx:bool; in cx:bool; in dx:bool; in ex:bool; in fx:bool; in gx:bool; out o:int; var f:bool; var n:int; var k:int; var r:int[2]; "+text)
		code := checkCompiled(t, tree)
		if code.Code != impl.OK {
			continue
		}
		most := int64(0)
		for choice := range 1 << asked {
			inputs := make([]int64, 8)
			for i := range asked {
				inputs[i+1] = int64(choice >> i & 1)
			}
			got := impl.ScanStack(tree, code.Words, impl.State{Cells: zeros(t, tree)}, inputs, 20000)
			if got.Code != impl.OK {
				t.Fatalf("%q with %v: %v", text, inputs, got)
			}
			most = max(most, got.Steps)
		}
		if most != code.Worst {
			t.Fatalf("%q takes %d steps at most, Worst is %d", text, most, code.Worst)
		}
		if asked > 1 {
			taken++
		}
	}
	if taken < 50 {
		t.Errorf("just %d programs ask twice or more", taken)
	}
}

// Each statement that is begun and each round has its mark: as many as the steps of the scan, with a code, too.
func TestMarksAreTheStepsOfScans(t *testing.T) {
	m := &programMaker{state: 21}
	codes := map[int64]int{}
	for _, p := range compiledPrograms(t, 500, 87) {
		inputs := m.words(portCount(p.tree))
		state := impl.State{Cells: m.words(len(cellNames(p.tree)))}
		told := impl.ScanTree(p.tree, state, inputs)
		machine := impl.StartStack(impl.LatchInputs(p.tree, state, inputs).List).Machine
		places := impl.MarksOf(p.tree).List
		marks, sig := int64(0), int64(0)
		for range p.code.Worst {
			if machine.Done || machine.Trap != impl.OK {
				break
			}
			if at := machine.Pc; p.code.Words[at] == impl.AsMark {
				mark := p.code.Words[at+1]
				sig = impl.SignOf(sig, mark)
				marks++
				if mark >= 1000 && p.tree.Nodes[mark-1000].Kind != impl.NodeFor || mark < 1000 && !slices.Contains(places, mark) {
					t.Fatalf("the mark %d of %s", mark, showTree(p.tree))
				}
			}
			machine = impl.StepStack(p.code.Words, machine).Machine
		}
		if marks != told.Steps || machine.Sig != sig || machine.Trap != told.Code || machine.Done && len(machine.Stack) != 0 {
			t.Fatalf("%s from %v with %v: %v; %d marks, %v", showTree(p.tree), state, inputs, told, marks, machine)
		}
		codes[told.Code]++
	}
	if codes[impl.OK] < 50 || codes[impl.ErrNone] < 10 || codes[impl.ErrRange] < 10 {
		t.Errorf("codes of scans: %v", codes)
	}
}

// Promise 10: inputs change the cells of inputs alone; of a bool to 0 or 1.
func TestInputsChangeTheirCellsAlone(t *testing.T) {
	m := &programMaker{state: 45}
	for _, tree := range programsThatRun(t)[:600] {
		names := cellNames(tree)
		cells, inputs := m.words(len(names)), m.words(portCount(tree))
		got := impl.LatchInputs(tree, impl.State{Cells: cells}, inputs)
		if got.Code != impl.OK || impl.StateFault(tree, impl.State{Cells: got.List}) != impl.OK {
			t.Fatalf("LatchInputs(%s, %v, %v) = %v", showTree(tree), cells, inputs, got)
		}
		next := 0
		for at, name := range names {
			typ, size, kind := readable(tree, name)
			want := cells[at]
			if kind == impl.VarIn && size == 0 {
				want = inputs[next]
				if typ == impl.TypeBool {
					want = min(1, want)
				}
				next++
			}
			if got.List[at] != want {
				t.Fatalf("LatchInputs(%s, %v, %v) = %v: the cell %d of %q is not %d", showTree(tree), cells, inputs, got, at, name, want)
			}
		}
		// Put in twice they are what they are put in once.
		if again := impl.LatchInputs(tree, impl.State{Cells: got.List}, inputs); !sameInts(again, got) {
			t.Fatalf("LatchInputs(%s, %v, %v) = %v, and then %v", showTree(tree), cells, inputs, got, again)
		}
	}
}

// Promise 1: every function answers, and changes none of its arguments, nor what lies behind them.
func TestStackCodeChangesNoArgument(t *testing.T) {
	m := &programMaker{state: 75}
	texts := slices.Concat(bareTexts(300, 25), callTexts(100, 25))
	for i := range 900 {
		tree := randomTree(m)
		cells, inputs, code := m.hurtWords(m.less(6)), m.hurtWords(portCount(tree)), m.hurtWords(m.less(9))
		if i%4 > 0 {
			tree = program(t, texts[i%len(texts)])
			cells, inputs = m.words(len(cellNames(tree))), m.words(portCount(tree))
			if made := impl.CompileStack(tree); made.Code == impl.OK {
				code = made.Words
			}
		}
		given, before := roomyTree(tree), roomyTree(tree)
		state, list, words := impl.State{Cells: withSpare(cells)}, withSpare(inputs), withSpare(code)
		impl.CompileStack(given)
		impl.MarksOf(given)
		impl.LatchInputs(given, state, list)
		impl.OutsOf(given, state)
		impl.ScanStack(given, words, state, list, 500)
		if !reflect.DeepEqual(wholeTree(given), wholeTree(before)) {
			t.Fatalf("the tree %s was changed", showTree(tree))
		}
		checkRoomy(t, state.Cells, cells)
		checkRoomy(t, list, inputs)
		checkRoomy(t, words, code)
	}
}

// Promise 1: what is told is new memory, and no two lists of one answer share any.
func TestStackCodeIsNewMemory(t *testing.T) {
	m := &programMaker{state: 51}
	for _, p := range compiledPrograms(t, 300, 61) {
		cells, inputs := withSpare(m.words(len(cellNames(p.tree)))), withSpare(m.words(portCount(p.tree)))
		state := impl.State{Cells: cells}
		first, second := impl.ScanStack(p.tree, p.code.Words, state, inputs, p.code.Worst), impl.ScanStack(p.tree, p.code.Words, state, inputs, p.code.Worst)
		shown := showTree(p.tree)
		given := [][]int64{cells, inputs, p.code.Words}
		for _, list := range listsOf(&p.tree) {
			given = append(given, *list)
		}
		made, marks, latch, outs := impl.CompileStack(p.tree), impl.MarksOf(p.tree), impl.LatchInputs(p.tree, state, inputs), impl.OutsOf(p.tree, state)
		answers := [][]int64{made.Words, marks.List, latch.List, outs.List, first.State.Cells, first.Outs, second.State.Cells, second.Outs,
			impl.CompileStack(p.tree).Words, impl.MarksOf(p.tree).List, impl.LatchInputs(p.tree, state, inputs).List, impl.OutsOf(p.tree, state).List}
		for i, list := range answers {
			overwrite(list, int64(-1-i))
		}
		for i, list := range answers {
			for _, word := range list[:cap(list)] {
				if word != int64(-1-i) {
					t.Fatalf("%s: two answers share memory", shown)
				}
			}
		}
		for _, list := range given {
			if slices.ContainsFunc(list[:len(list)], func(n int64) bool { return n < 0 }) {
				t.Fatalf("%s: an answer shares memory with an argument", shown)
			}
		}
		if showTree(p.tree) != shown || !sameCode(impl.CompileStack(p.tree), p.code) {
			t.Fatalf("%s: a change to an answer is seen elsewhere", shown)
		}
	}
}

// Promise 1: an answer hangs on the arguments alone, whatever was asked ahead, and empty and nil are the same.
func TestStackCodeHangsOnArgumentsAlone(t *testing.T) {
	type answers struct {
		code               impl.CodeResult
		marks, latch, outs impl.IntsResult
		scan               impl.ScanResult
	}
	ask := func(at int, tree impl.Tree) answers {
		m := &codeMaker{programMaker: programMaker{state: uint64(at)}}
		made := impl.CompileStack(tree)
		code := made.Words
		if at%3 == 0 {
			code = m.codeOfNoise(len(cellNames(tree)))
		}
		state, inputs := impl.State{Cells: m.hurtWords(len(cellNames(tree)))}, m.hurtWords(portCount(tree))
		return answers{made, impl.MarksOf(tree), impl.LatchInputs(tree, state, inputs), impl.OutsOf(tree, state), impl.ScanStack(tree, code, state, inputs, 400)}
	}
	texts := slices.Concat(bareTexts(250, 35), fitTexts(100, 35), callTexts(80, 35))
	var told []answers
	for at, text := range texts {
		told = append(told, ask(at, program(t, text)))
	}
	for at, text := range slices.Backward(texts) {
		if got := ask(at, copyTree(program(t, strings.Clone(text)))); !reflect.DeepEqual(got, told[at]) {
			t.Fatalf("another answer of %q", text)
		}
	}
	none, empty := []int64{}, impl.Tree{Vars: []impl.Var{}, Nodes: []impl.Node{}, Body: []int64{}}
	if !sameCode(impl.CompileStack(empty), impl.CompileStack(impl.Tree{})) || !sameInts(impl.MarksOf(empty), impl.MarksOf(impl.Tree{})) {
		t.Error("an empty tree and no tree have other answers")
	}
	for _, code := range [][]int64{nil, none, {impl.AsEnd}} {
		one, other := impl.ScanStack(empty, code, impl.State{Cells: none}, none, 5), impl.ScanStack(impl.Tree{}, slices.Clone(code), impl.State{}, nil, 5)
		if !sameScan(one, other) {
			t.Errorf("%v on nothing: %v and %v", code, one, other)
		}
	}
	if one, other := impl.LatchInputs(empty, impl.State{Cells: none}, none), impl.LatchInputs(impl.Tree{}, impl.State{}, nil); !sameInts(one, other) || !sameInts(impl.OutsOf(empty, impl.State{Cells: none}), impl.OutsOf(impl.Tree{}, impl.State{})) {
		t.Error("empty cells and none have other answers")
	}
}
