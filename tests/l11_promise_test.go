package tests

import (
	"reflect"
	"slices"
	"strings"
	"testing"

	"loop.example/g00251/impl"
)

// madeProgram is one that may be run, with its code for both machines.
type madeProgram struct {
	tree  impl.Tree
	stack impl.CodeResult
	regs  impl.CodeResult
}

func madePrograms(t *testing.T, count int, seed uint64) []madeProgram {
	t.Helper()
	var all []madeProgram
	for _, p := range compiledPrograms(t, count, seed) {
		if regs := impl.CompileRegs(p.tree); regs.Code == impl.OK {
			all = append(all, madeProgram{p.tree, p.code, regs})
		}
	}
	if len(all) < count/4 {
		t.Errorf("just %d of %d programs are compiled for registers", len(all), count)
	}
	return all
}

func TestRegCompileOfNoise(t *testing.T) {
	m := &programMaker{state: 127}
	codes := map[int64]int{}
	for i, text := range slices.Concat(bareTexts(1200, 107), fitTexts(1200, 107), callTexts(600, 102)) {
		tree := program(t, text)
		if i%3 == 0 && impl.TreeFault(tree) == impl.OK {
			tree = otherOrder(m, tree)
		}
		codes[checkRegsMade(t, tree).Code]++
		if made := impl.ExpandTree(tree); i%4 == 0 && made.Code == impl.OK {
			codes[checkRegsMade(t, made.Tree).Code]++
		}
		if i%10 == 0 {
			for node := range int64(len(tree.Nodes)) {
				checkNeeds(t, tree, node)
			}
		}
	}
	for _, code := range []int64{impl.OK, impl.ErrForm, impl.ErrMany, impl.ErrRange, impl.ErrNone, impl.ErrText, impl.ErrTaken, impl.ErrType, impl.ErrState} {
		if codes[code] < 10 {
			t.Errorf("just %d programs have the code %d: %v", codes[code], code, codes)
		}
	}
}

// The least and the greatest numbers in every field of the tree and in every list.
func TestRegCodeOfRandomFields(t *testing.T) {
	m := &programMaker{state: 191}
	codes := map[int64]int{}
	ask := func(tree impl.Tree) {
		t.Helper()
		made := checkRegsMade(t, tree)
		codes[made.Code]++
		checkNeeds(t, tree, m.number(), int64(m.less(len(tree.Nodes)+1)))
		cells := m.hurtWords(m.less(5))
		if faultOf(tree) == impl.OK {
			cells = m.hurtWords(len(cellNames(tree)))
		}
		code := m.hurtWords(m.less(6))
		if made.Code == impl.OK && m.less(4) > 0 {
			code = made.Words
		}
		checkRegScan(t, tree, code, cells, m.hurtWords(portCount(tree)), m.number()*10)
	}
	for range 3000 {
		ask(randomTree(m))
	}
	for _, text := range slices.Concat(bareTexts(200, 113), fitTexts(80, 113), callTexts(50, 113)) {
		right := program(t, text)
		for range 4 {
			hurt := copyTree(right)
			hurtTree(m, &hurt)
			ask(hurt)
		}
	}
	for _, text := range []string{allKinds, declared + "for n := 0 to 2 do rn[n] := -i; end; if not p then b := p; else rb[1] := f and p; end;"} {
		right := program(t, text)
		for at := range right.Nodes {
			for _, n := range append([]int64{2, 3, 4, 5, 9, 10, 11}, oddNumbers...) {
				ask(withNode(right, at, func(node *impl.Node) { node.Kind = n }))
				ask(withNode(right, at, func(node *impl.Node) { node.Op = n }))
				ask(withNode(right, at, func(node *impl.Node) { node.Num = n }))
				ask(withNode(right, at, func(node *impl.Node) { node.Far = n }))
				ask(withNode(right, at, func(node *impl.Node) { node.Kids = append(node.Kids, n) }))
				ask(withNode(right, at, func(node *impl.Node) { node.Then = append(node.Then, n) }))
				ask(withNode(right, at, func(node *impl.Node) { node.Else = []int64{n} }))
			}
		}
		for _, n := range oddNumbers {
			other := copyTree(right)
			other.Body = append(other.Body, n)
			ask(other)
			for _, v := range []impl.Var{{Name: "z", Kind: n, Type: 1}, {Name: "z", Kind: 1, Type: n}, {Name: "z", Kind: 1, Type: 1, Size: n}} {
				other = copyTree(right)
				other.Vars = append(other.Vars, v)
				ask(other)
			}
		}
	}
	if codes[impl.OK] < 300 || codes[impl.ErrForm] < 2000 {
		t.Errorf("codes of trees of random fields: %v", codes)
	}
}

// Odd numbers in the code, the state, the inputs and the budget, and as the node that is asked.
func TestRegScansOfOddNumbers(t *testing.T) {
	tree := program(t, declared+"for n := 0 to 1 do rn[n] := i; rb[n] := p; end; o := rn[i];")
	made := checkRegsMade(t, tree)
	for _, n := range oddNumbers {
		for at := range made.Words {
			checkRegScan(t, tree, withWord(made.Words, at, n), sameWords(14, 2), []int64{1, 2}, 200)
		}
		for at := range 14 {
			checkRegScan(t, tree, made.Words, withWord(sameWords(14, 2), at, n), []int64{1, 2}, 200)
		}
		checkRegScan(t, tree, made.Words, sameWords(14, 2), []int64{n, 2}, 200)
		checkRegScan(t, tree, made.Words, sameWords(14, 2), []int64{1, n}, 200)
		checkRegScan(t, tree, made.Words, sameWords(14, n), []int64{n, n}, n)
		checkRegScan(t, tree, sameWords(6, n), sameWords(14, 2), []int64{1, 2}, 200)
		checkRegScan(t, tree, made.Words, sameWords(14, 2), []int64{1, 2}, n)
		checkNeeds(t, tree, n)
	}
}

func TestRegScansOfNoise(t *testing.T) {
	m := regMakerOf(157)
	codes := map[int64]int{}
	for _, text := range slices.Concat(bareTexts(800, 119), fitTexts(300, 119), callTexts(150, 119)) {
		tree := program(t, text)
		own := impl.CompileRegs(tree)
		for range 3 {
			code, budget := own.Words, own.Worst
			switch m.less(4) {
			case 0:
				code, budget = m.regCodeOfNoise(len(cellNames(tree))), int64(m.less(100))
			case 1:
				budget = int64(m.less(int(own.Worst) + 2))
			case 2:
				if own.Code == impl.OK {
					code = withWord(code, m.less(len(code)), m.word())
				}
				budget = 300
			}
			codes[checkRegScan(t, tree, code, m.hurtWords(len(cellNames(tree))), m.hurtWords(portCount(tree)), budget).Code]++
		}
	}
	for _, code := range []int64{impl.OK, impl.ErrForm, impl.ErrMany, impl.ErrRange, impl.ErrNone, impl.ErrType} {
		if codes[code] < 50 {
			t.Errorf("just %d scans have the code %d: %v", codes[code], code, codes)
		}
	}
}

// Promise 12: what is compiled for registers does what the program means, over several scans and from any state: the same
// code, and with none the same cells and Outs, within its Worst; and so does the stack, in as many steps.
func TestRegCodeDoesWhatTheProgramMeans(t *testing.T) {
	m := &programMaker{state: 163}
	codes := map[int64]int{}
	follow := func(p madeProgram, cells []int64, list [][]int64) {
		t.Helper()
		for _, inputs := range list {
			got := checkAllScans(t, p.tree, cells, inputs)
			// More than its Worst is of no use, so that no scan hangs on it; with one less than it took none is whole.
			state := impl.State{Cells: cells}
			if more := impl.ScanRegs(p.tree, p.regs.Words, state, inputs, 20000); !sameScan(more, got) {
				t.Fatalf("%s from %v with %v: %v, and with 20000 steps %v", showTree(p.tree), cells, inputs, got, more)
			}
			if less := impl.ScanRegs(p.tree, p.regs.Words, state, inputs, got.Steps-1); !sameScan(less, impl.ScanResult{Code: impl.ErrMany, Steps: got.Steps - 1}) {
				t.Fatalf("%s from %v with %v: %v, and with a step less %v", showTree(p.tree), cells, inputs, got, less)
			}
			codes[got.Code]++
			if got.Code != impl.OK {
				return
			}
			cells = got.State.Cells
		}
	}
	for _, p := range madePrograms(t, 1000, 171) {
		count := len(cellNames(p.tree))
		follow(p, make([]int64, count), m.scansFor(p.tree, 5))
		follow(p, m.words(count), m.scansFor(p.tree, 3))
		follow(p, mixedWords(count, m.state), m.scansFor(p.tree, 2))
	}
	for _, code := range []int64{impl.OK, impl.ErrNone, impl.ErrRange} {
		if codes[code] < 100 {
			t.Errorf("just %d scans have the code %d: %v", codes[code], code, codes)
		}
	}
}

// Promise 12: both machines go the same way, step by step and word by word upside down: what is on the stack stands in the
// registers from 0 on, and Sig, the Trap and what is used are the same.
func TestBothMachinesGoThroughPrograms(t *testing.T) {
	m := &programMaker{state: 121}
	traps, steps := map[int64]int{}, 0
	for _, p := range madePrograms(t, 400, 187) {
		state, inputs := impl.State{Cells: m.words(len(cellNames(p.tree)))}, m.words(portCount(p.tree))
		cells := impl.LatchInputs(p.tree, state, inputs).List
		a, b := impl.StartStack(cells).Machine, impl.StartRegs(impl.InvertAll(cells).List).Machine
		for range min(p.stack.Worst+2, 700) {
			if a.Trap != b.Trap || a.Used != b.Used || a.Sig != b.Sig || a.Done != b.Done || !slices.Equal(a.Cells, turnedWords(b.Cells)) || !slices.Equal(a.Stack, turnedWords(b.Regs[:len(a.Stack)])) {
				t.Fatalf("%s from %v with %v:\n%v, upside down\n%v", showTree(p.tree), state, inputs, a, b)
			}
			if !a.Done && a.Trap == impl.OK {
				// They are at the same op.
				if one, other := stackSame(p.stack.Words[a.Pc]), p.regs.Words[b.Pc]; one != other {
					t.Fatalf("%s from %v with %v: the op %d on the stack, %d on registers", showTree(p.tree), state, inputs, one, other)
				}
				steps++
			}
			a, b = impl.StepStack(p.stack.Words, a).Machine, impl.StepRegs(p.regs.Words, b).Machine
		}
		traps[a.Trap]++
	}
	if traps[impl.OK] < 50 || traps[impl.ErrRange] < 10 || traps[impl.ErrNone] < 10 || steps < 5000 {
		t.Errorf("%d steps, Traps %v", steps, traps)
	}
}

// stackSame answers the op of registers that does what the one of a stack does.
func stackSame(op int64) int64 {
	name := strings.Fields(stackNames)[op-1]
	if name == "push" {
		name = "const"
	}
	return int64(slices.Index(strings.Fields(regNames), name)) + 1
}

// Promise 8 and 12 together: what has calls gives out the same by the code of its statements.
func TestRegCodeOfBlocks(t *testing.T) {
	m := &programMaker{state: 139}
	scans := 0
	for _, pair := range expandedPairs(t, 300, 129) {
		code := impl.CompileRegs(pair.made)
		if code.Code != impl.OK {
			continue
		}
		list := m.scansFor(pair.told, 12)
		told := impl.RunScans(pair.told, list)
		cells := zeros(t, pair.made)
		for at, inputs := range list {
			got := impl.ScanRegs(pair.made, code.Words, impl.State{Cells: cells}, inputs, code.Worst)
			if int64(at) == told.Failed {
				if got.Code != told.Why {
					t.Fatalf("%s, scan %d: %v, want the code %d", showTree(pair.told), at, got, told.Why)
				}
				break
			}
			if got.Code != impl.OK || !slices.Equal(got.Outs, told.Outs[at]) {
				t.Fatalf("%s, scan %d: %v, want %v", showTree(pair.told), at, got, told.Outs[at])
			}
			cells = got.State.Cells
			scans++
		}
	}
	if scans < 300 {
		t.Errorf("just %d scans", scans)
	}
}

// Promise 1: every function answers, and changes none of its arguments, nor what lies behind them.
func TestRegCodeChangesNoArgument(t *testing.T) {
	m := &programMaker{state: 175}
	texts := slices.Concat(bareTexts(300, 125), callTexts(100, 125))
	for i := range 900 {
		tree := randomTree(m)
		cells, inputs, code := m.hurtWords(m.less(6)), m.hurtWords(portCount(tree)), m.hurtWords(m.less(9))
		if i%4 > 0 {
			tree = program(t, texts[i%len(texts)])
			cells, inputs = m.words(len(cellNames(tree))), m.words(portCount(tree))
			if made := impl.CompileRegs(tree); made.Code == impl.OK {
				code = made.Words
			}
		}
		given, before := roomyTree(tree), roomyTree(tree)
		state, list, words := impl.State{Cells: withSpare(cells)}, withSpare(inputs), withSpare(code)
		impl.CompileRegs(given)
		impl.RegsNeeded(given, int64(m.less(20)))
		impl.ScanRegs(given, words, state, list, 500)
		if !reflect.DeepEqual(wholeTree(given), wholeTree(before)) {
			t.Fatalf("the tree %s was changed", showTree(tree))
		}
		checkRoomy(t, state.Cells, cells)
		checkRoomy(t, list, inputs)
		checkRoomy(t, words, code)
	}
}

// Promise 1: what is told is new memory, and no two lists of one answer share any.
func TestRegCodeIsNewMemory(t *testing.T) {
	m := &programMaker{state: 151}
	for _, p := range madePrograms(t, 200, 161) {
		cells, inputs := withSpare(m.words(len(cellNames(p.tree)))), withSpare(m.words(portCount(p.tree)))
		state, words := impl.State{Cells: cells}, p.regs.Words
		first, second := impl.ScanRegs(p.tree, words, state, inputs, p.regs.Worst), impl.ScanRegs(p.tree, words, state, inputs, p.regs.Worst)
		shown := showTree(p.tree)
		given := [][]int64{cells, inputs, words}
		for _, list := range listsOf(&p.tree) {
			given = append(given, *list)
		}
		answers := [][]int64{first.State.Cells, first.Outs, second.State.Cells, second.Outs, impl.CompileRegs(p.tree).Words, impl.CompileRegs(p.tree).Words}
		for i, list := range answers {
			overwrite(list, int64(-1-i))
		}
		for i, list := range answers {
			for _, word := range list[:cap(list)] {
				if word != int64(-1-i) {
					t.Fatalf("%s: two answers share memory", shown)
				}
			}
		}
		for _, list := range given {
			if slices.ContainsFunc(list, func(n int64) bool { return n < 0 }) {
				t.Fatalf("%s: an answer shares memory with an argument", shown)
			}
		}
		if showTree(p.tree) != shown || !sameCode(impl.CompileRegs(p.tree), p.regs) {
			t.Fatalf("%s: a change to an answer is seen elsewhere", shown)
		}
	}
}

// Promise 1: an answer hangs on the arguments alone, whatever was asked ahead, and empty and nil are the same.
func TestRegCodeHangsOnArgumentsAlone(t *testing.T) {
	type answers struct {
		code impl.CodeResult
		need impl.IntResult
		scan impl.ScanResult
	}
	ask := func(at int, tree impl.Tree) answers {
		m := regMakerOf(uint64(at))
		made := impl.CompileRegs(tree)
		code := made.Words
		if at%3 == 0 {
			code = m.regCodeOfNoise(len(cellNames(tree)))
		}
		state, inputs := impl.State{Cells: m.hurtWords(len(cellNames(tree)))}, m.hurtWords(portCount(tree))
		return answers{made, impl.RegsNeeded(tree, int64(at%9)), impl.ScanRegs(tree, code, state, inputs, 400)}
	}
	texts := slices.Concat(bareTexts(250, 135), fitTexts(100, 135), callTexts(80, 135))
	var told []answers
	for at, text := range texts {
		told = append(told, ask(at, program(t, text)))
	}
	for at, text := range slices.Backward(texts) {
		if got := ask(at, copyTree(program(t, strings.Clone(text)))); !reflect.DeepEqual(got, told[at]) {
			t.Fatalf("another answer of %q", text)
		}
	}
	none, empty := []int64{}, impl.Tree{Vars: []impl.Var{}, Nodes: []impl.Node{}, Body: []int64{}}
	if !sameCode(impl.CompileRegs(empty), impl.CompileRegs(impl.Tree{})) || impl.RegsNeeded(empty, 0) != impl.RegsNeeded(impl.Tree{}, 0) {
		t.Error("an empty tree and no tree have other answers")
	}
	for _, code := range [][]int64{nil, none, {impl.RsEnd}} {
		one, other := impl.ScanRegs(empty, code, impl.State{Cells: none}, none, 5), impl.ScanRegs(impl.Tree{}, slices.Clone(code), impl.State{}, nil, 5)
		if !sameScan(one, other) {
			t.Errorf("%v on nothing: %v and %v", code, one, other)
		}
	}
}
