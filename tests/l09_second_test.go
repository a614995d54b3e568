package tests

import (
	"slices"
	"strconv"
	"strings"
	"testing"

	"loop.example/g00251/impl"
)

// The second way to chapter 9: a program becomes lines in which each place that is led to has a name, and
// of these lines words are made in the end; how many steps they take at most is reckoned from the tree.

type liner struct {
	tree  impl.Tree
	lines []string
}

func (l *liner) add(line string, numbers ...int64) {
	for _, n := range numbers {
		line += " " + strconv.Itoa(int(n))
	}
	l.lines = append(l.lines, line)
}

// cell answers the first one of a name.
func (l *liner) cell(name string) int64 {
	return int64(slices.Index(cellNames(l.tree), name))
}

func (l *liner) expression(at int64) {
	node := l.tree.Nodes[at]
	for _, kid := range node.Kids {
		l.expression(kid)
	}
	_, size, _ := readable(l.tree, node.Name)
	switch node.Kind {
	case impl.NodeNum:
		l.add("push", node.Num)
	case impl.NodeName:
		l.add("load", l.cell(node.Name))
	case impl.NodeItem:
		l.add("loadx", l.cell(node.Name), size)
	case impl.NodeNeg:
		l.add("neg")
	case impl.NodeNot:
		l.add("not")
	case impl.NodeTwo:
		l.add("two", node.Op)
	}
}

func (l *liner) statements(places []int64) {
	for _, place := range places {
		l.statement(place)
	}
}

func (l *liner) statement(at int64) {
	node, place := l.tree.Nodes[at], strconv.Itoa(int(at))
	typ, size, _ := readable(l.tree, node.Name)
	l.add("mark", at)
	for _, kid := range node.Kids {
		l.expression(kid)
	}
	if typ == impl.TypeBool {
		l.add("bool")
	}
	switch node.Kind {
	case impl.NodeSet:
		l.add("store", l.cell(node.Name))
	case impl.NodePut:
		l.add("storex", l.cell(node.Name), size)
	case impl.NodeIf:
		l.add("zero @else" + place)
		l.statements(node.Then)
		l.add("jump @behind" + place)
		l.add("@else" + place)
		l.statements(node.Else)
		l.add("@behind" + place)
	case impl.NodeFor:
		l.round(node, at, place)
	}
}

func (l *liner) round(node impl.Node, at int64, place string) {
	cell := l.cell(node.Name)
	l.add("push", node.Num)
	l.add("store", cell)
	l.add("@round" + place)
	l.add("push", node.Far)
	l.add("load", cell)
	l.add("two 9")
	l.add("not")
	l.add("zero @behind" + place)
	l.add("mark", 1000+at)
	l.statements(node.Then)
	l.add("load", cell)
	l.add("push 1")
	l.add("two 1")
	l.add("store", cell)
	l.add("jump @round" + place)
	l.add("@behind" + place)
}

// linesTold is told a checked tree without calls.
func linesTold(t impl.Tree) []string {
	l := &liner{tree: t}
	l.statements(t.Body)
	l.add("end")
	return l.lines
}

// wordsOfLines makes the words once with places as they come, and once more with the places that were found; the names
// are those of the ops of a machine.
func wordsOfLines(lines []string, names string) []int64 {
	places := map[string]int64{}
	var words []int64
	for range 2 {
		words = nil
		for _, line := range lines {
			if line[0] == '@' {
				places[line] = int64(len(words))
				continue
			}
			parts := strings.Fields(line)
			words = append(words, int64(slices.Index(strings.Fields(names), parts[0]))+1)
			for _, part := range parts[1:] {
				number, err := strconv.Atoi(part)
				if err != nil {
					number = int(places[part])
				}
				words = append(words, int64(number))
			}
		}
	}
	return words
}

// worstTold answers the steps of statements, or of expressions, at most.
func worstTold(t impl.Tree, places []int64) int64 {
	steps := int64(0)
	for _, place := range places {
		node := t.Nodes[place]
		kids := worstTold(t, node.Kids)
		typ, _, _ := readable(t, node.Name)
		switch node.Kind {
		case impl.NodeSet, impl.NodePut:
			steps += 2 + kids + countIf(typ == impl.TypeBool)
		case impl.NodeIf:
			steps += 2 + kids + max(worstTold(t, node.Then)+1, worstTold(t, node.Else))
		case impl.NodeFor:
			steps += 8 + max(0, node.Far+1-node.Num)*(11+worstTold(t, node.Then))
		default:
			steps += 1 + kids
		}
	}
	return steps
}

// compiledTold is told the code of CheckTree.
func compiledTold(t impl.Tree, code int64) impl.CodeResult {
	switch {
	case code != impl.OK:
		return impl.CodeResult{Code: code}
	case slices.ContainsFunc(t.Nodes, func(node impl.Node) bool { return node.Kind == 11 }):
		return impl.CodeResult{Code: impl.ErrState}
	}
	words, worst := wordsOfLines(linesTold(t), stackNames), worstTold(t, t.Body)+1
	if len(words) > 400 || worst > 20000 {
		return impl.CodeResult{Code: impl.ErrMany}
	}
	return impl.CodeResult{Words: words, Worst: worst}
}

func marksTold(t impl.Tree, code int64) impl.IntsResult {
	told := impl.IntsResult{Code: code}
	for at, node := range t.Nodes {
		if code == impl.OK && node.Kind >= 7 {
			told.List = append(told.List, int64(at))
		}
	}
	return told
}

// latchTold is told the fault of the state.
func latchTold(t impl.Tree, fault int64, cells, inputs []int64) impl.IntsResult {
	if fault != impl.OK {
		return impl.IntsResult{Code: fault}
	}
	if !allAreWords(inputs, portCount(t)) {
		return impl.IntsResult{Code: impl.ErrForm}
	}
	w := walkerOf(t, cells)
	for _, v := range t.Vars {
		if v.Kind == impl.VarIn && v.Size == 0 {
			w.words[v.Name] = []int64{w.kept(v.Name, inputs[0])}
			inputs = inputs[1:]
		}
	}
	return impl.IntsResult{List: w.cells()}
}

func outsTold(t impl.Tree, fault int64, cells []int64) impl.IntsResult {
	told := impl.IntsResult{Code: fault}
	if fault != impl.OK {
		return told
	}
	for _, v := range t.Vars {
		if v.Kind == impl.VarOut {
			told.List = append(told.List, walkerOf(t, cells).words[v.Name]...)
		}
	}
	return told
}

func stackScanTold(t impl.Tree, fault int64, code, cells, inputs []int64, budget int64) impl.ScanResult {
	start := latchTold(t, fault, cells, inputs)
	if start.Code != impl.OK {
		return impl.ScanResult{Code: start.Code}
	}
	run := runStackTold(code, start.List, budget)
	switch {
	case run.Code != impl.OK:
		return impl.ScanResult{Code: run.Code}
	case run.Machine.Trap != impl.OK:
		return impl.ScanResult{Code: run.Machine.Trap, Steps: run.Machine.Used}
	}
	end := run.Machine.Cells
	return impl.ScanResult{Steps: run.Machine.Used, State: impl.State{Cells: end}, Outs: outsTold(t, impl.OK, end).List}
}

func sameCode(a, b impl.CodeResult) bool {
	return a.Code == b.Code && a.Worst == b.Worst && slices.Equal(a.Words, b.Words)
}

func sameInts(a, b impl.IntsResult) bool {
	return a.Code == b.Code && slices.Equal(a.List, b.List)
}

// checkCompiled holds what is asked of a tree alone against the second way; it answers what CompileStack tells.
func checkCompiled(t *testing.T, tree impl.Tree) impl.CodeResult {
	t.Helper()
	code := checked(tree, faultOf(tree)).Code
	got, want := impl.CompileStack(tree), compiledTold(tree, code)
	if !sameCode(got, want) {
		t.Fatalf("CompileStack(%s)\n= %v, want\n  %v", showTree(tree), got, want)
	}
	if got, want := impl.MarksOf(tree), marksTold(tree, code); !sameInts(got, want) {
		t.Fatalf("MarksOf(%s) = %v, want %v", showTree(tree), got, want)
	}
	return got
}

// checkStackScan holds a scan of any code, and what else is asked of a state, against the second way.
func checkStackScan(t *testing.T, tree impl.Tree, code, cells, inputs []int64, budget int64) impl.ScanResult {
	t.Helper()
	state := impl.State{Cells: cells}
	fault := stateFault(tree, checked(tree, faultOf(tree)).Code, cells)
	if got, want := impl.LatchInputs(tree, state, inputs), latchTold(tree, fault, cells, inputs); !sameInts(got, want) {
		t.Fatalf("LatchInputs(%s, %v, %v) = %v, want %v", showTree(tree), cells, inputs, got, want)
	}
	if got, want := impl.OutsOf(tree, state), outsTold(tree, fault, cells); !sameInts(got, want) {
		t.Fatalf("OutsOf(%s, %v) = %v, want %v", showTree(tree), cells, got, want)
	}
	got, want := impl.ScanStack(tree, code, state, inputs, budget), stackScanTold(tree, fault, code, cells, inputs, budget)
	if !sameScan(got, want) {
		t.Fatalf("ScanStack(%s, %v, %v, %v, %d)\n= %v, want\n  %v", showTree(tree), code, cells, inputs, budget, got, want)
	}
	return got
}
