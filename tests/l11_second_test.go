package tests

import (
	"slices"
	"strconv"
	"strings"
	"testing"

	"loop.example/g00251/impl"
)

// The second way to chapter 11: the lines that the second way to chapter 9 makes for the stack are told for registers,
// where what is on the stack stands side by side, the lowest word in register 0. Wherever a line leads the stack is empty,
// so that the lines may be gone through from the first one to the last.

// heightBehind answers how many words are on the stack behind a line.
func heightBehind(line string, height int) int {
	if line[0] == '@' {
		return height
	}
	op := int64(slices.Index(strings.Fields(stackNames), strings.Fields(line)[0])) + 1
	return height + ofOp(stackGives, op) - ofOp(stackTakes, op)
}

func mostHeight(lines []string) int {
	height, most := 0, 0
	for _, line := range lines {
		height = heightBehind(line, height)
		most = max(most, height)
	}
	return most
}

func regLinesTold(lines []string) []string {
	var made []string
	height := 0
	for _, line := range lines {
		made = append(made, regLineTold(line, height))
		height = heightBehind(line, height)
	}
	return made
}

// regLineTold is told how many words are on the stack ahead of the line.
func regLineTold(line string, height int) string {
	parts := append(strings.Fields(line), "", "")
	free, top, below := strconv.Itoa(height), strconv.Itoa(height-1), strconv.Itoa(height-2)
	switch name := parts[0]; name {
	case "push":
		number, _ := strconv.Atoi(parts[1])
		return "const " + free + " " + strconv.Itoa(65535-number)
	case "load":
		return "load " + free + " " + parts[1]
	case "store":
		return "store " + parts[1] + " " + top
	case "loadx":
		return "loadx " + top + " " + top + " " + parts[1] + " " + parts[2]
	case "storex":
		return "storex " + below + " " + top + " " + parts[1] + " " + parts[2]
	case "two":
		return "two " + below + " " + below + " " + top + " " + parts[1]
	case "neg", "not":
		return name + " " + top + " " + top
	case "bool":
		return "bool " + top
	case "zero":
		return "zero " + top + " " + parts[1]
	}
	return line
}

// needTold is asked of an expression: it needs as many registers as its words are on the stack at most.
func needTold(t impl.Tree, node int64) int64 {
	l := &liner{tree: t}
	l.expression(node)
	return int64(mostHeight(l.lines))
}

// needsTold is told the code of CheckTree.
func needsTold(t impl.Tree, code int64, node int64) impl.IntResult {
	switch {
	case code != impl.OK:
		return impl.IntResult{Code: code}
	case node < 0 || node >= int64(len(t.Nodes)) || t.Nodes[node].Kind > 6:
		return impl.IntResult{Code: impl.ErrForm}
	}
	return impl.IntResult{Value: needTold(t, node)}
}

// regsTold is told the code of CheckTree.
func regsTold(t impl.Tree, code int64) impl.CodeResult {
	switch {
	case code != impl.OK:
		return impl.CodeResult{Code: code}
	case slices.ContainsFunc(t.Nodes, func(node impl.Node) bool { return node.Kind == 11 }):
		return impl.CodeResult{Code: impl.ErrState}
	}
	lines := linesTold(t)
	if mostHeight(lines) > 24 {
		return impl.CodeResult{Code: impl.ErrDeep}
	}
	words, worst := wordsOfLines(regLinesTold(lines), regNames), worstTold(t, t.Body)+1
	if len(words) > 400 || worst > 20000 {
		return impl.CodeResult{Code: impl.ErrMany}
	}
	return impl.CodeResult{Words: words, Worst: worst}
}

func regScanTold(t impl.Tree, fault int64, code, cells, inputs []int64, budget int64) impl.ScanResult {
	start := latchTold(t, fault, cells, inputs)
	if start.Code != impl.OK {
		return impl.ScanResult{Code: start.Code}
	}
	run := runRegsTold(code, turnedWords(start.List), budget)
	switch {
	case run.Code != impl.OK:
		return impl.ScanResult{Code: run.Code}
	case run.Machine.Trap != impl.OK:
		return impl.ScanResult{Code: run.Machine.Trap, Steps: run.Machine.Used}
	}
	end := turnedWords(run.Machine.Cells)
	return impl.ScanResult{Steps: run.Machine.Used, State: impl.State{Cells: end}, Outs: outsTold(t, impl.OK, end).List}
}

// checkNeeds holds what each of these nodes needs against the second way.
func checkNeeds(t *testing.T, tree impl.Tree, nodes ...int64) {
	t.Helper()
	code := checked(tree, faultOf(tree)).Code
	for _, node := range nodes {
		if got, want := impl.RegsNeeded(tree, node), needsTold(tree, code, node); got != want {
			t.Fatalf("RegsNeeded(%s, %d) = %v, want %v", showTree(tree), node, got, want)
		}
	}
}

// checkRegsMade holds what is asked of a tree alone against the second way; it answers what CompileRegs tells.
func checkRegsMade(t *testing.T, tree impl.Tree) impl.CodeResult {
	t.Helper()
	got, want := impl.CompileRegs(tree), regsTold(tree, checked(tree, faultOf(tree)).Code)
	if !sameCode(got, want) {
		t.Fatalf("CompileRegs(%s)\n= %v, want\n  %v", showTree(tree), got, want)
	}
	last := int64(len(tree.Nodes)) - 1
	checkNeeds(t, tree, 0, last/2, last-1)
	return got
}

// checkRegScan holds a scan of any code against the second way.
func checkRegScan(t *testing.T, tree impl.Tree, code, cells, inputs []int64, budget int64) impl.ScanResult {
	t.Helper()
	fault := stateFault(tree, checked(tree, faultOf(tree)).Code, cells)
	got, want := impl.ScanRegs(tree, code, impl.State{Cells: cells}, inputs, budget), regScanTold(tree, fault, code, cells, inputs, budget)
	if !sameScan(got, want) {
		t.Fatalf("ScanRegs(%s, %v, %v, %v, %d)\n= %v, want\n  %v", showTree(tree), code, cells, inputs, budget, got, want)
	}
	return got
}

// checkAllScans holds a scan of a program against those of its code for both machines, within its Worst; it answers what
// the register machine tells.
func checkAllScans(t *testing.T, tree impl.Tree, cells, inputs []int64) impl.ScanResult {
	t.Helper()
	state := impl.State{Cells: cells}
	stack, regs := impl.CompileStack(tree), impl.CompileRegs(tree)
	told := impl.ScanTree(tree, state, inputs)
	other, got := impl.ScanStack(tree, stack.Words, state, inputs, stack.Worst), impl.ScanRegs(tree, regs.Words, state, inputs, regs.Worst)
	if regs.Code != impl.OK || stack.Code != impl.OK || regs.Worst != stack.Worst {
		t.Fatalf("%s: %v and %v", showTree(tree), stack, regs)
	}
	if told.Code != got.Code || !slices.Equal(told.State.Cells, got.State.Cells) || !slices.Equal(told.Outs, got.Outs) || !sameScan(got, other) || got.Steps < 1 || got.Steps > regs.Worst {
		t.Fatalf("%s from %v with %v: %v\non the stack %v\non registers %v of the Worst %d", showTree(tree), cells, inputs, told, other, got, regs.Worst)
	}
	return got
}
