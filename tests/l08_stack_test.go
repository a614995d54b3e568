package tests

import (
	"math"
	"slices"
	"strings"
	"testing"

	"loop.example/g00251/impl"
)

// standing answers a machine at the beginning of its code that has a number of its own in every other field.
func standing(stack, cells []int64) impl.StackMachine {
	return impl.StackMachine{Stack: stack, Cells: cells, Sig: 77, Used: 5}
}

// checkMade asks that a step has no code and no Trap, and for all of the machine then.
func checkMade(t *testing.T, code []int64, m, want impl.StackMachine) {
	t.Helper()
	if got := checkStep(t, code, m); got.Code != impl.OK || !sameMachines(got.Machine, want) {
		t.Errorf("StepStack(%v, %v)\n= %v, want\n  %v", code, m, got, want)
	}
}

// checkTrapped asks that a step has the Trap, and that all else stays, but for the step that is counted.
func checkTrapped(t *testing.T, code []int64, m impl.StackMachine, trap int64) {
	t.Helper()
	want := m
	want.Trap = trap
	want.Used = min(m.Used+1, 1000000)
	checkMade(t, code, m, want)
}

// checkStackFault asks for the code of a machine, and that a step tells it and nothing else.
func checkStackFault(t *testing.T, m impl.StackMachine, fault int64) {
	t.Helper()
	if got := impl.StackFault(m); got != fault {
		t.Errorf("StackFault(%v) = %d, want %d", m, got, fault)
	}
	got := checkStep(t, []int64{impl.AsMark, 3}, m)
	if got.Code != fault || fault != impl.OK && !sameStacks(got, impl.StackResult{Code: fault}) {
		t.Errorf("StepStack of %v = %v, want the code %d", m, got, fault)
	}
}

// allWordsOf answers an instruction of the op with words that are no cell but 1, nor an op of chapter 2 but 1.
func allWordsOf(op int64) []int64 {
	return append([]int64{op}, sameWords(ofOp(stackWords, op), 1)...)
}

func TestStackNumbers(t *testing.T) {
	ops := []int64{impl.AsPush, impl.AsLoad, impl.AsStore, impl.AsLoadx, impl.AsStorex, impl.AsTwo, impl.AsNeg, impl.AsNot, impl.AsBool, impl.AsJump, impl.AsZero, impl.AsMark, impl.AsEnd}
	for i, op := range ops {
		if op != int64(i)+1 {
			t.Errorf("op %d has the number %d", i+1, op)
		}
	}
	if impl.MaxStack != 40 || impl.MaxCells != 80 {
		t.Error("MaxStack or MaxCells is another number")
	}
}

func TestArgsOfStack(t *testing.T) {
	for op, want := range []int64{1: 1, 2: 1, 3: 1, 4: 2, 5: 2, 6: 1, 7: 0, 8: 0, 9: 0, 10: 1, 11: 1, 12: 1, 13: 0} {
		if got := impl.ArgsOfStack(int64(op)); op > 0 && got != (impl.IntResult{Value: want}) {
			t.Errorf("ArgsOfStack(%d) = %v, want %d", op, got, want)
		}
	}
	for _, op := range []int64{0, 14, -1, 65535, 65536 + 1, 1<<32 + 1, 256 + 4, math.MinInt64, math.MinInt64 + 4, math.MaxInt64} {
		if got := impl.ArgsOfStack(op); got != (impl.IntResult{Code: impl.ErrRange}) {
			t.Errorf("ArgsOfStack(%d) = %v, want ErrRange", op, got)
		}
	}
}

func TestEachStackOp(t *testing.T) {
	begin := standing([]int64{9, 2, 1}, []int64{50, 51, 52, 53})
	type row struct {
		code         []int64
		pc           int64
		stack, cells []int64
		sig          int64
		done         bool
	}
	same := begin.Cells
	for _, r := range []row{
		{[]int64{impl.AsPush, 65535}, 2, []int64{9, 2, 1, 65535}, same, 77, false},
		{[]int64{impl.AsLoad, 2}, 2, []int64{9, 2, 1, 52}, same, 77, false},
		{[]int64{impl.AsStore, 3}, 2, []int64{9, 2}, []int64{50, 51, 52, 1}, 77, false},
		{[]int64{impl.AsLoadx, 2, 2}, 3, []int64{9, 2, 53}, same, 77, false},
		{[]int64{impl.AsStorex, 0, 3}, 3, []int64{9}, []int64{50, 51, 1, 53}, 77, false},
		{[]int64{impl.AsTwo, impl.OpSub}, 2, []int64{9, 1}, same, 77, false},
		{[]int64{impl.AsNeg}, 1, []int64{9, 2, 65535}, same, 77, false},
		{[]int64{impl.AsNot}, 1, []int64{9, 2, 0}, same, 77, false},
		{[]int64{impl.AsBool}, 1, []int64{9, 2, 1}, same, 77, false},
		{[]int64{impl.AsJump, 400}, 400, []int64{9, 2, 1}, same, 77, false},
		{[]int64{impl.AsZero, 400}, 2, []int64{9, 2}, same, 77, false},
		{[]int64{impl.AsMark, 4}, 2, []int64{9, 2, 1}, same, 77*31 + 4 + 1, false},
		{[]int64{impl.AsEnd}, 1, []int64{9, 2, 1}, same, 77, true},
	} {
		want := impl.StackMachine{Pc: r.pc, Stack: r.stack, Cells: r.cells, Sig: r.sig, Used: 6, Done: r.done}
		checkMade(t, r.code, begin, want)
		// Somewhere within code it does the same.
		moved, wantMoved := begin, want
		moved.Pc, wantMoved.Pc = 3, want.Pc+3
		if r.code[0] == impl.AsJump {
			wantMoved.Pc = 400
		}
		checkMade(t, slices.Concat([]int64{14, 0, 65535}, r.code, []int64{0, 65535}), moved, wantMoved)
	}
}

func TestStackWordsThatAreNotThere(t *testing.T) {
	for op := range int64(14) {
		if op == 0 {
			continue
		}
		whole := allWordsOf(op)
		for _, ahead := range []int{0, 1, 5, 390} {
			for there := range len(whole) + 1 {
				code := slices.Concat(sameWords(ahead, 13), whole[:there])
				m := standing([]int64{0, 0}, []int64{4, 5})
				m.Pc = int64(ahead)
				if there < len(whole) {
					checkTrapped(t, code, m, impl.ErrForm)
					continue
				}
				if got := checkStep(t, code, m); got.Machine.Trap != impl.OK || got.Machine.Used != 6 {
					t.Errorf("op %d with all its words: %v", op, got)
				}
			}
		}
	}
}

func TestStackWordsThatAreNoOp(t *testing.T) {
	for _, word := range []int64{0, 14, 15, 255, 256 + 1, 32768 + 1, 65535} {
		for _, behind := range [][]int64{nil, {1}, {1, 1}, {1, 1, 1}} {
			checkTrapped(t, append([]int64{word}, behind...), standing([]int64{0, 0}, []int64{4, 5}), impl.ErrForm)
		}
	}
}

func TestPcs(t *testing.T) {
	code := []int64{impl.AsPush, impl.AsEnd, impl.AsJump, 1, impl.AsEnd}
	m := standing([]int64{8}, nil)
	at := func(pc int64) impl.StackMachine {
		moved := m
		moved.Pc = pc
		return moved
	}
	pushed := impl.StackMachine{Pc: 2, Stack: []int64{8, 13}, Sig: 77, Used: 6}
	checkMade(t, code, at(0), pushed)
	ended := impl.StackMachine{Pc: 5, Stack: []int64{8}, Sig: 77, Used: 6, Done: true}
	checkMade(t, code, at(4), ended)
	ended.Pc = 2
	checkMade(t, code, at(1), ended)
	jumped := impl.StackMachine{Pc: 1, Stack: []int64{8}, Sig: 77, Used: 6}
	checkMade(t, code, at(2), jumped)
	for _, pc := range []int64{5, 6, 399, 400, 401, 32768, 65535} {
		checkTrapped(t, code, at(pc), impl.ErrForm)
	}
	for _, pc := range []int64{0, 1, 65535} {
		checkTrapped(t, nil, at(pc), impl.ErrForm)
		checkTrapped(t, []int64{}, at(pc), impl.ErrForm)
	}
	full := sameWords(400, impl.AsEnd)
	ended.Pc = 400
	checkMade(t, full, at(399), ended)
	checkTrapped(t, full, at(400), impl.ErrForm)
}

func TestCodeThatIsNone(t *testing.T) {
	faulty := standing(nil, nil)
	faulty.Pc = -1
	machines := []impl.StackMachine{{}, standing([]int64{1}, []int64{1}), {Done: true}, {Trap: 3}, faulty, {Cells: sameWords(81, 0)}}
	ask := func(code []int64, fault int64) {
		t.Helper()
		for _, m := range machines {
			if got := checkStep(t, code, m); !sameStacks(got, impl.StackResult{Code: fault}) {
				t.Errorf("StepStack with the code %d of words = %v", fault, got)
			}
		}
		for _, cells := range [][]int64{nil, {-1}, sameWords(81, 0)} {
			for _, budget := range []int64{-1, 0, 5, 20001} {
				if got := checkRun(t, code, cells, budget); !sameStacks(got, impl.StackResult{Code: fault}) {
					t.Errorf("RunStack with the code %d of words = %v", fault, got)
				}
			}
		}
		if got := impl.StackText(code); got != (impl.TextResult{Code: fault}) {
			t.Errorf("StackText with the code %d of words = %v", fault, got)
		}
	}
	for _, odd := range oddNumbers {
		if odd < 0 || odd > 65535 {
			ask([]int64{impl.AsEnd, odd}, impl.ErrRange)
			ask([]int64{odd, 0}, impl.ErrRange)
			ask([]int64{impl.AsLoad, odd}, impl.ErrRange)
		}
	}
	ask(withWord(sameWords(400, 13), 399, -1), impl.ErrRange)
	ask(sameWords(401, 13), impl.ErrMany)
	ask(sameWords(401, -1), impl.ErrMany)
	ask(sameWords(5000, 0), impl.ErrMany)
}

func TestHeightsOfStacks(t *testing.T) {
	for op := int64(1); op <= 13; op++ {
		takes, gives := ofOp(stackTakes, op), ofOp(stackGives, op)
		for _, high := range []int{0, 1, 2, 3, 38, 39, 40} {
			m := standing(sameWords(high, 0), []int64{6, 6, 6})
			code := allWordsOf(op)
			if high < takes || high-takes+gives > 40 {
				checkTrapped(t, code, m, impl.ErrForm)
				continue
			}
			got := checkStep(t, code, m)
			if got.Machine.Trap != impl.OK || len(got.Machine.Stack) != high-takes+gives {
				t.Errorf("op %d with %d on the stack: %v", op, high, got)
			}
		}
		m := standing(sameWords(41, 0), []int64{6, 6, 6})
		if got := checkStep(t, allWordsOf(op), m); !sameStacks(got, impl.StackResult{Code: impl.ErrMany}) {
			t.Errorf("op %d with 41 on the stack: %v", op, got)
		}
	}
}

func TestFullStacks(t *testing.T) {
	words := mixedWords(40, 5)
	words[39] = 2
	m := standing(words, []int64{10, 11, 12})
	checkTrapped(t, []int64{impl.AsPush, 1}, m, impl.ErrForm)
	checkTrapped(t, []int64{impl.AsLoad, 1}, m, impl.ErrForm)
	want := impl.StackMachine{Pc: 3, Stack: withWord(words, 39, 12), Cells: m.Cells, Sig: 77, Used: 6}
	checkMade(t, []int64{impl.AsLoadx, 0, 3}, m, want)
	m.Stack = words[:39]
	checkMade(t, []int64{impl.AsPush, 2}, m, impl.StackMachine{Pc: 2, Stack: words, Cells: m.Cells, Sig: 77, Used: 6})
	checkMade(t, []int64{impl.AsLoad, 0}, m, impl.StackMachine{Pc: 2, Stack: withWord(words, 39, 10), Cells: m.Cells, Sig: 77, Used: 6})
}

func TestCellsOfMachines(t *testing.T) {
	for _, many := range []int64{0, 1, 80} {
		cells := mixedWords(int(many), 9)
		m := standing([]int64{4, 5}, cells)
		for _, cell := range []int64{0, 1, many - 1, many, many + 1, 80, 255, 32768, 65535} {
			if cell < 0 {
				continue
			}
			load, store := []int64{impl.AsLoad, cell}, []int64{impl.AsStore, cell}
			if cell >= many {
				checkTrapped(t, load, m, impl.ErrForm)
				checkTrapped(t, store, m, impl.ErrForm)
				continue
			}
			checkMade(t, load, m, impl.StackMachine{Pc: 2, Stack: []int64{4, 5, cells[cell]}, Cells: cells, Sig: 77, Used: 6})
			checkMade(t, store, m, impl.StackMachine{Pc: 2, Stack: []int64{4}, Cells: withWord(cells, int(cell), 5), Sig: 77, Used: 6})
		}
		// A cell -1 is no word of code.
		for _, code := range [][]int64{{impl.AsLoad, -1}, {impl.AsStore, -1}, {impl.AsLoadx, -1, 2}, {impl.AsStorex, -1, 2}} {
			if got := checkStep(t, code, m); !sameStacks(got, impl.StackResult{Code: impl.ErrRange}) {
				t.Errorf("StepStack(%v) = %v", code, got)
			}
		}
	}
	m := standing([]int64{4, 5}, sameWords(81, 1))
	for _, code := range [][]int64{{impl.AsLoad, 0}, {impl.AsStore, 80}, {impl.AsLoadx, 0, 9}, {impl.AsEnd}} {
		if got := checkStep(t, code, m); !sameStacks(got, impl.StackResult{Code: impl.ErrMany}) {
			t.Errorf("StepStack(%v) with 81 cells = %v", code, got)
		}
	}
}

// checkItem asks the same of both ops; the index is on the stack, and the word to be stored above it.
func checkItem(t *testing.T, many int, first, size, index int64, trap int64) {
	t.Helper()
	cells := mixedWords(many, 17)
	loads, stores := standing([]int64{31, index}, cells), standing([]int64{31, index, 32}, cells)
	load, store := []int64{impl.AsLoadx, first, size}, []int64{impl.AsStorex, first, size}
	if trap != impl.OK {
		checkTrapped(t, load, loads, trap)
		checkTrapped(t, store, stores, trap)
		return
	}
	at := int(first + index)
	checkMade(t, load, loads, impl.StackMachine{Pc: 3, Stack: []int64{31, cells[at]}, Cells: cells, Sig: 77, Used: 6})
	checkMade(t, store, stores, impl.StackMachine{Pc: 3, Stack: []int64{31}, Cells: withWord(cells, at, 32), Sig: 77, Used: 6})
}

func TestItemsOfMachines(t *testing.T) {
	type row struct {
		many               int
		first, size, index int64
		trap               int64
	}
	for _, r := range []row{
		{9, 2, 4, 0, impl.OK}, {9, 2, 4, 1, impl.OK}, {9, 2, 4, 3, impl.OK},
		{9, 2, 4, 4, impl.ErrRange}, {9, 2, 4, 5, impl.ErrRange}, {9, 2, 4, 65535, impl.ErrRange}, {9, 2, 4, 65534, impl.ErrRange}, {9, 2, 4, 32767, impl.ErrRange}, {9, 2, 4, 32768, impl.ErrRange},
		// A row at the first cells, and at the last ones.
		{9, 0, 9, 0, impl.OK}, {9, 0, 9, 8, impl.OK}, {9, 0, 9, 9, impl.ErrRange}, {9, 0, 9, 65535, impl.ErrRange}, {9, 8, 1, 0, impl.OK}, {9, 8, 1, 1, impl.ErrRange}, {9, 8, 1, 65535, impl.ErrRange},
		{80, 72, 8, 7, impl.OK}, {80, 72, 8, 8, impl.ErrRange}, {1, 0, 1, 0, impl.OK}, {1, 0, 1, 1, impl.ErrRange},
		// No index is within a size of 0.
		{9, 2, 0, 0, impl.ErrRange}, {9, 2, 0, 1, impl.ErrRange}, {9, 2, 0, 65535, impl.ErrRange}, {9, 9, 0, 0, impl.ErrRange}, {0, 0, 0, 0, impl.ErrRange},
		// Of a size that no index reaches all from 0 on are within, as far as there are cells.
		{9, 2, 65535, 0, impl.OK}, {9, 2, 65535, 6, impl.OK}, {9, 2, 65535, 7, impl.ErrForm}, {9, 2, 65535, 32767, impl.ErrForm}, {9, 2, 65535, 32768, impl.ErrRange}, {9, 2, 65535, 65535, impl.ErrRange}, {9, 0, 32768, 32767, impl.ErrForm},
		// The cell is none, though the index is within.
		{9, 7, 4, 1, impl.OK}, {9, 7, 4, 2, impl.ErrForm}, {9, 7, 4, 3, impl.ErrForm}, {9, 9, 4, 0, impl.ErrForm}, {9, 65535, 4, 0, impl.ErrForm}, {9, 65535, 65535, 32767, impl.ErrForm}, {0, 0, 1, 0, impl.ErrForm}, {80, 79, 2, 1, impl.ErrForm}, {80, 80, 1, 0, impl.ErrForm},
		// Both at once: of an index that is not within no cell is told.
		{9, 7, 4, 4, impl.ErrRange}, {9, 9, 4, 4, impl.ErrRange}, {9, 65535, 4, 4, impl.ErrRange}, {9, 65535, 4, 65535, impl.ErrRange}, {9, 10, 4, 65535, impl.ErrRange}, {0, 0, 1, 1, impl.ErrRange}, {0, 0, 1, 65535, impl.ErrRange},
	} {
		checkItem(t, r.many, r.first, r.size, r.index, r.trap)
	}
}

// Too few words for an item are asked ahead of its index.
func TestItemsWithTooFewOnTheStack(t *testing.T) {
	checkTrapped(t, []int64{impl.AsLoadx, 0, 0}, standing(nil, nil), impl.ErrForm)
	checkTrapped(t, []int64{impl.AsStorex, 0, 0}, standing(nil, nil), impl.ErrForm)
	checkTrapped(t, []int64{impl.AsStorex, 0, 0}, standing([]int64{5}, []int64{1}), impl.ErrForm)
	checkTrapped(t, []int64{impl.AsStorex, 0, 1}, standing([]int64{0}, []int64{1}), impl.ErrForm)
}

func TestTwoOnTheStack(t *testing.T) {
	type row struct{ op, left, right, want int64 }
	for _, r := range []row{
		{impl.OpAdd, 65535, 3, 2}, {impl.OpSub, 3, 5, 65534}, {impl.OpSub, 5, 3, 2}, {impl.OpMul, 300, 300, 24464},
		{impl.OpDiv, 7, 2, 3}, {impl.OpDiv, 2, 7, 0}, {impl.OpDiv, 65529, 2, 65533}, {impl.OpDiv, 0, 5, 0}, {impl.OpDiv, 32768, 65535, 32768},
		{impl.OpMod, 7, 2, 1}, {impl.OpMod, 2, 7, 2}, {impl.OpMod, 65529, 2, 65535}, {impl.OpMod, 0, 5, 0}, {impl.OpMod, 32768, 65535, 0},
		{impl.OpAnd, 12, 10, 8}, {impl.OpOr, 12, 10, 14}, {impl.OpXor, 12, 10, 6},
		{impl.OpLess, 65535, 0, 1}, {impl.OpLess, 0, 65535, 0}, {impl.OpSame, 4, 4, 1}, {impl.OpSame, 4, 5, 0},
	} {
		m := standing([]int64{21, r.left, r.right}, nil)
		checkMade(t, []int64{impl.AsTwo, r.op}, m, impl.StackMachine{Pc: 2, Stack: []int64{21, r.want}, Sig: 77, Used: 6})
	}
	for _, left := range []int64{0, 1, 32768, 65535} {
		for _, right := range []int64{0, 1, 65535} {
			m := standing([]int64{21, left, right}, []int64{3})
			for _, op := range []int64{0, 11, 12, 256 + 1, 65535} {
				checkTrapped(t, []int64{impl.AsTwo, op}, m, impl.ErrForm)
			}
		}
		checkTrapped(t, []int64{impl.AsTwo, impl.OpDiv}, standing([]int64{21, left, 0}, []int64{3}), impl.ErrNone)
		checkTrapped(t, []int64{impl.AsTwo, impl.OpMod}, standing([]int64{21, left, 0}, []int64{3}), impl.ErrNone)
	}
	// Too few words are asked ahead of what they would make.
	for _, op := range []int64{0, 1, impl.OpDiv, impl.OpMod, 11} {
		checkTrapped(t, []int64{impl.AsTwo, op}, standing([]int64{0}, nil), impl.ErrForm)
		checkTrapped(t, []int64{impl.AsTwo, op}, standing(nil, nil), impl.ErrForm)
	}
}

func TestSignsOnTheStack(t *testing.T) {
	for _, word := range edgeWords {
		m := standing([]int64{21, word}, nil)
		for op, want := range map[int64]int64{impl.AsNeg: impl.NegOf(word), impl.AsNot: impl.NotOf(word), impl.AsBool: countIf(word != 0)} {
			checkMade(t, []int64{op}, m, impl.StackMachine{Pc: 1, Stack: []int64{21, want}, Sig: 77, Used: 6})
		}
	}
	for op := int64(impl.AsNeg); op <= impl.AsBool; op++ {
		checkTrapped(t, []int64{op}, standing(nil, []int64{1}), impl.ErrForm)
	}
}

func TestJumps(t *testing.T) {
	// At 1 stands a jump to itself; at 4, within the push at 3, stands an end.
	code := []int64{impl.AsEnd, impl.AsJump, 1, impl.AsPush, impl.AsEnd, impl.AsJump, 4, impl.AsJump, 65535, impl.AsJump, 11}
	for pc, to := range map[int64]int64{1: 1, 5: 4, 7: 65535, 9: 11} {
		m := standing([]int64{0}, nil)
		m.Pc = pc
		checkMade(t, code, m, impl.StackMachine{Pc: to, Stack: []int64{0}, Sig: 77, Used: 6})
		zeros := slices.Clone(code)
		zeros[pc] = impl.AsZero
		checkMade(t, zeros, m, impl.StackMachine{Pc: to, Sig: 77, Used: 6})
		for _, word := range []int64{1, 2, 32768, 65535} {
			m.Stack = []int64{0, word}
			checkMade(t, zeros, m, impl.StackMachine{Pc: pc + 2, Stack: []int64{0}, Sig: 77, Used: 6})
		}
		m.Stack = nil
		checkTrapped(t, zeros, m, impl.ErrForm)
	}
	got := checkRun(t, []int64{impl.AsJump, 3, impl.AsPush, impl.AsEnd}, nil, 9)
	if want := (impl.StackMachine{Pc: 4, Used: 2, Done: true}); !sameMachines(got.Machine, want) {
		t.Errorf("a jump to within an instruction: %v", got)
	}
	got = checkRun(t, []int64{impl.AsJump, 2}, nil, 9)
	if want := (impl.StackMachine{Pc: 2, Used: 2, Trap: impl.ErrForm}); !sameMachines(got.Machine, want) {
		t.Errorf("a jump to behind the end: %v", got)
	}
}

func TestMarks(t *testing.T) {
	type row struct{ sig, mark, want int64 }
	for _, r := range []row{
		{0, 0, 1}, {0, 5, 6}, {0, 65519, 65520}, {0, 65520, 0}, {0, 65521, 1}, {0, 65535, 15},
		{1, 0, 32}, {6, 5, 192}, {65520, 0, 65491}, {65521, 0, 1}, {65521, 65535, 15}, {65535, 0, 435}, {65535, 65535, 449}, {2113, 17, 0}, {2113, 18, 1},
	} {
		if got := impl.SignOf(r.sig, r.mark); got != r.want {
			t.Errorf("SignOf(%d, %d) = %d, want %d", r.sig, r.mark, got, r.want)
		}
		m := standing([]int64{4}, []int64{5})
		m.Sig = r.sig
		checkMade(t, []int64{impl.AsMark, r.mark}, m, impl.StackMachine{Pc: 2, Stack: []int64{4}, Cells: []int64{5}, Sig: r.want, Used: 6})
	}
}

func TestSignOfAnyNumbers(t *testing.T) {
	for _, sig := range append(edgeWords, oddNumbers...) {
		for _, mark := range append(edgeWords, oddNumbers...) {
			got := impl.SignOf(sig, mark)
			if got != signTold(sig, mark) || got != impl.SignOf(impl.WordOf(sig), impl.WordOf(mark)) || got < 0 || got > 65520 {
				t.Errorf("SignOf(%d, %d) = %d, want %d", sig, mark, got, signTold(sig, mark))
			}
		}
	}
	// Two marks change places, and the signature is another one.
	if impl.SignOf(impl.SignOf(0, 1), 2) == impl.SignOf(impl.SignOf(0, 2), 1) {
		t.Error("the order of marks is not told")
	}
}

func TestMachinesThatAreAtTheirEnd(t *testing.T) {
	for op := int64(1); op <= 13; op++ {
		for trap := int64(0); trap <= 10; trap++ {
			for _, done := range []bool{true, false} {
				m := standing([]int64{0, 1}, []int64{4, 5})
				m.Trap, m.Done = trap, done
				if trap == 0 && !done {
					continue
				}
				checkMade(t, allWordsOf(op), m, m)
				m.Pc, m.Used = 65535, 1000000
				checkMade(t, nil, m, m)
			}
		}
	}
	for _, m := range []impl.StackMachine{{Done: true, Pc: -1}, {Trap: 1, Sig: 65536}, {Done: true, Trap: 11}, {Done: true, Cells: []int64{-1}}} {
		checkStackFault(t, m, impl.ErrRange)
	}
	checkStackFault(t, impl.StackMachine{Done: true, Trap: 2, Stack: sameWords(41, 0)}, impl.ErrMany)
}

// Every way to a Trap, with something of its own in each field.
func TestAllElseStaysWithATrap(t *testing.T) {
	type row struct {
		code []int64
		pc   int64
		high int
		trap int64
	}
	for _, r := range []row{
		{nil, 0, 3, impl.ErrForm}, {[]int64{13, 13}, 2, 3, impl.ErrForm}, {[]int64{13, 0}, 1, 3, impl.ErrForm}, {[]int64{13, 14}, 1, 3, impl.ErrForm},
		{[]int64{13, impl.AsPush}, 1, 3, impl.ErrForm}, {[]int64{13, impl.AsStorex, 1}, 1, 3, impl.ErrForm}, {[]int64{13, impl.AsMark}, 1, 3, impl.ErrForm}, {[]int64{13, impl.AsJump}, 1, 3, impl.ErrForm},
		{[]int64{13, impl.AsPush, 5}, 1, 40, impl.ErrForm}, {[]int64{13, impl.AsLoad, 1}, 1, 40, impl.ErrForm},
		{[]int64{13, impl.AsStore, 1}, 1, 0, impl.ErrForm}, {[]int64{13, impl.AsStorex, 0, 4}, 1, 1, impl.ErrForm}, {[]int64{13, impl.AsTwo, 1}, 1, 1, impl.ErrForm}, {[]int64{13, impl.AsZero, 0}, 1, 0, impl.ErrForm},
		{[]int64{13, impl.AsLoad, 4}, 1, 3, impl.ErrForm}, {[]int64{13, impl.AsStore, 4}, 1, 3, impl.ErrForm}, {[]int64{13, impl.AsLoadx, 3, 9}, 1, 3, impl.ErrForm}, {[]int64{13, impl.AsStorex, 3, 9}, 1, 3, impl.ErrForm},
		{[]int64{13, impl.AsLoadx, 0, 1}, 1, 3, impl.ErrRange}, {[]int64{13, impl.AsStorex, 0, 2}, 1, 3, impl.ErrRange},
		{[]int64{13, impl.AsTwo, 11}, 1, 3, impl.ErrForm}, {[]int64{13, impl.AsTwo, impl.OpDiv}, 1, 4, impl.ErrNone}, {[]int64{13, impl.AsTwo, impl.OpMod}, 1, 4, impl.ErrNone},
	} {
		// Of three words on the stack the index of loadx is 1, and that of storex 2.
		stack := append([]int64{7, 2, 1, 0}, mixedWords(36, 8)...)[:r.high]
		for _, used := range []int64{0, 1, 999999, 1000000} {
			m := impl.StackMachine{Pc: r.pc, Stack: stack, Cells: []int64{60, 61, 62, 63}, Sig: 123, Used: used}
			got := checkStep(t, r.code, m).Machine
			if got.Trap != r.trap || got.Used != min(used+1, 1000000) {
				t.Errorf("%v at %d: Trap %d, Used %d behind %d", r.code, r.pc, got.Trap, got.Used, used)
			}
			if got.Pc != r.pc || got.Sig != 123 || got.Done || !slices.Equal(got.Stack, stack) || !slices.Equal(got.Cells, m.Cells) {
				t.Errorf("%v at %d: %v became %v", r.code, r.pc, m, got)
			}
		}
	}
}

func TestUsedOfMachines(t *testing.T) {
	for used, want := range map[int64]int64{0: 1, 1: 2, 19999: 20000, 20000: 20001, 999998: 999999, 999999: 1000000, 1000000: 1000000} {
		for op := int64(1); op <= 13; op++ {
			m := standing([]int64{0, 0}, []int64{1, 1})
			m.Used = used
			if got := checkStep(t, allWordsOf(op), m).Machine; got.Used != want || got.Trap != impl.OK {
				t.Errorf("op %d: %v became %v", op, m, got)
			}
		}
	}
}

func TestFaultsOfMachines(t *testing.T) {
	for _, odd := range append([]int64{2, 10, 11, 999999, 1000000, 1000001}, oddNumbers...) {
		word := codeIf(impl.ErrRange, odd < 0 || odd > 65535)
		fields := func(change func(m *impl.StackMachine), fault int64) {
			t.Helper()
			m := standing([]int64{1, 2}, []int64{3, 4})
			change(&m)
			checkStackFault(t, m, fault)
			// With the other lists too long that is told behind a number out of its bounds.
			if len(m.Stack) == 2 {
				m.Stack = sameWords(41, 1)
				checkStackFault(t, m, max(fault, codeIf(impl.ErrMany, fault == impl.OK)))
			}
			m.Cells = append(sameWords(80, 1), m.Cells...)
			checkStackFault(t, m, max(fault, codeIf(impl.ErrMany, fault == impl.OK)))
		}
		fields(func(m *impl.StackMachine) { m.Pc = odd }, word)
		fields(func(m *impl.StackMachine) { m.Sig = odd }, word)
		fields(func(m *impl.StackMachine) { m.Stack = []int64{odd} }, word)
		fields(func(m *impl.StackMachine) { m.Stack = []int64{1, 1, odd} }, word)
		fields(func(m *impl.StackMachine) { m.Cells = []int64{odd, 1} }, word)
		fields(func(m *impl.StackMachine) { m.Cells = []int64{1, odd} }, word)
		fields(func(m *impl.StackMachine) { m.Used = odd }, codeIf(impl.ErrRange, odd < 0 || odd > 1000000))
		fields(func(m *impl.StackMachine) { m.Trap = odd }, codeIf(impl.ErrRange, odd < 0 || odd > 10))
	}
}

func TestListsOfMachinesThatAreLong(t *testing.T) {
	for _, count := range []int{0, 1, 39, 40, 41, 42, 79, 80, 81, 82, 400, 401, 1000} {
		checkStackFault(t, impl.StackMachine{Stack: sameWords(count, 65535)}, codeIf(impl.ErrMany, count > 40))
		checkStackFault(t, impl.StackMachine{Cells: sameWords(count, 65535)}, codeIf(impl.ErrMany, count > 80))
		if count > 0 {
			checkStackFault(t, impl.StackMachine{Stack: withWord(sameWords(count, 0), count-1, 65536)}, impl.ErrRange)
			checkStackFault(t, impl.StackMachine{Cells: withWord(sameWords(count, 0), count-1, -1)}, impl.ErrRange)
		}
	}
	checkStackFault(t, impl.StackMachine{Stack: sameWords(40, 1), Cells: sameWords(80, 1)}, impl.OK)
	checkStackFault(t, impl.StackMachine{Stack: sameWords(41, 1), Cells: withWord(sameWords(81, 1), 80, 65536), Used: 1000001}, impl.ErrRange)
}

func TestStartStack(t *testing.T) {
	ask := func(cells []int64, fault int64) {
		t.Helper()
		want := impl.StackResult{Code: fault}
		if fault == impl.OK {
			want.Machine.Cells = cells
		}
		if got := impl.StartStack(cells); !sameStacks(got, want) {
			t.Errorf("StartStack(%v) = %v, want %v", cells, got, want)
		}
		// A run asks the same ahead of its budget.
		for _, budget := range []int64{-1, 20001, math.MinInt64} {
			if got := checkRun(t, []int64{impl.AsEnd}, cells, budget); !sameStacks(got, impl.StackResult{Code: max(fault, codeIf(impl.ErrRange, fault == impl.OK))}) {
				t.Errorf("RunStack of %v with %d = %v", cells, budget, got)
			}
		}
	}
	ask(nil, impl.OK)
	ask([]int64{}, impl.OK)
	ask([]int64{0, 65535}, impl.OK)
	ask(mixedWords(80, 3), impl.OK)
	ask(mixedWords(81, 3), impl.ErrMany)
	ask(mixedWords(400, 3), impl.ErrMany)
	ask(mixedWords(401, 3), impl.ErrMany)
	for _, odd := range oddNumbers {
		if odd < 0 || odd > 65535 {
			ask([]int64{0, odd}, impl.ErrRange)
			ask(withWord(sameWords(81, 1), 0, odd), impl.ErrRange)
			ask(withWord(sameWords(401, 1), 400, odd), impl.ErrRange)
		}
	}
}

// checkEnded asks what a run ends with.
func checkEnded(t *testing.T, code, cells []int64, budget int64, want impl.StackMachine) {
	t.Helper()
	if got := checkRun(t, code, cells, budget); got.Code != impl.OK || !sameMachines(got.Machine, want) {
		t.Errorf("RunStack(%v, %v, %d)\n= %v, want\n  %v", code, cells, budget, got, want)
	}
}

func TestBudgetsOfStacks(t *testing.T) {
	for _, budget := range append([]int64{20001, 20002, 1000000}, oddNumbers...) {
		if budget < 0 || budget > 20000 {
			for _, code := range [][]int64{nil, {impl.AsEnd}, {0}} {
				if got := checkRun(t, code, []int64{1}, budget); !sameStacks(got, impl.StackResult{Code: impl.ErrRange}) {
					t.Errorf("RunStack with the budget %d = %v", budget, got)
				}
			}
		}
	}
	// With no budget nothing is done, not even what would be a Trap.
	for _, code := range [][]int64{nil, {impl.AsEnd}, {0}, {impl.AsPush, 1}} {
		checkEnded(t, code, []int64{7}, 0, impl.StackMachine{Cells: []int64{7}, Trap: impl.ErrMany})
	}
	checkEnded(t, []int64{impl.AsEnd}, nil, 1, impl.StackMachine{Pc: 1, Used: 1, Done: true})
	checkEnded(t, []int64{impl.AsEnd}, nil, 20000, impl.StackMachine{Pc: 1, Used: 1, Done: true})
	checkEnded(t, nil, nil, 1, impl.StackMachine{Used: 1, Trap: impl.ErrForm})
	checkEnded(t, []int64{0}, nil, 20000, impl.StackMachine{Used: 1, Trap: impl.ErrForm})
	for _, budget := range []int64{0, 1, 2, 19999, 20000} {
		checkEnded(t, []int64{impl.AsJump, 0}, nil, budget, impl.StackMachine{Used: budget, Trap: impl.ErrMany})
	}
	// The last step within the budget has a Trap of its own.
	code := []int64{impl.AsPush, 1, impl.AsPush, 0, impl.AsTwo, impl.OpDiv}
	checkEnded(t, code, nil, 3, impl.StackMachine{Pc: 4, Stack: []int64{1, 0}, Used: 3, Trap: impl.ErrNone})
	checkEnded(t, code, nil, 2, impl.StackMachine{Pc: 4, Stack: []int64{1, 0}, Used: 2, Trap: impl.ErrMany})
	checkEnded(t, code, nil, 1, impl.StackMachine{Pc: 2, Stack: []int64{1}, Used: 1, Trap: impl.ErrMany})
}

// A loop: cell 1 becomes the sum of 1 to cell 0, and the signature tells the rounds.
func TestLoopOnAStack(t *testing.T) {
	code := []int64{
		impl.AsLoad, 0, impl.AsZero, 24, // from here each round begins
		impl.AsMark, 3,
		impl.AsLoad, 1, impl.AsLoad, 0, impl.AsTwo, impl.OpAdd, impl.AsStore, 1,
		impl.AsLoad, 0, impl.AsPush, 1, impl.AsTwo, impl.OpSub, impl.AsStore, 0,
		impl.AsJump, 0,
		impl.AsEnd,
	}
	for _, n := range []int64{0, 1, 2, 10, 400} {
		steps, sig := n*12+3, int64(0)
		for range n {
			sig = signTold(sig, 3)
		}
		want := impl.StackMachine{Pc: 25, Cells: []int64{0, restOf(n * (n + 1) / 2)}, Sig: sig, Used: steps, Done: true}
		checkEnded(t, code, []int64{n, 0}, steps, want)
		checkEnded(t, code, []int64{n, 0}, 20000, want)
		want.Pc, want.Used, want.Trap, want.Done = 24, steps-1, impl.ErrMany, false
		checkEnded(t, code, []int64{n, 0}, steps-1, want)
	}
}

func TestStackText(t *testing.T) {
	type row struct {
		code []int64
		text string
	}
	for _, r := range []row{
		{nil, ""}, {[]int64{}, ""},
		{[]int64{1, 65535}, "push 65535\n"}, {[]int64{2, 0}, "load 0\n"}, {[]int64{3, 12}, "store 12\n"},
		{[]int64{4, 5, 6}, "loadx 5 6\n"}, {[]int64{5, 7, 8}, "storex 7 8\n"}, {[]int64{6, 10}, "two 10\n"},
		{[]int64{7}, "neg\n"}, {[]int64{8}, "not\n"}, {[]int64{9}, "bool\n"},
		{[]int64{10, 1}, "jump 1\n"}, {[]int64{11, 2}, "zero 2\n"}, {[]int64{12, 1000}, "mark 1000\n"}, {[]int64{13}, "end\n"},
		{[]int64{13, 13, 6, 0, 1, 14}, "end\nend\ntwo 0\npush 14\n"},
		{[]int64{4, 4, 4, 5, 5, 5, 1, 1}, "loadx 4 4\nstorex 5 5\npush 1\n"},
		{sameWords(400, 13), strings.Repeat("end\n", 400)},
		{sameWords(399, 4), strings.Repeat("loadx 4 4\n", 133)},
	} {
		if got := impl.StackText(r.code); got != (impl.TextResult{Text: r.text}) || got != stackTextTold(r.code) {
			t.Errorf("StackText(%v) = %v, want %q", r.code, got, r.text)
		}
	}
	for _, code := range [][]int64{{0}, {14}, {65535}, {13, 0}, {13, 14, 13}, {1, 5, 0}, {1}, {2}, {3}, {4}, {4, 1}, {5}, {5, 1}, {6}, {10}, {11}, {12}, {13, 4, 13}, {1, 1, 1}, sameWords(400, 4), sameWords(399, 1)} {
		if got := impl.StackText(code); got != (impl.TextResult{Code: impl.ErrText}) {
			t.Errorf("StackText(%v) = %v, want ErrText", code, got)
		}
	}
}
