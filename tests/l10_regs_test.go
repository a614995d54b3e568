package tests

import (
	"math"
	"slices"
	"strings"
	"testing"

	"loop.example/g00251/impl"
)

// standingRegs answers a machine at the beginning of its code that has a number of its own in every other field; the first
// registers are as told, the others 1000 and their place.
func standingRegs(first, cells []int64) impl.RegMachine {
	regs := slices.Clone(first)
	for i := int64(len(first)); i < 24; i++ {
		regs = append(regs, 1000+i)
	}
	return impl.RegMachine{Regs: regs, Cells: cells, Sig: 77, Used: 5}
}

// behindOne answers what becomes of a machine whose one step leads to a Pc and changes nothing else.
func behindOne(m impl.RegMachine, pc int64) impl.RegMachine {
	m.Pc = pc
	m.Used++
	return m
}

// withReg answers what becomes of it if its step leads to a Pc and changes one register.
func withReg(m impl.RegMachine, pc int64, reg int, word int64) impl.RegMachine {
	m = behindOne(m, pc)
	m.Regs = withWord(m.Regs, reg, word)
	return m
}

// withCell answers what becomes of it if its step leads to a Pc and changes one cell.
func withCell(m impl.RegMachine, pc int64, cell int, word int64) impl.RegMachine {
	m = behindOne(m, pc)
	m.Cells = withWord(m.Cells, cell, word)
	return m
}

// checkRegMade asks that a step has no code, and for all of the machine then.
func checkRegMade(t *testing.T, code []int64, m, want impl.RegMachine) {
	t.Helper()
	if got := checkRegStep(t, code, m); got.Code != impl.OK || !sameRegs(got.Machine, want) {
		t.Errorf("StepRegs(%v, %v)\n= %v, want\n  %v", code, m, got, want)
	}
}

// checkRegTrapped asks that a step has the Trap, and that all else stays, but for the step that is counted.
func checkRegTrapped(t *testing.T, code []int64, m impl.RegMachine, trap int64) {
	t.Helper()
	want := m
	want.Trap = trap
	want.Used = min(m.Used+1, 1000000)
	checkRegMade(t, code, m, want)
}

// checkRegCode asks that a step tells the code and nothing else.
func checkRegCode(t *testing.T, code []int64, m impl.RegMachine, fault int64) {
	t.Helper()
	if got := checkRegStep(t, code, m); !sameRegResults(got, impl.RegResult{Code: fault}) {
		t.Errorf("StepRegs(%v, %v) = %v, want the code %d", code, m, got, fault)
	}
}

// checkRegFault asks for the code of a machine, and that a step tells it and nothing else.
func checkRegFault(t *testing.T, m impl.RegMachine, fault int64) {
	t.Helper()
	if got := impl.RegFault(m); got != fault {
		t.Errorf("RegFault(%v) = %d, want %d", m, got, fault)
	}
	if got := checkRegStep(t, []int64{impl.RsMark, 3}, m); got.Code != fault {
		t.Errorf("StepRegs of %v = %v, want the code %d", m, got, fault)
	}
	if fault != impl.OK {
		checkRegCode(t, []int64{impl.RsMark, 3}, m, fault)
	}
}

// regWordsOf answers an instruction of the op with words that are all 1: a register, a cell, an op of chapter 2.
func regWordsOf(op int64) []int64 {
	return append([]int64{op}, sameWords(ofOp(regWords, op), 1)...)
}

// smallRegs answers a machine on which no instruction of regWordsOf has a Trap: register 1 is 0, upside down.
func smallRegs() impl.RegMachine {
	return standingRegs([]int64{65535, 65535}, []int64{65533, 65532})
}

func TestRegNumbers(t *testing.T) {
	ops := []int64{impl.RsConst, impl.RsLoad, impl.RsStore, impl.RsLoadx, impl.RsStorex, impl.RsTwo, impl.RsNeg, impl.RsNot, impl.RsBool, impl.RsJump, impl.RsZero, impl.RsMark, impl.RsEnd}
	for i, op := range ops {
		if op != int64(i)+1 {
			t.Errorf("op %d has the number %d", i+1, op)
		}
	}
	if impl.MaxRegs != 24 {
		t.Error("MaxRegs is another number")
	}
}

func TestArgsOfRegs(t *testing.T) {
	for op, want := range []int64{1: 2, 2: 2, 3: 2, 4: 4, 5: 4, 6: 4, 7: 2, 8: 2, 9: 1, 10: 1, 11: 2, 12: 1, 13: 0} {
		if got := impl.ArgsOfRegs(int64(op)); op > 0 && got != (impl.IntResult{Value: want}) {
			t.Errorf("ArgsOfRegs(%d) = %v, want %d", op, got, want)
		}
	}
	for _, op := range []int64{0, 14, -1, 65535, 65536 + 1, 1<<32 + 1, 256 + 4, math.MinInt64, math.MinInt64 + 4, math.MaxInt64} {
		if got := impl.ArgsOfRegs(op); got != (impl.IntResult{Code: impl.ErrRange}) {
			t.Errorf("ArgsOfRegs(%d) = %v, want ErrRange", op, got)
		}
	}
}

// What is upside down and what is not: 9, 2 and 1 in the registers, 50 to 53 in the cells.
func TestEachRegOp(t *testing.T) {
	begin := standingRegs([]int64{65526, 65533, 65534}, []int64{65485, 65484, 65483, 65482})
	marked, ended := behindOne(begin, 2), behindOne(begin, 1)
	marked.Sig, ended.Done = 77*31+4+1, true
	for _, r := range []struct {
		code []int64
		want impl.RegMachine
	}{
		{[]int64{impl.RsConst, 3, 65531}, withReg(begin, 3, 3, 65531)},
		{[]int64{impl.RsConst, 3, 4}, withReg(begin, 3, 3, 4)},
		{[]int64{impl.RsLoad, 3, 2}, withReg(begin, 3, 3, 65483)},
		{[]int64{impl.RsStore, 3, 0}, withCell(begin, 3, 3, 65526)},
		{[]int64{impl.RsLoadx, 3, 1, 1, 3}, withReg(begin, 5, 3, 65482)},
		{[]int64{impl.RsStorex, 1, 0, 0, 3}, withCell(begin, 5, 2, 65526)},
		{[]int64{impl.RsTwo, 3, 0, 1, impl.OpSub}, withReg(begin, 5, 3, 65528)},
		{[]int64{impl.RsTwo, 3, 1, 0, impl.OpSub}, withReg(begin, 5, 3, 6)},
		{[]int64{impl.RsNeg, 3, 1}, withReg(begin, 3, 3, 1)},
		{[]int64{impl.RsNot, 3, 1}, withReg(begin, 3, 3, 65535)},
		{[]int64{impl.RsBool, 0}, withReg(begin, 2, 0, 65534)},
		{[]int64{impl.RsJump, 400}, behindOne(begin, 400)},
		{[]int64{impl.RsZero, 1, 400}, behindOne(begin, 3)},
		{[]int64{impl.RsMark, 4}, marked},
		{[]int64{impl.RsEnd}, ended},
	} {
		checkRegMade(t, r.code, begin, r.want)
		// Somewhere within code it does the same.
		moved, wantMoved := begin, r.want
		moved.Pc, wantMoved.Pc = 3, r.want.Pc+3
		if r.code[0] == impl.RsJump {
			wantMoved.Pc = 400
		}
		checkRegMade(t, slices.Concat([]int64{14, 0, 65535}, r.code, []int64{0, 65535}), moved, wantMoved)
	}
}

func TestRegWordsThatAreNotThere(t *testing.T) {
	for op := int64(1); op <= 13; op++ {
		whole := regWordsOf(op)
		for _, ahead := range []int{0, 1, 5, 390} {
			for there := range len(whole) + 1 {
				code := slices.Concat(sameWords(ahead, 13), whole[:there])
				m := smallRegs()
				m.Pc = int64(ahead)
				if there < len(whole) {
					checkRegTrapped(t, code, m, impl.ErrForm)
					continue
				}
				if got := checkRegStep(t, code, m); got.Machine.Trap != impl.OK || got.Machine.Used != 6 {
					t.Errorf("op %d with all its words: %v", op, got)
				}
			}
		}
	}
}

func TestRegWordsThatAreNoOp(t *testing.T) {
	for _, word := range []int64{0, 14, 15, 255, 256 + 1, 32768 + 1, 65535} {
		for behind := range 6 {
			checkRegTrapped(t, append([]int64{word}, sameWords(behind, 1)...), smallRegs(), impl.ErrForm)
		}
	}
}

func TestPcsOfRegs(t *testing.T) {
	code := []int64{impl.RsBool, impl.RsEnd, impl.RsJump, 1, impl.RsEnd}
	at := func(pc int64) impl.RegMachine {
		m := standingRegs(nil, nil)
		m.Pc = pc
		return m
	}
	checkRegMade(t, code, at(0), withReg(at(0), 2, 13, 65534))
	for pc, to := range map[int64]int64{1: 2, 4: 5} {
		ended := behindOne(at(pc), to)
		ended.Done = true
		checkRegMade(t, code, at(pc), ended)
	}
	checkRegMade(t, code, at(2), behindOne(at(2), 1))
	for _, pc := range []int64{5, 6, 399, 400, 401, 32768, 65535} {
		checkRegTrapped(t, code, at(pc), impl.ErrForm)
	}
	for _, pc := range []int64{0, 1, 65535} {
		checkRegTrapped(t, nil, at(pc), impl.ErrForm)
		checkRegTrapped(t, []int64{}, at(pc), impl.ErrForm)
	}
	full := sameWords(400, impl.RsEnd)
	ended := behindOne(at(399), 400)
	ended.Done = true
	checkRegMade(t, full, at(399), ended)
	checkRegTrapped(t, full, at(400), impl.ErrForm)
}

func TestRegCodeThatIsNone(t *testing.T) {
	faulty := smallRegs()
	faulty.Pc = -1
	machines := []impl.RegMachine{{}, smallRegs(), {Done: true}, {Trap: 3}, faulty, {Cells: sameWords(81, 0)}, {Regs: sameWords(25, 1)}}
	ask := func(code []int64, fault int64) {
		t.Helper()
		for _, m := range machines {
			checkRegCode(t, code, m, fault)
		}
		for _, cells := range [][]int64{nil, {-1}, sameWords(81, 0)} {
			for _, budget := range []int64{-1, 0, 5, 20001} {
				if got := checkRegRun(t, code, cells, budget); !sameRegResults(got, impl.RegResult{Code: fault}) {
					t.Errorf("RunRegs with the code %d of words = %v", fault, got)
				}
			}
		}
		if got := impl.RegsText(code); got != (impl.TextResult{Code: fault}) {
			t.Errorf("RegsText with the code %d of words = %v", fault, got)
		}
		if got := impl.InvertAll(code); got.Code != fault || got.List != nil {
			t.Errorf("InvertAll with the code %d of words = %v", fault, got)
		}
	}
	for _, odd := range oddNumbers {
		if odd < 0 || odd > 65535 {
			ask([]int64{impl.RsEnd, odd}, impl.ErrRange)
			ask([]int64{odd, 0}, impl.ErrRange)
			ask([]int64{impl.RsLoad, 0, odd}, impl.ErrRange)
			ask([]int64{impl.RsNeg, odd, 0}, impl.ErrRange)
		}
	}
	ask(withWord(sameWords(400, 13), 399, -1), impl.ErrRange)
	ask(sameWords(401, 13), impl.ErrMany)
	ask(sameWords(401, -1), impl.ErrMany)
	ask(sameWords(5000, 0), impl.ErrMany)
}

// Of each instruction each of its registers is 0, 23, 24 and 65535, once with all else as it should be and once with other
// things wrong, which are asked behind it.
func TestRegistersOfInstructions(t *testing.T) {
	seen := 0
	for op := int64(1); op <= 13; op++ {
		for _, place := range regPlaces[op-1] {
			at := int(place-'0') + 1
			for _, reg := range []int64{0, 22, 23} {
				m := standingRegs([]int64{65535, 65535}, []int64{4, 5})
				m.Regs[22], m.Regs[23] = 65535, 65535
				if got := checkRegStep(t, withWord(regWordsOf(op), at, reg), m); got.Machine.Trap != impl.OK || got.Code != impl.OK {
					t.Errorf("op %d with the register %d: %v", op, reg, got)
				}
			}
			for _, reg := range []int64{24, 25, 255, 256, 32768, 65535} {
				code := withWord(regWordsOf(op), at, reg)
				checkRegTrapped(t, code, smallRegs(), impl.ErrForm)
				checkRegTrapped(t, code, standingRegs([]int64{0, 0}, nil), impl.ErrForm)
				if op == impl.RsTwo {
					checkRegTrapped(t, withWord(code, 4, impl.OpDiv), smallRegs(), impl.ErrForm)
				}
			}
			if got := checkRegStep(t, withWord(regWordsOf(op), at, -1), smallRegs()); !sameRegResults(got, impl.RegResult{Code: impl.ErrRange}) {
				t.Errorf("op %d with the register -1: %v", op, got)
			}
			seen++
		}
	}
	if seen != 16 {
		t.Errorf("%d places of registers", seen)
	}
	// What is no register may be greater than all of them.
	for _, code := range [][]int64{{impl.RsConst, 1, 65535}, {impl.RsJump, 24}, {impl.RsZero, 1, 24}, {impl.RsMark, 24}, {impl.RsLoad, 1, 24}, {impl.RsStore, 24, 1}, {impl.RsLoadx, 1, 1, 24, 24}, {impl.RsStorex, 1, 1, 24, 24}} {
		m := smallRegs()
		m.Cells = sameWords(25, 65534)
		if got := checkRegStep(t, code, m); got.Code != impl.OK || got.Machine.Trap != impl.OK {
			t.Errorf("StepRegs(%v, ..) = %v", code, got)
		}
	}
}

// A register at either end stands for itself alone.
func TestEachRegisterIsItsOwn(t *testing.T) {
	m := standingRegs(nil, []int64{7})
	for reg := range 24 {
		r := int64(reg)
		checkRegMade(t, []int64{impl.RsConst, r, 3}, m, withReg(m, 3, reg, 3))
		checkRegMade(t, []int64{impl.RsLoad, r, 0}, m, withReg(m, 3, reg, 7))
		checkRegMade(t, []int64{impl.RsStore, 0, r}, m, withCell(m, 3, 0, 1000+r))
		checkRegMade(t, []int64{impl.RsBool, r}, m, withReg(m, 2, reg, 65534))
		other := 23 - r
		checkRegMade(t, []int64{impl.RsNeg, r, other}, m, withReg(m, 3, reg, 65534-(1000+other)))
		checkRegMade(t, []int64{impl.RsTwo, r, other, r, impl.OpAdd}, m, withReg(m, 5, reg, 1000+other+1000+r+1))
	}
}

func TestCellsOfRegMachines(t *testing.T) {
	for _, many := range []int64{0, 1, 80} {
		cells := mixedWords(int(many), 9)
		m := standingRegs(nil, cells)
		for _, cell := range []int64{0, 1, many - 1, many, many + 1, 80, 255, 32768, 65535} {
			if cell < 0 {
				continue
			}
			load, store := []int64{impl.RsLoad, 2, cell}, []int64{impl.RsStore, cell, 2}
			if cell >= many {
				checkRegTrapped(t, load, m, impl.ErrForm)
				checkRegTrapped(t, store, m, impl.ErrForm)
				continue
			}
			checkRegMade(t, load, m, withReg(m, 3, 2, cells[cell]))
			checkRegMade(t, store, m, withCell(m, 3, int(cell), 1002))
		}
		// A cell -1 is no word of code.
		for _, code := range [][]int64{{impl.RsLoad, 0, -1}, {impl.RsStore, -1, 0}, {impl.RsLoadx, 0, 0, -1, 2}, {impl.RsStorex, 0, 0, -1, 2}} {
			checkRegCode(t, code, m, impl.ErrRange)
		}
	}
	m := standingRegs(nil, sameWords(81, 1))
	for _, code := range [][]int64{{impl.RsLoad, 0, 0}, {impl.RsStore, 80, 0}, {impl.RsLoadx, 0, 0, 0, 9}, {impl.RsEnd}} {
		checkRegCode(t, code, m, impl.ErrMany)
	}
}

func TestConstsOfRegs(t *testing.T) {
	m := standingRegs(nil, nil)
	for _, word := range edgeWords {
		checkRegMade(t, []int64{impl.RsConst, 5, word}, m, withReg(m, 3, 5, word))
	}
	for _, word := range oddNumbers {
		if word < 0 || word > 65535 {
			checkRegCode(t, []int64{impl.RsConst, 5, word}, m, impl.ErrRange)
		}
	}
}

// checkRegItem asks the same of both ops; the index is upside down in register 1.
func checkRegItem(t *testing.T, many int, first, size, index int64, trap int64) {
	t.Helper()
	cells := mixedWords(many, 17)
	m := standingRegs([]int64{1000, turnedWord(index)}, cells)
	load, store := []int64{impl.RsLoadx, 2, 1, first, size}, []int64{impl.RsStorex, 1, 2, first, size}
	if trap != impl.OK {
		checkRegTrapped(t, load, m, trap)
		checkRegTrapped(t, store, m, trap)
		return
	}
	at := int(first + index)
	checkRegMade(t, load, m, withReg(m, 5, 2, cells[at]))
	checkRegMade(t, store, m, withCell(m, 5, at, 1002))
}

func TestItemsOfRegMachines(t *testing.T) {
	type row struct {
		many               int
		first, size, index int64
		trap               int64
	}
	for _, r := range []row{
		{9, 2, 4, 0, impl.OK}, {9, 2, 4, 1, impl.OK}, {9, 2, 4, 3, impl.OK},
		{9, 2, 4, 4, impl.ErrRange}, {9, 2, 4, 5, impl.ErrRange}, {9, 2, 4, 65535, impl.ErrRange}, {9, 2, 4, 65534, impl.ErrRange}, {9, 2, 4, 32767, impl.ErrRange}, {9, 2, 4, 32768, impl.ErrRange},
		// A row at the first cells, and at the last ones.
		{9, 0, 9, 0, impl.OK}, {9, 0, 9, 8, impl.OK}, {9, 0, 9, 9, impl.ErrRange}, {9, 0, 9, 65535, impl.ErrRange}, {9, 8, 1, 0, impl.OK}, {9, 8, 1, 1, impl.ErrRange}, {9, 8, 1, 65535, impl.ErrRange},
		{80, 72, 8, 7, impl.OK}, {80, 72, 8, 8, impl.ErrRange}, {1, 0, 1, 0, impl.OK}, {1, 0, 1, 1, impl.ErrRange},
		// No index is within a size of 0.
		{9, 2, 0, 0, impl.ErrRange}, {9, 2, 0, 1, impl.ErrRange}, {9, 2, 0, 65535, impl.ErrRange}, {9, 9, 0, 0, impl.ErrRange}, {0, 0, 0, 0, impl.ErrRange},
		// Of a size that no index reaches all from 0 on are within, as far as there are cells.
		{9, 2, 65535, 0, impl.OK}, {9, 2, 65535, 6, impl.OK}, {9, 2, 65535, 7, impl.ErrForm}, {9, 2, 65535, 32767, impl.ErrForm}, {9, 2, 65535, 32768, impl.ErrRange}, {9, 2, 65535, 65535, impl.ErrRange}, {9, 0, 32768, 32767, impl.ErrForm},
		// The cell is none, though the index is within.
		{9, 7, 4, 1, impl.OK}, {9, 7, 4, 2, impl.ErrForm}, {9, 7, 4, 3, impl.ErrForm}, {9, 9, 4, 0, impl.ErrForm}, {9, 65535, 4, 0, impl.ErrForm}, {9, 65535, 65535, 32767, impl.ErrForm}, {0, 0, 1, 0, impl.ErrForm}, {80, 79, 2, 1, impl.ErrForm}, {80, 80, 1, 0, impl.ErrForm},
		// Both at once: of an index that is not within no cell is told.
		{9, 7, 4, 4, impl.ErrRange}, {9, 9, 4, 4, impl.ErrRange}, {9, 65535, 4, 4, impl.ErrRange}, {9, 65535, 4, 65535, impl.ErrRange}, {9, 10, 4, 65535, impl.ErrRange}, {0, 0, 1, 1, impl.ErrRange}, {0, 0, 1, 65535, impl.ErrRange},
	} {
		checkRegItem(t, r.many, r.first, r.size, r.index, r.trap)
	}
}

// A register that is none is asked ahead of an index that is not within, whichever of the two it is.
func TestItemsWithoutARegister(t *testing.T) {
	for _, regs := range [][2]int64{{24, 1}, {1, 24}, {24, 24}, {65535, 0}, {0, 65535}} {
		for _, op := range []int64{impl.RsLoadx, impl.RsStorex} {
			checkRegTrapped(t, []int64{op, regs[0], regs[1], 0, 0}, smallRegs(), impl.ErrForm)
			checkRegTrapped(t, []int64{op, regs[0], regs[1], 0, 1}, standingRegs([]int64{0, 0}, []int64{1}), impl.ErrForm)
		}
	}
}

func TestRegistersThatAreTheSame(t *testing.T) {
	m := standingRegs([]int64{65535 - 6, 65535 - 2}, []int64{50, 51, 52})
	checkRegMade(t, []int64{impl.RsTwo, 0, 0, 1, impl.OpSub}, m, withReg(m, 5, 0, 65535-4))
	checkRegMade(t, []int64{impl.RsTwo, 1, 0, 1, impl.OpSub}, m, withReg(m, 5, 1, 65535-4))
	checkRegMade(t, []int64{impl.RsTwo, 2, 0, 0, impl.OpSub}, m, withReg(m, 5, 2, 65535))
	checkRegMade(t, []int64{impl.RsTwo, 0, 0, 0, impl.OpMul}, m, withReg(m, 5, 0, 65535-36))
	checkRegMade(t, []int64{impl.RsNeg, 0, 0}, m, withReg(m, 3, 0, 5))
	checkRegMade(t, []int64{impl.RsNot, 0, 0}, m, withReg(m, 3, 0, 65535))
	checkRegMade(t, []int64{impl.RsLoadx, 1, 1, 0, 3}, m, withReg(m, 5, 1, 52))
	checkRegMade(t, []int64{impl.RsStorex, 1, 1, 0, 3}, m, withCell(m, 5, 2, 65535-2))
	checkRegTrapped(t, []int64{impl.RsLoadx, 0, 0, 0, 3}, m, impl.ErrRange)
	checkRegTrapped(t, []int64{impl.RsStorex, 0, 0, 0, 3}, m, impl.ErrRange)
}

func TestTwoOfRegs(t *testing.T) {
	type row struct{ op, left, right, want int64 }
	for _, r := range []row{
		{impl.OpAdd, 65535, 3, 2}, {impl.OpSub, 3, 5, 65534}, {impl.OpSub, 5, 3, 2}, {impl.OpMul, 300, 300, 24464},
		{impl.OpDiv, 7, 2, 3}, {impl.OpDiv, 2, 7, 0}, {impl.OpDiv, 65529, 2, 65533}, {impl.OpDiv, 0, 5, 0}, {impl.OpDiv, 32768, 65535, 32768},
		{impl.OpMod, 7, 2, 1}, {impl.OpMod, 2, 7, 2}, {impl.OpMod, 65529, 2, 65535}, {impl.OpMod, 0, 5, 0}, {impl.OpMod, 32768, 65535, 0},
		{impl.OpAnd, 12, 10, 8}, {impl.OpOr, 12, 10, 14}, {impl.OpXor, 12, 10, 6},
		{impl.OpLess, 65535, 0, 1}, {impl.OpLess, 0, 65535, 0}, {impl.OpLess, 4, 4, 0}, {impl.OpSame, 4, 4, 1}, {impl.OpSame, 4, 5, 0},
	} {
		m := standingRegs([]int64{1000, turnedWord(r.left), turnedWord(r.right)}, nil)
		checkRegMade(t, []int64{impl.RsTwo, 3, 1, 2, r.op}, m, withReg(m, 5, 3, turnedWord(r.want)))
		if other := impl.BinaryInv(r.op, m.Regs[1], m.Regs[2]); other.Value != turnedWord(r.want) {
			t.Errorf("BinaryInv of %v = %v", r, other)
		}
	}
	for _, left := range []int64{0, 1, 32768, 65534, 65535} {
		for _, right := range []int64{0, 1, 65534, 65535} {
			m := standingRegs([]int64{1000, left, right}, []int64{3})
			for _, op := range []int64{0, 11, 12, 256 + 1, 65535} {
				checkRegTrapped(t, []int64{impl.RsTwo, 3, 1, 2, op}, m, impl.ErrForm)
			}
		}
		// A register that holds 65535 holds 0, and one that holds 0 holds -1.
		for _, op := range []int64{impl.OpDiv, impl.OpMod} {
			checkRegTrapped(t, []int64{impl.RsTwo, 3, 1, 2, op}, standingRegs([]int64{1000, left, 65535}, nil), impl.ErrNone)
			m := standingRegs([]int64{1000, left, 0}, nil)
			want := map[int64]int64{impl.OpDiv: turnedWord(restOf(-turnedWord(left))), impl.OpMod: 65535}[op]
			checkRegMade(t, []int64{impl.RsTwo, 3, 1, 2, op}, m, withReg(m, 5, 3, want))
		}
	}
	// A register that is none is asked ahead of what is divided by.
	checkRegTrapped(t, []int64{impl.RsTwo, 24, 1, 2, impl.OpDiv}, standingRegs([]int64{1000, 1, 65535}, nil), impl.ErrForm)
	checkRegTrapped(t, []int64{impl.RsTwo, 3, 24, 2, impl.OpMod}, standingRegs([]int64{1000, 1, 65535}, nil), impl.ErrForm)
}

func TestSignsOfRegs(t *testing.T) {
	type row struct{ word, neg, not, boolean int64 }
	for _, r := range []row{
		{0, 65534, 65535, 65534}, // -1: 1, 0 and 1
		{1, 65533, 65535, 65534}, // -2: 2, 0 and 1
		{65534, 0, 65535, 65534}, // 1: -1, 0 and 1
		{65535, 65535, 65534, 65535},
		{65533, 1, 65535, 65534},
		{32767, 32767, 65535, 65534}, // the least number of all is itself again
		{32768, 32766, 65535, 65534},
	} {
		m := standingRegs([]int64{1000, r.word}, nil)
		checkRegMade(t, []int64{impl.RsNeg, 4, 1}, m, withReg(m, 3, 4, r.neg))
		checkRegMade(t, []int64{impl.RsNot, 4, 1}, m, withReg(m, 3, 4, r.not))
		checkRegMade(t, []int64{impl.RsBool, 1}, m, withReg(m, 2, 1, r.boolean))
	}
	for _, word := range edgeWords {
		m := standingRegs([]int64{1000, word}, nil)
		checkRegMade(t, []int64{impl.RsNeg, 1, 1}, m, withReg(m, 3, 1, impl.Complement(impl.NegOf(impl.Complement(word)))))
		checkRegMade(t, []int64{impl.RsNot, 1, 1}, m, withReg(m, 3, 1, impl.Complement(impl.NotOf(impl.Complement(word)))))
		checkRegMade(t, []int64{impl.RsBool, 1}, m, withReg(m, 2, 1, 65535-countIf(word != 65535)))
	}
}

func TestJumpsOfRegs(t *testing.T) {
	// At 1 stands a jump to itself; at 4, within the bool at 3, stands an end.
	code := []int64{impl.RsEnd, impl.RsJump, 1, impl.RsBool, impl.RsEnd, impl.RsJump, 4, impl.RsJump, 65535, impl.RsJump, 11}
	for pc, to := range map[int64]int64{1: 1, 5: 4, 7: 65535, 9: 11} {
		m := standingRegs(nil, nil)
		m.Pc = pc
		checkRegMade(t, code, m, behindOne(m, to))
	}
	zeros := []int64{impl.RsEnd, impl.RsZero, 2, 1, impl.RsBool, impl.RsEnd, impl.RsZero, 2, 5, impl.RsZero, 2, 65535, impl.RsZero, 2, 15}
	for pc, to := range map[int64]int64{1: 1, 6: 5, 9: 65535, 12: 15} {
		for _, word := range []int64{65535, 65534, 0, 1, 32767, 32768} {
			m := standingRegs([]int64{0, 65534, word, 0}, nil)
			m.Pc = pc
			want := behindOne(m, pc+3)
			if word == 65535 {
				want.Pc = to
			}
			checkRegMade(t, zeros, m, want)
		}
	}
	got := checkRegRun(t, []int64{impl.RsJump, 3, impl.RsBool, impl.RsEnd}, nil, 9)
	if want := (impl.RegMachine{Pc: 4, Regs: sameWords(24, 65535), Used: 2, Done: true}); !sameRegs(got.Machine, want) {
		t.Errorf("a jump to within an instruction: %v", got)
	}
	got = checkRegRun(t, []int64{impl.RsJump, 2}, nil, 9)
	if want := (impl.RegMachine{Pc: 2, Regs: sameWords(24, 65535), Used: 2, Trap: impl.ErrForm}); !sameRegs(got.Machine, want) {
		t.Errorf("a jump to behind the end: %v", got)
	}
}

// The signature and the marks are not upside down.
func TestMarksOfRegs(t *testing.T) {
	type row struct{ sig, mark, want int64 }
	for _, r := range []row{
		{0, 0, 1}, {0, 5, 6}, {0, 65519, 65520}, {0, 65520, 0}, {0, 65521, 1}, {0, 65535, 15},
		{1, 0, 32}, {6, 5, 192}, {65520, 0, 65491}, {65521, 0, 1}, {65521, 65535, 15}, {65535, 0, 435}, {65535, 65535, 449}, {2113, 17, 0}, {2113, 18, 1},
	} {
		m := standingRegs(nil, []int64{5})
		m.Sig = r.sig
		want := behindOne(m, 2)
		want.Sig = r.want
		checkRegMade(t, []int64{impl.RsMark, r.mark}, m, want)
	}
}

func TestRegMachinesThatAreAtTheirEnd(t *testing.T) {
	for op := int64(1); op <= 13; op++ {
		for trap := int64(0); trap <= 10; trap++ {
			for _, done := range []bool{true, false} {
				m := smallRegs()
				m.Trap, m.Done = trap, done
				if trap == 0 && !done {
					continue
				}
				checkRegMade(t, regWordsOf(op), m, m)
				m.Pc, m.Used = 65535, 1000000
				checkRegMade(t, nil, m, m)
			}
		}
	}
	full := sameWords(24, 1)
	for _, m := range []impl.RegMachine{{Regs: full, Done: true, Pc: -1}, {Regs: full, Trap: 1, Sig: 65536}, {Regs: full, Done: true, Trap: 11}, {Done: true, Cells: []int64{-1}}} {
		checkRegFault(t, m, impl.ErrRange)
	}
	checkRegFault(t, impl.RegMachine{Done: true, Trap: 2, Regs: full[:23]}, impl.ErrForm)
	checkRegFault(t, impl.RegMachine{Done: true, Trap: 2, Regs: full, Cells: sameWords(81, 0)}, impl.ErrMany)
}

// Every way to a Trap, with something of its own in each field.
func TestAllElseOfRegsStaysWithATrap(t *testing.T) {
	type row struct {
		code []int64
		pc   int64
		trap int64
	}
	for _, r := range []row{
		{nil, 0, impl.ErrForm}, {[]int64{13, 13}, 2, impl.ErrForm}, {[]int64{13, 0}, 1, impl.ErrForm}, {[]int64{13, 14}, 1, impl.ErrForm},
		{[]int64{13, impl.RsConst, 0}, 1, impl.ErrForm}, {[]int64{13, impl.RsStorex, 1, 0, 0}, 1, impl.ErrForm}, {[]int64{13, impl.RsMark}, 1, impl.ErrForm}, {[]int64{13, impl.RsJump}, 1, impl.ErrForm},
		{[]int64{13, impl.RsConst, 24, 5}, 1, impl.ErrForm}, {[]int64{13, impl.RsLoad, 24, 1}, 1, impl.ErrForm}, {[]int64{13, impl.RsStore, 1, 24}, 1, impl.ErrForm},
		{[]int64{13, impl.RsNeg, 24, 1}, 1, impl.ErrForm}, {[]int64{13, impl.RsNot, 1, 24}, 1, impl.ErrForm}, {[]int64{13, impl.RsBool, 24}, 1, impl.ErrForm}, {[]int64{13, impl.RsZero, 24, 0}, 1, impl.ErrForm},
		{[]int64{13, impl.RsTwo, 24, 1, 1, 1}, 1, impl.ErrForm}, {[]int64{13, impl.RsTwo, 1, 24, 1, 1}, 1, impl.ErrForm}, {[]int64{13, impl.RsTwo, 1, 1, 24, 1}, 1, impl.ErrForm},
		{[]int64{13, impl.RsLoad, 1, 4}, 1, impl.ErrForm}, {[]int64{13, impl.RsStore, 4, 1}, 1, impl.ErrForm}, {[]int64{13, impl.RsLoadx, 3, 1, 3, 9}, 1, impl.ErrForm}, {[]int64{13, impl.RsStorex, 1, 3, 3, 9}, 1, impl.ErrForm},
		{[]int64{13, impl.RsLoadx, 3, 1, 0, 1}, 1, impl.ErrRange}, {[]int64{13, impl.RsStorex, 1, 3, 0, 1}, 1, impl.ErrRange},
		{[]int64{13, impl.RsTwo, 3, 1, 2, 11}, 1, impl.ErrForm}, {[]int64{13, impl.RsTwo, 3, 1, 0, impl.OpDiv}, 1, impl.ErrNone}, {[]int64{13, impl.RsTwo, 3, 1, 0, impl.OpMod}, 1, impl.ErrNone},
	} {
		// Register 0 is 0, and register 1 is 1, upside down.
		for _, used := range []int64{0, 1, 999999, 1000000} {
			m := standingRegs([]int64{65535, 65534}, []int64{60, 61, 62, 63})
			m.Pc, m.Sig, m.Used = r.pc, 123, used
			got := checkRegStep(t, r.code, m).Machine
			if got.Trap != r.trap || got.Used != min(used+1, 1000000) {
				t.Errorf("%v at %d: Trap %d, Used %d behind %d", r.code, r.pc, got.Trap, got.Used, used)
			}
			if got.Pc != r.pc || got.Sig != 123 || got.Done || !slices.Equal(got.Regs, m.Regs) || !slices.Equal(got.Cells, m.Cells) {
				t.Errorf("%v at %d: %v became %v", r.code, r.pc, m, got)
			}
		}
	}
}

func TestUsedOfRegMachines(t *testing.T) {
	for used, want := range map[int64]int64{0: 1, 1: 2, 19999: 20000, 20000: 20001, 999998: 999999, 999999: 1000000, 1000000: 1000000} {
		for op := int64(1); op <= 13; op++ {
			m := smallRegs()
			m.Used = used
			if got := checkRegStep(t, regWordsOf(op), m).Machine; got.Used != want || got.Trap != impl.OK {
				t.Errorf("op %d: %v became %v", op, m, got)
			}
		}
	}
	for _, used := range []int64{-1, 1000001, math.MinInt64, math.MaxInt64} {
		m := smallRegs()
		m.Used = used
		checkRegFault(t, m, impl.ErrRange)
	}
}

func TestFaultsOfRegMachines(t *testing.T) {
	for _, odd := range append([]int64{2, 10, 11, 999999, 1000000, 1000001}, oddNumbers...) {
		word := codeIf(impl.ErrRange, odd < 0 || odd > 65535)
		fields := func(change func(m *impl.RegMachine), fault int64) {
			t.Helper()
			m := standingRegs(nil, []int64{3, 4})
			change(&m)
			checkRegFault(t, m, fault)
			// A number out of its bounds is told ahead of how many Regs there are, and that ahead of too many Cells.
			more := m
			more.Cells = append(sameWords(80, 1), m.Cells...)
			checkRegFault(t, more, max(fault, codeIf(impl.ErrMany, fault == impl.OK)))
			for _, regs := range [][]int64{m.Regs[1:], append(sameWords(1, 1), m.Regs...)} {
				more.Regs, m.Regs = regs, regs
				checkRegFault(t, m, max(fault, codeIf(impl.ErrForm, fault == impl.OK)))
				checkRegFault(t, more, max(fault, codeIf(impl.ErrForm, fault == impl.OK)))
			}
		}
		fields(func(m *impl.RegMachine) { m.Pc = odd }, word)
		fields(func(m *impl.RegMachine) { m.Sig = odd }, word)
		fields(func(m *impl.RegMachine) { m.Regs[1] = odd }, word)
		fields(func(m *impl.RegMachine) { m.Regs[23] = odd }, word)
		fields(func(m *impl.RegMachine) { m.Cells = []int64{odd, 1} }, word)
		fields(func(m *impl.RegMachine) { m.Cells = []int64{1, odd} }, word)
		fields(func(m *impl.RegMachine) { m.Used = odd }, codeIf(impl.ErrRange, odd < 0 || odd > 1000000))
		fields(func(m *impl.RegMachine) { m.Trap = odd }, codeIf(impl.ErrRange, odd < 0 || odd > 10))
	}
}

func TestListsOfRegMachines(t *testing.T) {
	for _, count := range []int{0, 1, 2, 22, 23, 24, 25, 26, 40, 48, 400, 401} {
		checkRegFault(t, impl.RegMachine{Regs: sameWords(count, 65535)}, codeIf(impl.ErrForm, count != 24))
		checkRegFault(t, impl.RegMachine{Regs: sameWords(count, 0), Cells: sameWords(81, 1)}, max(codeIf(impl.ErrForm, count != 24), codeIf(impl.ErrMany, count == 24)))
		for _, at := range []int{0, count / 2, count - 1} {
			if count > 0 {
				checkRegFault(t, impl.RegMachine{Regs: withWord(sameWords(count, 0), at, 65536)}, impl.ErrRange)
				checkRegFault(t, impl.RegMachine{Regs: withWord(sameWords(count, 0), at, -1), Cells: sameWords(81, 1)}, impl.ErrRange)
			}
		}
	}
	for _, count := range []int{0, 1, 79, 80, 81, 82, 400, 401, 1000} {
		checkRegFault(t, impl.RegMachine{Regs: sameWords(24, 1), Cells: sameWords(count, 65535)}, codeIf(impl.ErrMany, count > 80))
		if count > 0 {
			checkRegFault(t, impl.RegMachine{Regs: sameWords(24, 1), Cells: withWord(sameWords(count, 0), count-1, -1)}, impl.ErrRange)
		}
	}
	checkRegFault(t, impl.RegMachine{}, impl.ErrForm)
	checkRegFault(t, impl.RegMachine{Regs: sameWords(23, 1), Cells: withWord(sameWords(81, 1), 80, 65536), Used: 1000001}, impl.ErrRange)
}

func TestStartRegs(t *testing.T) {
	ask := func(cells []int64, fault int64) {
		t.Helper()
		want := impl.RegResult{Code: fault}
		if fault == impl.OK {
			want.Machine = impl.RegMachine{Regs: sameWords(24, 65535), Cells: cells}
		}
		if got := impl.StartRegs(cells); !sameRegResults(got, want) {
			t.Errorf("StartRegs(%v) = %v, want %v", cells, got, want)
		}
		// A run asks the same ahead of its budget.
		for _, budget := range []int64{-1, 20001, math.MinInt64} {
			if got := checkRegRun(t, []int64{impl.RsEnd}, cells, budget); !sameRegResults(got, impl.RegResult{Code: max(fault, codeIf(impl.ErrRange, fault == impl.OK))}) {
				t.Errorf("RunRegs of %v with %d = %v", cells, budget, got)
			}
		}
	}
	ask(nil, impl.OK)
	ask([]int64{}, impl.OK)
	ask([]int64{0, 65535}, impl.OK)
	ask(mixedWords(80, 3), impl.OK)
	ask(mixedWords(81, 3), impl.ErrMany)
	ask(mixedWords(400, 3), impl.ErrMany)
	ask(mixedWords(401, 3), impl.ErrMany)
	for _, odd := range oddNumbers {
		if odd < 0 || odd > 65535 {
			ask([]int64{0, odd}, impl.ErrRange)
			ask(withWord(sameWords(81, 1), 0, odd), impl.ErrRange)
			ask(withWord(sameWords(401, 1), 400, odd), impl.ErrRange)
		}
	}
}

func TestRegsText(t *testing.T) {
	type row struct {
		code []int64
		text string
	}
	for _, r := range []row{
		{nil, ""}, {[]int64{}, ""},
		{[]int64{1, 0, 65535}, "const 0 65535\n"}, {[]int64{2, 1, 0}, "load 1 0\n"}, {[]int64{3, 12, 2}, "store 12 2\n"},
		{[]int64{4, 5, 6, 7, 8}, "loadx 5 6 7 8\n"}, {[]int64{5, 7, 8, 9, 10}, "storex 7 8 9 10\n"}, {[]int64{6, 1, 2, 3, 10}, "two 1 2 3 10\n"},
		{[]int64{7, 1, 2}, "neg 1 2\n"}, {[]int64{8, 3, 4}, "not 3 4\n"}, {[]int64{9, 5}, "bool 5\n"},
		{[]int64{10, 1}, "jump 1\n"}, {[]int64{11, 2, 3}, "zero 2 3\n"}, {[]int64{12, 1000}, "mark 1000\n"}, {[]int64{13}, "end\n"},
		// A register or a cell that is none is written all the same.
		{[]int64{13, 13, 6, 24, 65535, 0, 11, 1, 99, 14}, "end\nend\ntwo 24 65535 0 11\nconst 99 14\n"},
		{[]int64{4, 4, 4, 4, 4, 9, 9, 1, 1, 1}, "loadx 4 4 4 4\nbool 9\nconst 1 1\n"},
		{sameWords(400, 13), strings.Repeat("end\n", 400)},
		{sameWords(400, 4), strings.Repeat("loadx 4 4 4 4\n", 80)},
	} {
		if got := impl.RegsText(r.code); got != (impl.TextResult{Text: r.text}) || got != regsTextTold(r.code) {
			t.Errorf("RegsText(%v) = %v, want %q", r.code, got, r.text)
		}
	}
	none := [][]int64{{0}, {14}, {65535}, {13, 0}, {13, 14, 13}, {9, 5, 0}, {13, 4, 13, 13, 13}, {1, 1, 1, 1, 1}, sameWords(399, 4), sameWords(400, 1)}
	for op := int64(1); op <= 13; op++ {
		for there := 1; there <= ofOp(regWords, op); there++ {
			none = append(none, regWordsOf(op)[:there], append([]int64{13, 12, 4}, regWordsOf(op)[:there]...))
		}
	}
	for _, code := range none {
		if got := impl.RegsText(code); got != (impl.TextResult{Code: impl.ErrText}) {
			t.Errorf("RegsText(%v) = %v, want ErrText", code, got)
		}
	}
}

func TestInvertAll(t *testing.T) {
	for _, r := range [][2][]int64{{nil, nil}, {[]int64{}, nil}, {{0}, {65535}}, {{65535, 0, 1, 65534, 32767, 32768}, {0, 65535, 65534, 1, 32768, 32767}}, {sameWords(400, 7), sameWords(400, 65528)}} {
		if got := impl.InvertAll(r[0]); !sameInts(got, impl.IntsResult{List: r[1]}) {
			t.Errorf("InvertAll(%v) = %v", r[0], got)
		}
	}
	for _, count := range []int{0, 1, 8, 24, 80, 399, 400, 401} {
		words := mixedWords(count, 77)
		once := impl.InvertAll(words)
		if count > 400 {
			if !sameInts(once, impl.IntsResult{Code: impl.ErrMany}) {
				t.Errorf("InvertAll of %d words = %v", count, once)
			}
			continue
		}
		for i, word := range once.List {
			if word != impl.Complement(words[i]) || word+words[i] != 65535 {
				t.Errorf("of %d InvertAll tells %d", words[i], word)
			}
		}
		if twice := impl.InvertAll(once.List); !sameInts(twice, impl.IntsResult{List: words}) {
			t.Errorf("%v twice upside down is %v", words, twice)
		}
	}
}
