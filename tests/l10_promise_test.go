package tests

import (
	"reflect"
	"slices"
	"testing"

	"loop.example/g00251/impl"
)

func TestRegStepsOfNoise(t *testing.T) {
	m := regMakerOf(5)
	traps, codes, ops := map[int64]int{}, map[int64]int{}, map[int64]int{}
	for i := range 30000 {
		cells := m.less(6)
		code := m.regCodeOfNoise(cells)
		machine := m.regMachine(code, cells)
		if i%5 == 0 {
			m.hurtRegs(&machine)
		}
		got := checkRegStep(t, code, machine)
		codes[got.Code]++
		if got.Code == impl.OK && machine.Trap == impl.OK && !machine.Done {
			traps[got.Machine.Trap]++
			if got.Machine.Trap == impl.OK {
				ops[code[machine.Pc]]++
			}
		}
	}
	for _, trap := range []int64{impl.OK, impl.ErrForm, impl.ErrRange, impl.ErrNone} {
		if traps[trap] < 100 {
			t.Errorf("just %d steps have the Trap %d", traps[trap], trap)
		}
	}
	for op := int64(1); op <= 13; op++ {
		if ops[op] < 100 {
			t.Errorf("just %d steps do the op %d: %v", ops[op], op, ops)
		}
	}
	if codes[impl.ErrRange] < 100 || codes[impl.ErrForm] < 100 || codes[impl.ErrMany] < 100 || len(traps) != 4 || len(codes) != 4 {
		t.Errorf("codes %v, traps %v", codes, traps)
	}
}

// Each op with words of every size, on machines of a few words.
func TestRegStepsOfEachOpAtEdges(t *testing.T) {
	firsts := []int64{0, 1, 2, 23, 24, 65535}
	lasts := []int64{0, 1, 2, 10, 11, 32768, 65535}
	regs := [][]int64{{65535, 65534, 65533}, {65534, 65535, 0}, {0, 32767, 32768}, {65533, 1, 65535}}
	for op := int64(0); op <= 14; op++ {
		for _, a := range firsts {
			for _, b := range firsts {
				for _, c := range firsts {
					for i, d := range lasts {
						m := standingRegs(regs[i%4], mixedWords((i+int(op))%4, 3))
						checkRegStep(t, []int64{op, a, b, c, d}, m)
						checkRegStep(t, []int64{op, a, b, d, c}, m)
					}
				}
			}
		}
	}
}

func TestRegRunsOfNoise(t *testing.T) {
	m := regMakerOf(23)
	traps, done, far := map[int64]int{}, 0, 0
	for i := range 6000 {
		cells := m.less(8)
		code, begin, budget := m.regCodeOfNoise(cells), m.words(cells), int64(m.less(200))
		switch {
		case i%20 == 0:
			begin = m.hurtWords(cells)
		case i%20 == 1:
			budget = oddNumbers[m.less(len(oddNumbers))]
		case i%20 == 2:
			begin = m.words(79 + m.less(4))
		case i%500 == 3:
			budget = 19999 + int64(m.less(3))
		}
		got := checkRegRun(t, code, begin, budget)
		if got.Code == impl.OK {
			traps[got.Machine.Trap]++
			done += int(countIf(got.Machine.Done))
			far += int(countIf(got.Machine.Used >= 15))
		}
	}
	for _, trap := range []int64{impl.OK, impl.ErrForm, impl.ErrRange, impl.ErrNone, impl.ErrMany} {
		if traps[trap] < 50 {
			t.Errorf("just %d runs end with the Trap %d: %v", traps[trap], trap, traps)
		}
	}
	if done < 200 || far < 400 || len(traps) != 5 {
		t.Errorf("%d runs come to their end, %d go far; traps %v", done, far, traps)
	}
}

// Promise 11: whatever words a register machine runs, it has no fault, and ends within its budget.
func TestRegRunsHaveNoFaultAndEnd(t *testing.T) {
	m := regMakerOf(41)
	for range 4000 {
		cells := m.less(8)
		code, begin, budget := m.regCodeOfNoise(cells), m.words(cells), int64(m.less(150))
		if m.less(20) == 0 {
			budget = 20000
		}
		got := impl.RunRegs(code, begin, budget)
		if fault := impl.WordsFault(code); fault != impl.OK {
			if !sameRegResults(got, impl.RegResult{Code: fault}) {
				t.Fatalf("RunRegs(%v) = %v", code, got)
			}
			continue
		}
		end := got.Machine
		if got.Code != impl.OK || impl.RegFault(end) != impl.OK || end.Used < 0 || end.Used > budget || end.Done == (end.Trap != impl.OK) {
			t.Fatalf("RunRegs(%v, %v, %d) = %v", code, begin, budget, got)
		}
		if len(end.Cells) != cells || end.Trap == impl.ErrMany && end.Used != budget {
			t.Fatalf("RunRegs(%v, %v, %d) = %v", code, begin, budget, got)
		}
	}
}

// Promise 11: so has each step, from wherever there is no fault.
func TestRegStepsHaveNoFault(t *testing.T) {
	m := regMakerOf(67)
	for range 3000 {
		cells := m.less(8)
		code := m.regCodeOfNoise(cells)
		if impl.WordsFault(code) != impl.OK {
			continue
		}
		machine := m.regMachine(code, cells)
		for range 40 {
			next := impl.StepRegs(code, machine)
			if next.Code != impl.OK || impl.RegFault(next.Machine) != impl.OK || len(next.Machine.Cells) != cells {
				t.Fatalf("StepRegs(%v, %v) = %v", code, machine, next)
			}
			if over := machine.Trap != impl.OK || machine.Done; over != sameRegs(next.Machine, machine) && machine.Used < 1000000 {
				t.Fatalf("StepRegs(%v, %v) = %v", code, machine, next)
			}
			machine = next.Machine
		}
	}
}

// What a text tells of code is enough to make the code again.
func TestRegsTextsTellTheCode(t *testing.T) {
	m := regMakerOf(19)
	told := 0
	for range 4000 {
		code := m.regCodeOfNoise(4)
		got := impl.RegsText(code)
		if got != regsTextTold(code) {
			t.Fatalf("RegsText(%v) = %v, want %v", code, got, regsTextTold(code))
		}
		if got.Code == impl.OK {
			told++
		}
	}
	if told < 1000 {
		t.Errorf("just %d of the codes have a text", told)
	}
}

func roomyRegs(m impl.RegMachine) impl.RegMachine {
	m.Regs, m.Cells = withSpare(m.Regs), withSpare(m.Cells)
	return m
}

// Promise 1: every function answers, and changes none of its arguments, nor what lies behind them.
func TestRegMachinesChangeNoArgument(t *testing.T) {
	m := regMakerOf(3)
	for i := range 6000 {
		cells := m.less(6)
		code := m.regCodeOfNoise(cells)
		machine := m.regMachine(code, cells)
		if i%6 == 0 {
			m.hurtRegs(&machine)
		}
		given, words := roomyRegs(machine), withSpare(code)
		impl.RegFault(given)
		impl.StepRegs(words, given)
		impl.RegsText(words)
		impl.InvertAll(words)
		impl.InvertAll(given.Regs)
		impl.StartRegs(given.Cells)
		impl.RunRegs(words, given.Cells, 50)
		checkRoomy(t, given.Regs, machine.Regs)
		checkRoomy(t, given.Cells, machine.Cells)
		checkRoomy(t, words, code)
	}
}

// Promise 1: what is told is new memory, where nothing changes, and with a Trap, too.
func TestRegMachinesAreNewMemory(t *testing.T) {
	m := regMakerOf(31)
	ask := func(got impl.RegMachine, given ...[]int64) {
		t.Helper()
		checkOwnMemory(t, impl.StackMachine{Stack: got.Regs, Cells: got.Cells}, given...)
	}
	for range 4000 {
		cells := m.less(6)
		code := m.regCodeOfNoise(cells)
		machine := roomyRegs(m.regMachine(code, cells))
		for range 3 {
			next := impl.StepRegs(code, machine).Machine
			again := impl.StepRegs(code, machine).Machine
			ask(next, machine.Regs, machine.Cells, code, again.Regs, again.Cells)
			machine = again
		}
		begin := withSpare(m.words(cells))
		start, run := impl.StartRegs(begin).Machine, impl.RunRegs(code, begin, 30).Machine
		ask(start, begin, run.Regs, run.Cells)
		ask(run, begin, code)
		once, twice := impl.InvertAll(begin).List, impl.InvertAll(begin).List
		ask(impl.RegMachine{Regs: once}, begin, twice)
	}
	// No start hands out the registers of another one.
	overwrite(impl.StartRegs(nil).Machine.Regs, 7)
	if got := impl.StartRegs(nil).Machine.Regs; !slices.Equal(got, sameWords(24, 65535)) {
		t.Errorf("behind an answer that was overwritten StartRegs tells %v", got)
	}
}

// Promise 1: an answer hangs on the arguments alone, whatever was asked ahead, and empty and nil are the same.
func TestRegMachinesHangOnArgumentsAlone(t *testing.T) {
	type answers struct {
		step, start, run impl.RegResult
		text             impl.TextResult
		turned           impl.IntsResult
		fault            int64
	}
	ask := func(seed int) answers {
		m := regMakerOf(uint64(seed))
		cells := m.less(6)
		code := m.regCodeOfNoise(cells)
		machine := m.regMachine(code, cells)
		if seed%4 == 0 {
			m.hurtRegs(&machine)
		}
		return answers{impl.StepRegs(code, machine), impl.StartRegs(machine.Cells), impl.RunRegs(code, machine.Cells, 40), impl.RegsText(code), impl.InvertAll(code), impl.RegFault(machine)}
	}
	var told []answers
	for seed := range 1500 {
		told = append(told, ask(seed))
	}
	for seed, want := range slices.Backward(told) {
		if !reflect.DeepEqual(ask(seed), want) {
			t.Fatalf("another answer of the seed %d", seed)
		}
	}
	none, regs := []int64{}, sameWords(24, 5)
	for _, code := range [][]int64{nil, none, {impl.RsEnd}, {impl.RsLoad, 0, 0}, {impl.RsConst, 1, 1, impl.RsEnd}} {
		if !sameRegResults(impl.StepRegs(code, impl.RegMachine{Regs: regs}), impl.StepRegs(code, impl.RegMachine{Regs: regs, Cells: none})) || !sameRegResults(impl.RunRegs(code, nil, 5), impl.RunRegs(code, none, 5)) {
			t.Errorf("%v on no cells and on nil", code)
		}
	}
	if impl.RegsText(nil) != impl.RegsText(none) || !sameInts(impl.InvertAll(nil), impl.InvertAll(none)) || impl.RegFault(impl.RegMachine{}) != impl.RegFault(impl.RegMachine{Regs: none, Cells: none}) {
		t.Error("no words and nil have other answers")
	}
	if !sameRegResults(impl.StepRegs(nil, impl.RegMachine{Regs: regs}), impl.StepRegs(none, impl.RegMachine{Regs: regs})) {
		t.Error("no code and nil have other answers")
	}
}

// The least and the greatest numbers in every field and every list.
func TestRegMachinesOfOddNumbers(t *testing.T) {
	regs := sameWords(24, 65535)
	for _, a := range oddNumbers {
		for _, b := range oddNumbers {
			for _, m := range []impl.RegMachine{
				{Pc: a, Sig: b, Regs: regs}, {Used: a, Trap: b, Regs: regs}, {Regs: []int64{a, b}}, {Regs: withWord(withWord(regs, 0, a), 23, b)}, {Regs: regs, Cells: []int64{a, b}}, {Regs: withWord(regs, 5, a), Cells: []int64{b}},
				{Pc: a, Trap: b, Regs: regs}, {Used: a, Done: true, Sig: b, Regs: regs}, {Regs: sameWords(24, a), Cells: sameWords(81, b)},
				{Pc: a, Regs: sameWords(25, b), Cells: []int64{a}, Sig: b, Used: a, Trap: b},
			} {
				checkRegStep(t, []int64{impl.RsTwo, 0, 0, 23, 1, impl.RsStore, 0, 0}, m)
			}
			m := impl.RegMachine{Regs: regs, Cells: []int64{2, 3}}
			for op := int64(1); op <= 13; op++ {
				for at := range ofOp(regWords, op) {
					checkRegStep(t, withWord(regWordsOf(op), at+1, a), m)
				}
			}
			checkRegStep(t, []int64{a, b, 0}, m)
			checkRegRun(t, []int64{a, b, 0}, []int64{4, 5}, 9)
			checkRegRun(t, []int64{impl.RsLoad, a, b, impl.RsEnd}, []int64{4, 5}, 9)
			checkRegRun(t, []int64{impl.RsLoad, 0, 0, impl.RsEnd}, []int64{a, b}, 9)
			if a < 100 || a > 20000 {
				checkRegRun(t, []int64{impl.RsJump, 0}, []int64{b}, a)
			}
			if got, want := impl.InvertAll([]int64{a, b}), invertTold([]int64{a, b}); !sameInts(got, want) {
				t.Errorf("InvertAll of %d and %d = %v, want %v", a, b, got, want)
			}
		}
		if got := impl.ArgsOfRegs(a); a < 1 || a > 13 {
			if got != (impl.IntResult{Code: impl.ErrRange}) {
				t.Errorf("ArgsOfRegs(%d) = %v", a, got)
			}
		}
	}
}
