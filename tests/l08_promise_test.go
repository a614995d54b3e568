package tests

import (
	"reflect"
	"slices"
	"testing"

	"loop.example/g00251/impl"
)

// codeOfNoise answers code of each kind: what a machine gets on with, what has wrongs, words at random, and what is hurt.
func (m *codeMaker) codeOfNoise(cells int) []int64 {
	count := 1 + m.less(60)
	if m.less(20) == 0 {
		count = 390 + m.less(20)
	}
	m.wrongs = []int{0, 0, 60, 8}[m.less(4)]
	switch m.less(10) {
	case 0:
		return m.words(count)
	case 1:
		code := make([]int64, count)
		for i := range code {
			code[i] = int64(m.less(15))
		}
		return code
	case 2:
		return m.hurtWords(count)
	}
	return m.code(count, cells)
}

func TestStepsOfNoise(t *testing.T) {
	m := &codeMaker{programMaker: programMaker{state: 5}}
	traps, codes, ops := map[int64]int{}, map[int64]int{}, map[int64]int{}
	for i := range 30000 {
		cells := m.less(6)
		code := m.codeOfNoise(cells)
		machine := m.machine(code, cells)
		if i%5 == 0 {
			m.hurt(&machine)
		}
		got := checkStep(t, code, machine)
		codes[got.Code]++
		if got.Code == impl.OK && machine.Trap == impl.OK && !machine.Done {
			traps[got.Machine.Trap]++
			if got.Machine.Trap == impl.OK {
				ops[code[machine.Pc]]++
			}
		}
	}
	for _, trap := range []int64{impl.OK, impl.ErrForm, impl.ErrRange, impl.ErrNone} {
		if traps[trap] < 20 {
			t.Errorf("just %d steps have the Trap %d", traps[trap], trap)
		}
	}
	for op := int64(1); op <= 13; op++ {
		if ops[op] < 20 {
			t.Errorf("just %d steps do the op %d: %v", ops[op], op, ops)
		}
	}
	if codes[impl.ErrRange] < 100 || codes[impl.ErrMany] < 100 || len(traps) != 4 || len(codes) != 3 {
		t.Errorf("codes %v, traps %v", codes, traps)
	}
}

// Each instruction with words of every size, on every machine of a few words.
func TestStepsOfEachOpAtEdges(t *testing.T) {
	words := []int64{0, 1, 2, 3, 5, 10, 11, 32767, 32768, 65535}
	stacks := [][]int64{nil, {0}, {1}, {65535}, {0, 0}, {0, 1}, {1, 0}, {1, 1}, {2, 65535}, {65535, 2}, {5, 1, 7}, {32768, 65535}}
	for op := int64(0); op <= 14; op++ {
		for _, a := range words {
			for _, b := range words {
				for _, stack := range stacks {
					for _, cells := range [][]int64{nil, {8}, {8, 9, 10}} {
						checkStep(t, []int64{op, a, b}, standing(stack, cells))
					}
				}
			}
		}
	}
}

func TestRunsOfNoise(t *testing.T) {
	m := &codeMaker{programMaker: programMaker{state: 23}}
	traps, done, far := map[int64]int{}, 0, 0
	for i := range 6000 {
		cells := m.less(8)
		code, begin, budget := m.codeOfNoise(cells), m.words(cells), int64(m.less(200))
		switch {
		case i%20 == 0:
			begin = m.hurtWords(cells)
		case i%20 == 1:
			budget = oddNumbers[m.less(len(oddNumbers))]
		case i%20 == 2:
			begin = m.words(79 + m.less(4))
		case i%200 == 3:
			budget = 19999 + int64(m.less(3))
		}
		got := checkRun(t, code, begin, budget)
		if got.Code == impl.OK {
			traps[got.Machine.Trap]++
			done += int(countIf(got.Machine.Done))
			far += int(countIf(got.Machine.Used >= 15))
		}
	}
	for _, trap := range []int64{impl.OK, impl.ErrForm, impl.ErrRange, impl.ErrNone, impl.ErrMany} {
		if traps[trap] < 20 {
			t.Errorf("just %d runs end with the Trap %d: %v", traps[trap], trap, traps)
		}
	}
	if done < 200 || far < 400 || len(traps) != 5 {
		t.Errorf("%d runs come to their end, %d go far; traps %v", done, far, traps)
	}
}

// Promise 9: whatever words a stack machine runs, it has no fault, and ends within its budget.
func TestRunsHaveNoFaultAndEnd(t *testing.T) {
	m := &codeMaker{programMaker: programMaker{state: 41}}
	for range 4000 {
		cells := m.less(8)
		code, begin, budget := m.codeOfNoise(cells), m.words(cells), int64(m.less(150))
		if m.less(50) == 0 {
			budget = 20000
		}
		got := impl.RunStack(code, begin, budget)
		if fault := impl.WordsFault(code); fault != impl.OK {
			if !sameStacks(got, impl.StackResult{Code: fault}) {
				t.Fatalf("RunStack(%v) = %v", code, got)
			}
			continue
		}
		end := got.Machine
		if got.Code != impl.OK || impl.StackFault(end) != impl.OK || end.Used < 0 || end.Used > budget || end.Done == (end.Trap != impl.OK) {
			t.Fatalf("RunStack(%v, %v, %d) = %v", code, begin, budget, got)
		}
		if len(end.Cells) != cells || end.Trap == impl.ErrMany && end.Used != budget {
			t.Fatalf("RunStack(%v, %v, %d) = %v", code, begin, budget, got)
		}
	}
}

// Promise 9: so has each step, from wherever there is no fault; and a run is its steps, one behind the other.
func TestStepsHaveNoFault(t *testing.T) {
	m := &codeMaker{programMaker: programMaker{state: 67}}
	for i := range 3000 {
		cells := m.less(8)
		code := m.codeOfNoise(cells)
		if impl.WordsFault(code) != impl.OK {
			continue
		}
		machine := impl.StartStack(m.words(cells)).Machine
		begin := slices.Clone(machine.Cells)
		if i%3 == 0 {
			machine = m.machine(code, cells)
		}
		for budget := range int64(60) {
			if i%3 != 0 {
				want := machine
				if want.Trap == impl.OK && !want.Done {
					want.Trap = impl.ErrMany
				}
				if got := impl.RunStack(code, begin, budget); got.Code != impl.OK || !sameMachines(got.Machine, want) {
					t.Fatalf("RunStack(%v, %v, %d) = %v, want %v", code, begin, budget, got, want)
				}
			}
			next := impl.StepStack(code, machine)
			if next.Code != impl.OK || impl.StackFault(next.Machine) != impl.OK || len(next.Machine.Cells) != cells {
				t.Fatalf("StepStack(%v, %v) = %v", code, machine, next)
			}
			if over := machine.Trap != impl.OK || machine.Done; over != sameMachines(next.Machine, machine) && machine.Used < 1000000 {
				t.Fatalf("StepStack(%v, %v) = %v", code, machine, next)
			}
			machine = next.Machine
		}
	}
}

// What a text tells of code is enough to make the code again.
func TestStackTextsTellTheCode(t *testing.T) {
	m := &codeMaker{programMaker: programMaker{state: 19}}
	told := 0
	for range 4000 {
		code := m.codeOfNoise(4)
		got := impl.StackText(code)
		if got != stackTextTold(code) {
			t.Fatalf("StackText(%v) = %v, want %v", code, got, stackTextTold(code))
		}
		if got.Code == impl.OK {
			told++
		}
	}
	if told < 1000 {
		t.Errorf("just %d of the codes have a text", told)
	}
}

// roomyMachine answers the same machine with room behind its lists.
func roomyMachine(m impl.StackMachine) impl.StackMachine {
	m.Stack, m.Cells = withSpare(m.Stack), withSpare(m.Cells)
	return m
}

func checkRoomy(t *testing.T, given, before []int64) {
	t.Helper()
	if wanted := withSpare(before); !slices.Equal(given[:len(before)+3], wanted[:len(before)+3]) {
		t.Fatalf("%v became %v", wanted[:len(before)+3], given[:len(before)+3])
	}
}

// Promise 1: every function answers, and changes none of its arguments, nor what lies behind them.
func TestStackMachinesChangeNoArgument(t *testing.T) {
	m := &codeMaker{programMaker: programMaker{state: 3}}
	for i := range 6000 {
		cells := m.less(6)
		code := m.codeOfNoise(cells)
		machine := m.machine(code, cells)
		if i%6 == 0 {
			m.hurt(&machine)
		}
		given, words := roomyMachine(machine), withSpare(code)
		impl.StackFault(given)
		impl.StepStack(words, given)
		impl.StackText(words)
		impl.StartStack(given.Cells)
		impl.RunStack(words, given.Cells, 50)
		checkRoomy(t, given.Stack, machine.Stack)
		checkRoomy(t, given.Cells, machine.Cells)
		checkRoomy(t, words, code)
	}
}

// checkOwnMemory overwrites what a machine has, and asks that it shares none: not with what was given, nor within.
func checkOwnMemory(t *testing.T, got impl.StackMachine, given ...[]int64) {
	t.Helper()
	var before [][]int64
	for _, list := range given {
		before = append(before, slices.Clone(list[:cap(list)]))
	}
	overwrite(got.Stack, -1)
	if slices.Contains(got.Cells[:cap(got.Cells)], -1) {
		t.Fatalf("the stack and the cells of %v share memory", got)
	}
	overwrite(got.Cells, -2)
	if slices.Contains(got.Stack[:cap(got.Stack)], -2) {
		t.Fatalf("the cells and the stack of %v share memory", got)
	}
	for i, list := range given {
		if !slices.Equal(list[:cap(list)], before[i]) {
			t.Fatalf("an answer shares memory with %v", before[i])
		}
	}
}

// Promise 1: what is told is new memory, where nothing changes, and with a Trap, too.
func TestStackMachinesAreNewMemory(t *testing.T) {
	m := &codeMaker{programMaker: programMaker{state: 31}}
	for range 4000 {
		cells := m.less(6)
		code := m.codeOfNoise(cells)
		machine := roomyMachine(m.machine(code, cells))
		for range 3 {
			next := impl.StepStack(code, machine).Machine
			again := impl.StepStack(code, machine).Machine
			checkOwnMemory(t, next, machine.Stack, machine.Cells, code, again.Stack, again.Cells)
			machine = again
		}
		begin := withSpare(m.words(cells))
		start, run := impl.StartStack(begin).Machine, impl.RunStack(code, begin, 30).Machine
		checkOwnMemory(t, start, begin, run.Stack, run.Cells)
		checkOwnMemory(t, run, begin, code)
	}
}

// Promise 1: an answer hangs on the arguments alone, whatever was asked ahead, and empty and nil are the same.
func TestStackMachinesHangOnArgumentsAlone(t *testing.T) {
	type answers struct {
		step, start, run impl.StackResult
		text             impl.TextResult
		fault            int64
	}
	ask := func(seed int) answers {
		m := &codeMaker{programMaker: programMaker{state: uint64(seed)}}
		cells := m.less(6)
		code := m.codeOfNoise(cells)
		machine := m.machine(code, cells)
		if seed%4 == 0 {
			m.hurt(&machine)
		}
		return answers{impl.StepStack(code, machine), impl.StartStack(machine.Cells), impl.RunStack(code, machine.Cells, 40), impl.StackText(code), impl.StackFault(machine)}
	}
	var told []answers
	for seed := range 1500 {
		told = append(told, ask(seed))
	}
	for seed, want := range slices.Backward(told) {
		if !reflect.DeepEqual(ask(seed), want) {
			t.Fatalf("another answer of the seed %d", seed)
		}
	}
	none := []int64{}
	for _, code := range [][]int64{nil, none, {impl.AsEnd}, {impl.AsNeg}, {impl.AsPush, 1, impl.AsEnd}} {
		if !sameStacks(impl.StepStack(code, impl.StackMachine{}), impl.StepStack(code, impl.StackMachine{Stack: none, Cells: none})) || !sameStacks(impl.RunStack(code, nil, 5), impl.RunStack(code, none, 5)) {
			t.Errorf("%v on an empty machine and on nil", code)
		}
	}
	if impl.StackText(nil) != impl.StackText(none) || !sameStacks(impl.StepStack(nil, impl.StackMachine{}), impl.StepStack(none, impl.StackMachine{})) {
		t.Error("no code and nil have other answers")
	}
}

// The least and the greatest numbers in every field and every list.
func TestStackMachinesOfOddNumbers(t *testing.T) {
	for _, a := range oddNumbers {
		for _, b := range oddNumbers {
			for _, m := range []impl.StackMachine{
				{Pc: a, Sig: b}, {Used: a, Trap: b}, {Stack: []int64{a, b}}, {Cells: []int64{a, b}}, {Stack: []int64{a}, Cells: []int64{b}}, {Pc: a, Trap: b}, {Used: a, Done: true, Sig: b},
				{Pc: a, Stack: []int64{b, b}, Cells: []int64{a}, Sig: b, Used: a, Trap: b},
			} {
				checkStep(t, []int64{impl.AsTwo, 1, impl.AsStore, 0}, m)
			}
			checkStep(t, []int64{a, b}, impl.StackMachine{Stack: []int64{1}, Cells: []int64{2, 3}})
			checkRun(t, []int64{a, b, 0}, []int64{4, 5}, 9)
			checkRun(t, []int64{impl.AsLoad, 0, impl.AsEnd}, []int64{a, b}, 9)
			if a < 100 {
				checkRun(t, []int64{impl.AsJump, 0}, []int64{b}, a)
			}
		}
	}
}
