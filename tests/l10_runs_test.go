package tests

import (
	"slices"
	"testing"

	"loop.example/g00251/impl"
)

// checkRegEnded asks what a run ends with.
func checkRegEnded(t *testing.T, code, cells []int64, budget int64, want impl.RegMachine) {
	t.Helper()
	if got := checkRegRun(t, code, cells, budget); got.Code != impl.OK || !sameRegs(got.Machine, want) {
		t.Errorf("RunRegs(%v, %v, %d)\n= %v, want\n  %v", code, cells, budget, got, want)
	}
}

// blankRegs answers the registers of a machine at its start, but for the first ones.
func blankRegs(first ...int64) []int64 {
	return append(first, sameWords(24-len(first), 65535)...)
}

func TestBudgetsOfRegs(t *testing.T) {
	for _, budget := range append([]int64{20001, 20002, 1000000}, oddNumbers...) {
		if budget < 0 || budget > 20000 {
			for _, code := range [][]int64{nil, {impl.RsEnd}, {0}, {impl.RsJump, 0}} {
				if got := checkRegRun(t, code, []int64{1}, budget); !sameRegResults(got, impl.RegResult{Code: impl.ErrRange}) {
					t.Errorf("RunRegs with the budget %d = %v", budget, got)
				}
			}
		}
	}
	// With no budget nothing is done, not even what would be a Trap.
	for _, code := range [][]int64{nil, {impl.RsEnd}, {0}, {impl.RsConst, 0, 1}, {impl.RsJump, 0}} {
		checkRegEnded(t, code, []int64{7}, 0, impl.RegMachine{Regs: blankRegs(), Cells: []int64{7}, Trap: impl.ErrMany})
	}
	checkRegEnded(t, []int64{impl.RsEnd}, nil, 1, impl.RegMachine{Pc: 1, Regs: blankRegs(), Used: 1, Done: true})
	checkRegEnded(t, []int64{impl.RsEnd}, nil, 20000, impl.RegMachine{Pc: 1, Regs: blankRegs(), Used: 1, Done: true})
	for _, budget := range []int64{1, 2, 3, 20000} {
		checkRegEnded(t, nil, nil, budget, impl.RegMachine{Regs: blankRegs(), Used: 1, Trap: impl.ErrForm})
		checkRegEnded(t, []int64{0}, nil, budget, impl.RegMachine{Regs: blankRegs(), Used: 1, Trap: impl.ErrForm})
		checkRegEnded(t, []int64{impl.RsJump, 400}, nil, max(2, budget), impl.RegMachine{Pc: 400, Regs: blankRegs(), Used: 2, Trap: impl.ErrForm})
	}
	// The last step within the budget has a Trap of its own.
	code := []int64{impl.RsConst, 0, 65534, impl.RsConst, 1, 65535, impl.RsTwo, 2, 0, 1, impl.OpDiv}
	checkRegEnded(t, code, nil, 20000, impl.RegMachine{Pc: 6, Regs: blankRegs(65534), Used: 3, Trap: impl.ErrNone})
	checkRegEnded(t, code, nil, 3, impl.RegMachine{Pc: 6, Regs: blankRegs(65534), Used: 3, Trap: impl.ErrNone})
	checkRegEnded(t, code, nil, 2, impl.RegMachine{Pc: 6, Regs: blankRegs(65534), Used: 2, Trap: impl.ErrMany})
	checkRegEnded(t, code, nil, 1, impl.RegMachine{Pc: 3, Regs: blankRegs(65534), Used: 1, Trap: impl.ErrMany})
}

// A loop: cell 1 becomes the sum of 1 to cell 0, upside down, and the signature tells the rounds.
func TestLoopOfRegs(t *testing.T) {
	code := []int64{
		impl.RsLoad, 0, 0, impl.RsConst, 2, 65534,
		impl.RsZero, 0, 30, // from here each round begins
		impl.RsMark, 3,
		impl.RsLoad, 1, 1, impl.RsTwo, 1, 1, 0, impl.OpAdd, impl.RsStore, 1, 1,
		impl.RsTwo, 0, 0, 2, impl.OpSub,
		impl.RsJump, 6, 0,
		impl.RsEnd,
	}
	for _, n := range []int64{0, 1, 2, 10, 400} {
		steps, sig := n*7+4, int64(0)
		for range n {
			sig = signTold(sig, 3)
		}
		sum := turnedWord(restOf(n * (n + 1) / 2))
		regs := blankRegs(65535, sum, 65534)
		want := impl.RegMachine{Pc: 31, Regs: regs, Cells: []int64{turnedWord(n), sum}, Sig: sig, Used: steps, Done: true}
		checkRegEnded(t, code, []int64{turnedWord(n), 65535}, steps, want)
		checkRegEnded(t, code, []int64{turnedWord(n), 65535}, 20000, want)
		want.Pc, want.Used, want.Trap, want.Done = 30, steps-1, impl.ErrMany, false
		checkRegEnded(t, code, []int64{turnedWord(n), 65535}, steps-1, want)
	}
}

// Loops without an end come round in the same way from their first step on, behind some steps, or not for long.
func loopsWithoutEnd() [][]int64 {
	loops := [][]int64{
		{impl.RsJump, 0},
		{impl.RsZero, 0, 0},
		{impl.RsBool, 0, impl.RsConst, 0, 9, impl.RsZero, 23, 5},
		// Registers, cells or the signature alone tell one round from the next.
		{impl.RsNot, 0, 0, impl.RsJump, 0},
		{impl.RsLoad, 0, 0, impl.RsNeg, 0, 0, impl.RsStore, 0, 0, impl.RsConst, 0, 65535, impl.RsJump, 0},
		{impl.RsMark, 9, impl.RsJump, 0},
		{impl.RsConst, 1, 65534, impl.RsTwo, 0, 0, 1, impl.OpAdd, impl.RsJump, 3},
		{impl.RsConst, 1, 65534, impl.RsLoad, 0, 1, impl.RsTwo, 0, 0, 1, impl.OpAdd, impl.RsStore, 1, 0, impl.RsConst, 0, 65535, impl.RsJump, 3},
		// The last register and the last cell alone.
		{impl.RsNot, 23, 23, impl.RsJump, 0},
		{impl.RsLoad, 0, 2, impl.RsNot, 0, 0, impl.RsStore, 2, 0, impl.RsConst, 0, 65535, impl.RsJump, 0},
	}
	// Rounds of many lengths, behind so many other steps.
	for _, ahead := range []int{0, 1, 2, 3, 7, 8, 30} {
		for _, round := range []int{1, 2, 3, 4, 5, 8, 9, 16, 31} {
			var code []int64
			for i := range ahead {
				code = append(code, impl.RsConst, int64(i%24), int64(i))
			}
			begin := int64(len(code))
			for range round - 1 {
				code = append(code, impl.RsBool, 3)
			}
			loops = append(loops, append(code, impl.RsJump, begin))
		}
	}
	// One that counts to a number, and then goes round for ever, or comes to an end.
	for _, leads := range [][]int64{{impl.RsJump, 16, impl.RsJump, 16}, {impl.RsJump, 16, impl.RsEnd}, {impl.RsJump, 16, 0}, {impl.RsJump, 16, impl.RsNot, 5, 5, impl.RsJump, 18}} {
		loops = append(loops, append([]int64{
			impl.RsConst, 1, 65534, impl.RsConst, 2, 65535 - 500,
			impl.RsTwo, 0, 0, 1, impl.OpAdd, impl.RsTwo, 3, 2, 0, impl.OpLess,
		}, append([]int64{impl.RsZero, 3, 6}, leads...)...))
	}
	return loops
}

// A run does all of its steps, though it may tell rounds without going them: each budget is as many steps.
func TestLoopsWithoutAnEnd(t *testing.T) {
	for i, code := range loopsWithoutEnd() {
		cells := []int64{3, 65535, 65535}
		m := impl.StartRegs(cells).Machine
		ends := map[int64]impl.RegMachine{}
		for used := range int64(20001) {
			ends[used] = m
			m = impl.StepRegs(code, m).Machine
		}
		budgets := []int64{0, 1, 2, 3, 4, 5, 6, 7, 8, 9, 10, 15, 16, 17, 31, 32, 33, 63, 64, 65, 100, 127, 128, 129, 255, 256, 257, 999, 1000, 1001, 1002, 1003, 1023, 1024, 1025, 4096, 19990, 19991, 19992, 19993, 19994, 19995, 19996, 19997, 19998, 19999, 20000}
		for _, budget := range budgets {
			want := ends[budget]
			if !want.Done && want.Trap == impl.OK {
				want.Trap = impl.ErrMany
			}
			if got := impl.RunRegs(code, cells, budget); got.Code != impl.OK || !sameRegs(got.Machine, want) {
				t.Fatalf("loop %d: RunRegs(%v, .., %d)\n= %v, want\n  %v", i, code, budget, got, want)
			}
		}
		if i < 10 && ends[20000].Used != 20000 {
			t.Errorf("loop %d comes to an end: %v", i, ends[20000])
		}
	}
}

// Promise 11: a run of either machine is so many steps, one behind the other.
func TestRunsAreSteps(t *testing.T) {
	m := regMakerOf(67)
	for range 1500 {
		cells := m.less(8)
		code := m.regCodeOfNoise(cells)
		if impl.WordsFault(code) != impl.OK {
			continue
		}
		begin := m.words(cells)
		machine, other := impl.StartRegs(begin).Machine, impl.StartStack(begin).Machine
		for budget := range int64(50) {
			want, wantOther := machine, other
			if want.Trap == impl.OK && !want.Done {
				want.Trap = impl.ErrMany
			}
			if wantOther.Trap == impl.OK && !wantOther.Done {
				wantOther.Trap = impl.ErrMany
			}
			if got := impl.RunRegs(code, begin, budget); got.Code != impl.OK || !sameRegs(got.Machine, want) {
				t.Fatalf("RunRegs(%v, %v, %d)\n= %v, want\n  %v", code, begin, budget, got, want)
			}
			if got := impl.RunStack(code, begin, budget); got.Code != impl.OK || !sameMachines(got.Machine, wantOther) {
				t.Fatalf("RunStack(%v, %v, %d)\n= %v, want\n  %v", code, begin, budget, got, wantOther)
			}
			machine, other = impl.StepRegs(code, machine).Machine, impl.StepStack(code, other).Machine
		}
	}
}

// onRegisters tells code without jumps for the register machine: the words on the stack stand in the registers, the lowest
// one in 0, and all upside down.
func onRegisters(code []int64) []int64 {
	var made []int64
	high := int64(0)
	for at := 0; at < len(code); {
		op := code[at]
		words := code[at+1 : at+1+ofOp(stackWords, op)]
		at += 1 + len(words)
		top, below := high-1, high-2
		switch op {
		case impl.AsPush:
			made = append(made, impl.RsConst, high, turnedWord(words[0]))
		case impl.AsLoad:
			made = append(made, impl.RsLoad, high, words[0])
		case impl.AsStore:
			made = append(made, impl.RsStore, words[0], top)
		case impl.AsLoadx:
			made = append(made, impl.RsLoadx, top, top, words[0], words[1])
		case impl.AsStorex:
			made = append(made, impl.RsStorex, below, top, words[0], words[1])
		case impl.AsTwo:
			made = append(made, impl.RsTwo, below, below, top, words[0])
		case impl.AsNeg:
			made = append(made, impl.RsNeg, top, top)
		case impl.AsNot:
			made = append(made, impl.RsNot, top, top)
		case impl.AsBool:
			made = append(made, impl.RsBool, top)
		case impl.AsMark:
			made = append(made, impl.RsMark, words[0])
		case impl.AsEnd:
			made = append(made, impl.RsEnd)
		}
		high += int64(ofOp(stackGives, op) - ofOp(stackTakes, op))
	}
	return made
}

// straight answers code without jumps that never asks for a word that is not on the stack, nor for a cell that is none.
func (m *codeMaker) straight(count, cells int) []int64 {
	var code []int64
	high := 0
	for range count {
		op := m.op(high)
		if op == impl.AsJump || op == impl.AsZero || op == impl.AsEnd || high > 20 && ofOp(stackGives, op) > ofOp(stackTakes, op) {
			continue
		}
		code = append(code, op)
		high += ofOp(stackGives, op) - ofOp(stackTakes, op)
		switch op {
		case impl.AsPush, impl.AsMark:
			code = append(code, m.word())
		case impl.AsLoad, impl.AsStore:
			code = append(code, m.cell(cells))
		case impl.AsLoadx, impl.AsStorex:
			code = append(code, 0, int64(m.less(cells+1)))
		case impl.AsTwo:
			code = append(code, 1+int64(m.less(10)))
		}
	}
	return append(code, impl.AsEnd)
}

// Both machines do the same, one of them upside down, step by step.
func TestBothMachinesGoTheSameWay(t *testing.T) {
	m := &codeMaker{programMaker: programMaker{state: 11}}
	traps := map[int64]int{}
	for range 4000 {
		cells := 1 + m.less(6)
		code := m.straight(5+m.less(40), cells)
		begin, budget := m.words(cells), int64(m.less(60))
		a := impl.RunStack(code, begin, budget).Machine
		b := impl.RunRegs(onRegisters(code), impl.InvertAll(begin).List, budget).Machine
		traps[a.Trap]++
		if a.Trap != b.Trap || a.Used != b.Used || a.Sig != b.Sig || a.Done != b.Done || !slices.Equal(a.Cells, turnedWords(b.Cells)) || !slices.Equal(a.Stack, turnedWords(b.Regs[:len(a.Stack)])) {
			t.Fatalf("%v on %v with %d:\n%v, upside down\n%v", code, begin, budget, a, b)
		}
	}
	for _, trap := range []int64{impl.OK, impl.ErrRange, impl.ErrNone, impl.ErrMany} {
		if traps[trap] < 50 {
			t.Errorf("just %d runs have the Trap %d: %v", traps[trap], trap, traps)
		}
	}
}
