package tests

import (
	"slices"
	"strings"
	"testing"

	"loop.example/g00251/impl"
)

// What is told of the ops, each at the place of its number, less 1: how it is written, how many words stand behind it,
// and at which of these a register stands.
const regNames = "const load store loadx storex two neg not bool jump zero mark end"
const regWords = "2224442211210"

var regPlaces = []string{"0", "0", "1", "01", "01", "012", "01", "01", "0", "", "0", "", ""}

// regModel is a second way to a machine: it keeps all that the machine keeps upside down as it means it, and is given up
// by a panic with the Trap.
type regModel struct {
	pc    int64
	regs  [24]int64
	cells map[int64]int64
	sig   int64
}

// turnedWord puts a word upside down, or back.
func turnedWord(word int64) int64 {
	return 65535 - word
}

func turnedWords(words []int64) []int64 {
	var turned []int64
	for _, word := range words {
		turned = append(turned, turnedWord(word))
	}
	return turned
}

func regModelOf(m impl.RegMachine) *regModel {
	made := &regModel{pc: m.Pc, cells: map[int64]int64{}, sig: m.Sig}
	copy(made.regs[:], turnedWords(m.Regs))
	for i, word := range turnedWords(m.Cells) {
		made.cells[int64(i)] = word
	}
	return made
}

func (m *regModel) machine(used int64, done bool) impl.RegMachine {
	var cells []int64
	for i := range int64(len(m.cells)) {
		cells = append(cells, m.cells[i])
	}
	return impl.RegMachine{Pc: m.pc, Regs: turnedWords(m.regs[:]), Cells: turnedWords(cells), Sig: m.sig, Used: used, Done: done}
}

func giveUp(trap int64, holds bool) {
	if holds {
		panic(trap)
	}
}

func (m *regModel) cellThere(at int64) int64 {
	_, there := m.cells[at]
	giveUp(impl.ErrForm, !there)
	return at
}

func (m *regModel) item(first, size, index int64) int64 {
	away := signedRest(index)
	giveUp(impl.ErrRange, away < 0 || away >= size)
	return m.cellThere(first + away)
}

// next answers the words of the instruction at the Pc, of which all registers are there, and goes behind it.
func (m *regModel) next(code []int64) (name string, words []int64) {
	giveUp(impl.ErrForm, m.pc >= int64(len(code)))
	op := code[m.pc]
	giveUp(impl.ErrForm, op < 1 || op > 13)
	words = code[m.pc+1:]
	count := ofOp(regWords, op)
	giveUp(impl.ErrForm, len(words) < count)
	for _, place := range regPlaces[op-1] {
		giveUp(impl.ErrForm, words[place-'0'] > 23)
	}
	m.pc += int64(count) + 1
	return strings.Fields(regNames)[op-1], words[:count]
}

// do answers whether it is the end.
func (m *regModel) do(code []int64) bool {
	name, words := m.next(code)
	switch name {
	case "const":
		m.regs[words[0]] = turnedWord(words[1])
	case "load":
		m.regs[words[0]] = m.cells[m.cellThere(words[1])]
	case "store":
		m.cells[m.cellThere(words[0])] = m.regs[words[1]]
	case "loadx":
		m.regs[words[0]] = m.cells[m.item(words[2], words[3], m.regs[words[1]])]
	case "storex":
		m.cells[m.item(words[2], words[3], m.regs[words[0]])] = m.regs[words[1]]
	case "two":
		made := binaryTold(words[3], m.regs[words[1]], m.regs[words[2]])
		giveUp(impl.ErrForm, made.Code == impl.ErrRange)
		giveUp(impl.ErrNone, made.Code == impl.ErrNone)
		m.regs[words[0]] = made.Value
	case "neg":
		m.regs[words[0]] = restOf(-m.regs[words[1]])
	case "not":
		m.regs[words[0]] = 1 - min(1, m.regs[words[1]])
	case "bool":
		m.regs[words[0]] = min(1, m.regs[words[0]])
	case "jump":
		m.pc = words[0]
	case "zero":
		if m.regs[words[0]] == 0 {
			m.pc = words[1]
		}
	case "mark":
		m.sig = signTold(m.sig, words[0])
	}
	return name == "end"
}

func regFaultTold(m impl.RegMachine) int64 {
	words := slices.Concat([]int64{m.Pc, m.Sig}, m.Regs, m.Cells)
	switch {
	case !allAreWords(words, len(words)), m.Used < 0, m.Used > 1000000, m.Trap < 0, m.Trap > 10:
		return impl.ErrRange
	case len(m.Regs) != 24:
		return impl.ErrForm
	case len(m.Cells) > 80:
		return impl.ErrMany
	}
	return impl.OK
}

func startRegsTold(cells []int64) impl.RegResult {
	m := impl.RegMachine{Regs: sameWords(24, 65535), Cells: cells}
	if fault := regFaultTold(m); fault != impl.OK {
		return impl.RegResult{Code: fault}
	}
	return impl.RegResult{Machine: m}
}

func stepRegsTold(code []int64, m impl.RegMachine) impl.RegResult {
	if fault := wordsFaultTold(code); fault != impl.OK {
		return impl.RegResult{Code: fault}
	}
	if fault := regFaultTold(m); fault != impl.OK {
		return impl.RegResult{Code: fault}
	}
	return impl.RegResult{Machine: regSteppedOnce(code, m)}
}

func regSteppedOnce(code []int64, m impl.RegMachine) (next impl.RegMachine) {
	if m.Done || m.Trap != impl.OK {
		return m
	}
	m.Used = min(m.Used+1, 1000000)
	defer func() {
		if trap := recover(); trap != nil {
			next = m
			next.Trap = trap.(int64)
		}
	}()
	made := regModelOf(m)
	done := made.do(code)
	return made.machine(m.Used, done)
}

// runRegsTold goes each step, however often the same ones come round.
func runRegsTold(code, cells []int64, budget int64) impl.RegResult {
	fault := wordsFaultTold(code)
	if fault == impl.OK {
		fault = startRegsTold(cells).Code
	}
	if fault == impl.OK && (budget < 0 || budget > 20000) {
		fault = impl.ErrRange
	}
	if fault != impl.OK {
		return impl.RegResult{Code: fault}
	}
	m := startRegsTold(cells).Machine
	for !m.Done && m.Trap == impl.OK {
		if m.Used == budget {
			m.Trap = impl.ErrMany
			break
		}
		m = regSteppedOnce(code, m)
	}
	return impl.RegResult{Machine: m}
}

func regsTextTold(code []int64) impl.TextResult {
	return codeTextTold(code, regNames, regWords)
}

func invertTold(words []int64) impl.IntsResult {
	if fault := wordsFaultTold(words); fault != impl.OK {
		return impl.IntsResult{Code: fault}
	}
	return impl.IntsResult{List: turnedWords(words)}
}

func sameRegs(a, b impl.RegMachine) bool {
	return a.Pc == b.Pc && a.Sig == b.Sig && a.Used == b.Used && a.Trap == b.Trap && a.Done == b.Done && slices.Equal(a.Regs, b.Regs) && slices.Equal(a.Cells, b.Cells)
}

func sameRegResults(a, b impl.RegResult) bool {
	return a.Code == b.Code && sameRegs(a.Machine, b.Machine)
}

// checkRegStep holds one step, and what is asked ahead of it, against the second way.
func checkRegStep(t *testing.T, code []int64, m impl.RegMachine) impl.RegResult {
	t.Helper()
	if got, want := impl.RegFault(m), regFaultTold(m); got != want {
		t.Fatalf("RegFault(%v) = %d, want %d", m, got, want)
	}
	got, want := impl.StepRegs(code, m), stepRegsTold(code, m)
	if !sameRegResults(got, want) {
		t.Fatalf("StepRegs(%v, %v)\n= %v, want\n  %v", code, m, got, want)
	}
	return got
}

// checkRegRun holds a run, and what else is asked of code and of cells, against the second way.
func checkRegRun(t *testing.T, code, cells []int64, budget int64) impl.RegResult {
	t.Helper()
	if got, want := impl.StartRegs(cells), startRegsTold(cells); !sameRegResults(got, want) {
		t.Fatalf("StartRegs(%v) = %v, want %v", cells, got, want)
	}
	if got, want := impl.RegsText(code), regsTextTold(code); got != want {
		t.Fatalf("RegsText(%v) = %v, want %v", code, got, want)
	}
	for _, words := range [][]int64{code, cells} {
		if got, want := impl.InvertAll(words), invertTold(words); !sameInts(got, want) {
			t.Fatalf("InvertAll(%v) = %v, want %v", words, got, want)
		}
	}
	got, want := impl.RunRegs(code, cells, budget), runRegsTold(code, cells, budget)
	if !sameRegResults(got, want) {
		t.Fatalf("RunRegs(%v, %v, %d)\n= %v, want\n  %v", code, cells, budget, got, want)
	}
	return got
}

// regCodeMaker makes code that a register machine gets on with, more or less.
type regCodeMaker struct {
	codeMaker
}

func regMakerOf(seed uint64) *regCodeMaker {
	return &regCodeMaker{codeMaker{programMaker: programMaker{state: seed}}}
}

// small answers a word that is near 0, upside down as a rule.
func (m *regCodeMaker) small() int64 {
	switch m.less(6) {
	case 0:
		return m.word()
	case 1:
		return int64(m.less(4))
	}
	return turnedWord(int64(m.less(4)))
}

func (m *regCodeMaker) reg() int64 {
	switch {
	case m.errs():
		return []int64{24, 25, 255, 256, 32768, 65535}[m.less(6)]
	case m.less(20) == 0:
		return 23
	}
	return int64(m.less(4))
}

// wordsBehind answers those of an instruction; where it leads is left open, and is the last one then.
func (m *regCodeMaker) wordsBehind(op int64, cells int) []int64 {
	switch op {
	case impl.RsConst:
		return []int64{m.reg(), m.small()}
	case impl.RsLoad:
		return []int64{m.reg(), m.cell(cells)}
	case impl.RsStore:
		return []int64{m.cell(cells), m.reg()}
	case impl.RsLoadx, impl.RsStorex:
		return []int64{m.reg(), m.reg(), m.cell(cells), int64(m.less(5))}
	case impl.RsTwo:
		return []int64{m.reg(), m.reg(), m.reg(), []int64{1 + int64(m.less(10)), impl.OpDiv, impl.OpMod, 1 + int64(m.less(3))}[m.less(4)]}
	case impl.RsNeg, impl.RsNot:
		return []int64{m.reg(), m.reg()}
	case impl.RsBool:
		return []int64{m.reg()}
	case impl.RsZero:
		return []int64{m.reg(), 0}
	case impl.RsJump, impl.RsMark:
		return m.words(1)
	}
	return nil
}

// regCode answers that for so many cells, with jumps to where instructions begin, and an end.
func (m *regCodeMaker) regCode(count, cells int) []int64 {
	ops := []int64{impl.RsConst, impl.RsConst, impl.RsLoad, impl.RsLoad, impl.RsStore, impl.RsStore, impl.RsLoadx, impl.RsStorex, impl.RsTwo, impl.RsTwo, impl.RsTwo, impl.RsNeg, impl.RsNot, impl.RsBool, impl.RsZero, impl.RsZero, impl.RsMark}
	var code []int64
	var begins, leads []int
	for len(code) < count {
		op := ops[m.less(len(ops))]
		switch {
		case m.errs():
			op = m.word()
		case m.less(25) == 0:
			op = []int64{impl.RsJump, impl.RsJump, impl.RsEnd}[m.less(3)]
		}
		begins = append(begins, len(code))
		code = append(append(code, op), m.wordsBehind(op, cells)...)
		if op == impl.RsJump || op == impl.RsZero {
			leads = append(leads, len(code)-1)
		}
	}
	begins = append(begins, len(code))
	for _, at := range leads {
		if code[at] = m.word(); !m.errs() {
			code[at] = int64(begins[m.less(len(begins))])
		}
	}
	return append(code[:min(len(code), 399)], impl.RsEnd)
}

// regCodeOfNoise answers code of each kind: what a machine gets on with, what has wrongs, words at random, and what is hurt.
func (m *regCodeMaker) regCodeOfNoise(cells int) []int64 {
	count := 1 + m.less(60)
	if m.less(20) == 0 {
		count = 390 + m.less(20)
	}
	m.wrongs = []int{0, 0, 100, 12}[m.less(4)]
	switch m.less(12) {
	case 0:
		return m.words(count)
	case 1:
		code := make([]int64, count)
		for i := range code {
			code[i] = int64(m.less(15))
		}
		return code
	case 2:
		return m.hurtWords(count)
	}
	return m.regCode(count, cells)
}

// regPlace answers one of code, as a rule one where an instruction begins if code is read from its beginning.
func (m *regCodeMaker) regPlace(code []int64) int64 {
	begins := []int64{int64(len(code))}
	for at := 0; at < len(code); at++ {
		begins = append(begins, int64(at))
		if op := code[at]; op >= 1 && op <= 13 {
			at += ofOp(regWords, op)
		}
	}
	if m.less(8) == 0 {
		return int64(m.less(len(code) + 2))
	}
	return begins[m.less(len(begins))]
}

// regMachine answers one that may go on, as a rule, with so many cells.
func (m *regCodeMaker) regMachine(code []int64, cells int) impl.RegMachine {
	made := impl.RegMachine{Pc: m.regPlace(code), Regs: m.words(24), Cells: m.words(cells), Sig: m.word(), Used: int64(m.less(100))}
	for i := range 5 {
		made.Regs[i] = m.small()
	}
	switch m.less(16) {
	case 0:
		made.Used = 999998 + int64(m.less(3))
	case 1:
		made.Trap = int64(m.less(11))
	case 2:
		made.Done = m.less(2) == 0
	case 3:
		made.Pc = m.word()
	}
	return made
}

// hurtRegs changes a field, or several, to what is out of all bounds, or nearly so.
func (m *regCodeMaker) hurtRegs(made *impl.RegMachine) {
	for range 1 + m.less(3) {
		odd := oddNumbers[m.less(len(oddNumbers))]
		switch m.less(9) {
		case 0:
			made.Pc = odd
		case 1:
			made.Sig = odd
		case 2:
			made.Used = odd
		case 3:
			made.Trap = odd
		case 4:
			made.Regs = append(m.words(22+m.less(3)), odd)
		case 5:
			made.Regs = withWord(m.words(24), m.less(24), odd)
		case 6:
			made.Cells = append(m.words(m.less(82)), odd)
		case 7:
			made.Regs = m.words(23 + m.less(3))
		case 8:
			made.Cells = m.words(79 + m.less(4))
		}
	}
}
