package tests

import (
	"slices"
	"strconv"
	"strings"
	"testing"

	"loop.example/g00251/impl"
)

// What is told of the ops, each at the place of its number, less 1: how it is written, how many words stand behind it,
// and how many it takes from the stack and gives to it.
const stackNames = "push load store loadx storex two neg not bool jump zero mark end"
const stackWords = "1112210001110"
const stackTakes = "0011221110100"
const stackGives = "1101011110000"

func ofOp(digits string, op int64) int {
	return int(digits[op-1] - '0')
}

// pile is a stack that never changes: what is taken from it leaves it as it was for whoever has it still.
type pile struct {
	word  int64
	below *pile
	high  int
}

func (p *pile) height() int {
	if p == nil {
		return 0
	}
	return p.high
}

func (p *pile) list() []int64 {
	if p == nil {
		return nil
	}
	return append(p.below.list(), p.word)
}

func pileOf(words []int64) *pile {
	var p *pile
	for i, word := range words {
		p = &pile{word, p, i + 1}
	}
	return p
}

// model is a second way to a machine: each step makes another one of it, or is given up by a panic with the Trap.
type model struct {
	pc    int64
	pile  *pile
	cells [80]int64
	many  int
	sig   int64
}

func modelOf(m impl.StackMachine) model {
	made := model{pc: m.Pc, pile: pileOf(m.Stack), many: len(m.Cells), sig: m.Sig}
	copy(made.cells[:], m.Cells)
	return made
}

func (m *model) take() int64 {
	if m.pile == nil {
		panic(int64(impl.ErrForm))
	}
	word := m.pile.word
	m.pile = m.pile.below
	return word
}

func (m *model) put(word int64) {
	if m.pile.height() == 40 {
		panic(int64(impl.ErrForm))
	}
	m.pile = &pile{word, m.pile, m.pile.height() + 1}
}

func (m *model) cell(at int64) *int64 {
	if at < 0 || at >= int64(m.many) {
		panic(int64(impl.ErrForm))
	}
	return &m.cells[at]
}

func (m *model) item(words []int64, index int64) *int64 {
	if away := signedRest(index); away < 0 || away >= words[1] {
		panic(int64(impl.ErrRange))
	}
	return m.cell(words[0] + index)
}

// next answers the words of the instruction at the Pc, and the place behind them.
func (m *model) next(code []int64) (name string, words []int64) {
	if m.pc >= int64(len(code)) || code[m.pc] < 1 || code[m.pc] > 13 {
		panic(int64(impl.ErrForm))
	}
	op := code[m.pc]
	words = code[m.pc+1:]
	count := ofOp(stackWords, op)
	if len(words) < count {
		panic(int64(impl.ErrForm))
	}
	m.pc += int64(count) + 1
	return strings.Fields(stackNames)[op-1], words[:count]
}

// do answers whether it is the end.
func (m *model) do(code []int64) bool {
	name, words := m.next(code)
	switch name {
	case "push":
		m.put(words[0])
	case "load":
		m.put(*m.cell(words[0]))
	case "store":
		*m.cell(words[0]) = m.take()
	case "loadx":
		m.put(*m.item(words, m.take()))
	case "storex":
		word, index := m.take(), m.take()
		*m.item(words, index) = word
	case "two":
		right, left := m.take(), m.take()
		made := binaryTold(words[0], left, right)
		switch made.Code {
		case impl.ErrRange:
			panic(int64(impl.ErrForm))
		case impl.ErrNone:
			panic(int64(impl.ErrNone))
		}
		m.put(made.Value)
	case "neg":
		m.put(restOf(-m.take()))
	case "not":
		m.put(1 - min(1, m.take()))
	case "bool":
		m.put(min(1, m.take()))
	case "jump":
		m.pc = words[0]
	case "zero":
		if m.take() == 0 {
			m.pc = words[0]
		}
	case "mark":
		m.sig = signTold(m.sig, words[0])
	}
	return name == "end"
}

// signTold adds up what is multiplied; 65536 by 65521 leaves 15.
func signTold(sig, mark int64) int64 {
	sum := restOf(mark) + 1
	for range 31 {
		sum += restOf(sig)
	}
	sum = sum/65536*15 + sum%65536
	if sum >= 65521 {
		sum -= 65521
	}
	return sum
}

func wordsFaultTold(words []int64) int64 {
	switch {
	case len(words) > 400:
		return impl.ErrMany
	case !allAreWords(words, len(words)):
		return impl.ErrRange
	}
	return impl.OK
}

func stackFaultTold(m impl.StackMachine) int64 {
	words := slices.Concat(m.Stack, m.Cells, []int64{m.Pc, m.Sig})
	switch {
	case !allAreWords(words, len(words)), m.Used < 0, m.Used > 1000000, m.Trap < 0, m.Trap > 10:
		return impl.ErrRange
	case len(m.Stack) > 40, len(m.Cells) > 80:
		return impl.ErrMany
	}
	return impl.OK
}

func startStackTold(cells []int64) impl.StackResult {
	m := impl.StackMachine{Cells: cells}
	if fault := stackFaultTold(m); fault != impl.OK {
		return impl.StackResult{Code: fault}
	}
	return impl.StackResult{Machine: m}
}

func stepStackTold(code []int64, m impl.StackMachine) impl.StackResult {
	if fault := wordsFaultTold(code); fault != impl.OK {
		return impl.StackResult{Code: fault}
	}
	if fault := stackFaultTold(m); fault != impl.OK {
		return impl.StackResult{Code: fault}
	}
	return impl.StackResult{Machine: steppedOnce(code, m)}
}

func steppedOnce(code []int64, m impl.StackMachine) (next impl.StackMachine) {
	if m.Done || m.Trap != impl.OK {
		return m
	}
	if m.Used < 1000000 {
		m.Used++
	}
	defer func() {
		if trap := recover(); trap != nil {
			next = m
			next.Trap = trap.(int64)
		}
	}()
	made := modelOf(m)
	done := made.do(code)
	return impl.StackMachine{Pc: made.pc, Stack: made.pile.list(), Cells: made.cells[:made.many], Sig: made.sig, Used: m.Used, Done: done}
}

func runStackTold(code, cells []int64, budget int64) impl.StackResult {
	fault := wordsFaultTold(code)
	if fault == impl.OK {
		fault = startStackTold(cells).Code
	}
	if fault == impl.OK && (budget < 0 || budget > 20000) {
		fault = impl.ErrRange
	}
	if fault != impl.OK {
		return impl.StackResult{Code: fault}
	}
	m := impl.StackMachine{Cells: cells}
	for !m.Done && m.Trap == impl.OK {
		if m.Used == budget {
			m.Trap = impl.ErrMany
			break
		}
		m = steppedOnce(code, m)
	}
	return impl.StackResult{Machine: m}
}

func stackTextTold(code []int64) impl.TextResult {
	return codeTextTold(code, stackNames, stackWords)
}

// codeTextTold writes word by word; left is how many are still to stand behind the op.
func codeTextTold(code []int64, names, words string) impl.TextResult {
	if fault := wordsFaultTold(code); fault != impl.OK {
		return impl.TextResult{Code: fault}
	}
	text, left := "", 0
	for _, word := range code {
		if left > 0 {
			text += " " + strconv.Itoa(int(word))
			left--
			continue
		}
		if word < 1 || word > 13 {
			return impl.TextResult{Code: impl.ErrText}
		}
		left = ofOp(words, word)
		text += "\n" + strings.Fields(names)[word-1]
	}
	if left > 0 {
		return impl.TextResult{Code: impl.ErrText}
	}
	if text != "" {
		text = text[1:] + "\n"
	}
	return impl.TextResult{Text: text}
}

func sameMachines(a, b impl.StackMachine) bool {
	return a.Pc == b.Pc && a.Sig == b.Sig && a.Used == b.Used && a.Trap == b.Trap && a.Done == b.Done && slices.Equal(a.Stack, b.Stack) && slices.Equal(a.Cells, b.Cells)
}

func sameStacks(a, b impl.StackResult) bool {
	return a.Code == b.Code && sameMachines(a.Machine, b.Machine)
}

// checkStep holds one step, and what is asked ahead of it, against the second way.
func checkStep(t *testing.T, code []int64, m impl.StackMachine) impl.StackResult {
	t.Helper()
	if got, want := impl.StackFault(m), stackFaultTold(m); got != want {
		t.Fatalf("StackFault(%v) = %d, want %d", m, got, want)
	}
	got, want := impl.StepStack(code, m), stepStackTold(code, m)
	if !sameStacks(got, want) {
		t.Fatalf("StepStack(%v, %v)\n= %v, want\n  %v", code, m, got, want)
	}
	return got
}

// checkRun holds a run, and what else is asked of code and of cells, against the second way.
func checkRun(t *testing.T, code, cells []int64, budget int64) impl.StackResult {
	t.Helper()
	if got, want := impl.StartStack(cells), startStackTold(cells); !sameStacks(got, want) {
		t.Fatalf("StartStack(%v) = %v, want %v", cells, got, want)
	}
	if got, want := impl.StackText(code), stackTextTold(code); got != want {
		t.Fatalf("StackText(%v) = %v, want %v", code, got, want)
	}
	got, want := impl.RunStack(code, cells, budget), runStackTold(code, cells, budget)
	if !sameStacks(got, want) {
		t.Fatalf("RunStack(%v, %v, %d)\n= %v, want\n  %v", code, cells, budget, got, want)
	}
	return got
}

// codeMaker makes code that a machine gets on with, more or less.
type codeMaker struct {
	programMaker
	wrongs int
}

func (m *codeMaker) errs() bool {
	return m.wrongs > 0 && m.less(m.wrongs) == 0
}

func (m *codeMaker) word() int64 {
	return m.words(1)[0]
}

// op answers one, as a rule one for which there are words on a stack that is that high.
func (m *codeMaker) op(high int) int64 {
	ops := []int64{impl.AsPush, impl.AsPush, impl.AsPush, impl.AsPush, impl.AsLoad, impl.AsLoad, impl.AsLoad, impl.AsStore, impl.AsStore, impl.AsLoadx, impl.AsStorex, impl.AsStorex,
		impl.AsTwo, impl.AsTwo, impl.AsTwo, impl.AsTwo, impl.AsTwo, impl.AsNeg, impl.AsNot, impl.AsBool, impl.AsZero, impl.AsMark, impl.AsMark}
	for {
		op := ops[m.less(len(ops))]
		if m.less(20) == 0 {
			op = []int64{impl.AsJump, impl.AsJump, impl.AsJump, impl.AsEnd}[m.less(4)]
		}
		if high >= ofOp(stackTakes, op) || m.errs() {
			return op
		}
	}
}

// code answers that for so many cells, jumps to where instructions begin and an end; how high the stack is is as told
// where no jump leads elsewhere.
func (m *codeMaker) code(count, cells int) []int64 {
	var code []int64
	var begins, jumps []int
	high := 0
	for len(code) < count {
		op := m.op(high)
		if m.errs() {
			op = m.word()
		}
		begins = append(begins, len(code))
		code = append(code, op)
		if m.errs() {
			continue
		}
		switch op {
		case impl.AsPush, impl.AsMark:
			code = append(code, m.word())
		case impl.AsLoad, impl.AsStore:
			code = append(code, m.cell(cells))
		case impl.AsLoadx, impl.AsStorex:
			code = append(code, m.cell(cells), int64(m.less(4)))
		case impl.AsTwo:
			code = append(code, []int64{1 + int64(m.less(10)), impl.OpDiv, impl.OpMod}[m.less(3)])
		case impl.AsJump, impl.AsZero:
			jumps = append(jumps, len(code))
			code = append(code, m.word())
		}
		if op >= 1 && op <= 13 {
			high = max(0, high-ofOp(stackTakes, op)) + ofOp(stackGives, op)
		}
	}
	begins = append(begins, len(code))
	for _, at := range jumps {
		if !m.errs() {
			code[at] = int64(begins[m.less(len(begins))])
		}
	}
	return append(code[:min(len(code), 399)], impl.AsEnd)
}

func (m *codeMaker) cell(cells int) int64 {
	if cells == 0 || m.errs() {
		return m.word()
	}
	return int64(m.less(cells))
}

// place answers one of code, as a rule one where an instruction begins if code is read from its beginning.
func (m *codeMaker) place(code []int64) int64 {
	begins := []int64{int64(len(code))}
	for at := 0; at < len(code); {
		begins = append(begins, int64(at))
		if op := code[at]; op >= 1 && op <= 13 {
			at += ofOp(stackWords, op)
		}
		at++
	}
	if m.less(8) == 0 {
		return int64(m.less(len(code) + 2))
	}
	return begins[m.less(len(begins))]
}

// machine answers one that may go on, as a rule, with so many cells.
func (m *codeMaker) machine(code []int64, cells int) impl.StackMachine {
	made := impl.StackMachine{Pc: m.place(code), Stack: m.words(m.less(7)), Cells: m.words(cells), Sig: m.word(), Used: int64(m.less(100))}
	switch m.less(16) {
	case 0:
		made.Stack = m.words(38 + m.less(3))
	case 1:
		made.Used = 999998 + int64(m.less(3))
	case 2:
		made.Trap = int64(m.less(11))
	case 3:
		made.Done = m.less(2) == 0
	case 4:
		made.Pc = m.word()
	}
	return made
}

// hurt changes a field, or several, to what is out of all bounds, or nearly so.
func (m *codeMaker) hurt(made *impl.StackMachine) {
	for range 1 + m.less(3) {
		odd := oddNumbers[m.less(len(oddNumbers))]
		switch m.less(8) {
		case 0:
			made.Pc = odd
		case 1:
			made.Sig = odd
		case 2:
			made.Used = odd
		case 3:
			made.Trap = odd
		case 4:
			made.Stack = append(m.words(m.less(42)), odd)
		case 5:
			made.Cells = append(m.words(m.less(82)), odd)
		case 6:
			made.Stack = m.words(39 + m.less(4))
		case 7:
			made.Cells = m.words(79 + m.less(4))
		}
	}
}
