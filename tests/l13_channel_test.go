package tests

import (
	"cmp"
	"slices"
	"testing"

	"loop.example/g00251/impl"
)

// rightChan has something in every list, and the sums of its three blocks, of which the last one is not whole.
func rightChan(kind int64) impl.Chan {
	code := mixedWords(19, 5)
	return impl.Chan{Kind: kind, Code: code, Sums: sumsTold(code), Cells: []int64{1, 65535, 0, 7}, Next: 1, Sig: 9}
}

// changedChan answers a copy, that shares nothing, with a change.
func changedChan(c impl.Chan, change func(c *impl.Chan)) impl.Chan {
	c.Code, c.Sums, c.Cells = slices.Clone(c.Code), slices.Clone(c.Sums), slices.Clone(c.Cells)
	change(&c)
	return c
}

// checkChanFault asks for a fault, and, where it is one, that each function has it as its code, and nothing else.
func checkChanFault(t *testing.T, c impl.Chan, want int64) {
	t.Helper()
	if got := checkChan(t, c); got != want {
		t.Errorf("ChanFault(%+v) = %d, want %d", c, got, want)
	}
	b := impl.Build{Cells: int64(min(80, len(c.Cells)))}
	hurt, scanned := checkHurt(t, c, impl.HurtSig, 0, 1), checkChanScan(t, b, c, nil)
	// Whatever else is wrong comes behind the fault.
	wrong, far := checkHurt(t, c, 0, -1, -1), checkChanScan(t, b, c, []int64{-1})
	if want == impl.OK {
		if hurt.Code != impl.OK || scanned.Code != impl.OK || wrong.Code != impl.ErrForm || far.Code != impl.ErrForm {
			t.Errorf("%+v: %+v, %+v, %+v, %+v", c, hurt, scanned, wrong, far)
		}
		return
	}
	for _, got := range []impl.ChanResult{hurt, wrong, scanned, far, impl.TestChan(c)} {
		if !sameChans(got, impl.ChanResult{Code: want}) {
			t.Errorf("%+v: %+v, want the code %d", c, got, want)
		}
	}
	if got := impl.TrueCells(c); !sameInts(got, impl.IntsResult{Code: want}) {
		t.Errorf("TrueCells(%+v) = %v, want %d", c, got, want)
	}
}

func TestChannelsByHand(t *testing.T) {
	b := impl.BuildText("in a : int; out x : int; x := a + 1;").Build
	a := impl.Chan{Kind: impl.ChanA, Code: []int64{12, 3, 2, 0, 1, 1, 6, 1, 3, 1, 13}, Sums: []int64{b.SumsA[0], b.SumsA[1]}, Cells: []int64{0, 0}}
	if got := checkStart(t, b, impl.ChanA); !sameChans(got, impl.ChanResult{Chan: a}) {
		t.Errorf("StartChan of ChanA = %+v, want %+v", got, a)
	}
	code := []int64{12, 3, 2, 0, 0, 1, 1, 65534, 6, 0, 0, 1, 1, 3, 1, 0, 13}
	down := impl.Chan{Kind: impl.ChanB, Code: code, Sums: []int64{b.SumsB[0], b.SumsB[1], b.SumsB[2]}, Cells: []int64{65535, 65535}}
	if got := checkStart(t, b, impl.ChanB); !sameChans(got, impl.ChanResult{Chan: down}) {
		t.Errorf("StartChan of ChanB = %+v, want %+v", got, down)
	}
	for _, input := range []int64{4, 0, 1, 32767, 65534, 65535} {
		sum := (input + 1) % 65536
		a.Cells, a.Sig = []int64{input, sum}, 4
		if got := checkChanScan(t, b, impl.StartChan(b, impl.ChanA).Chan, []int64{input}); !sameChans(got, impl.ChanResult{Used: 6, Chan: a}) {
			t.Errorf("ScanChan of ChanA with %d = %+v, want %+v", input, got, a)
		}
		down.Cells, down.Sig = []int64{65535 - input, 65535 - sum}, 4
		if got := checkChanScan(t, b, impl.StartChan(b, impl.ChanB).Chan, []int64{input}); !sameChans(got, impl.ChanResult{Used: 6, Chan: down}) {
			t.Errorf("ScanChan of ChanB with %d = %+v, want %+v", input, got, down)
		}
		for _, c := range []impl.Chan{a, down} {
			if got := impl.TrueCells(c); !sameInts(got, impl.IntsResult{List: []int64{input, sum}}) {
				t.Errorf("TrueCells(%+v) = %v", c, got)
			}
		}
	}
}

func TestKindsOfChannels(t *testing.T) {
	for _, kind := range append([]int64{2, 3, 4, 5}, oddNumbers...) {
		want := formUnless(kind == 1 || kind == 2)
		checkChanFault(t, impl.Chan{Kind: kind}, want)
		checkChanFault(t, rightChan(kind), want)
		checkChanFault(t, impl.Chan{Kind: kind, Code: []int64{}, Sums: []int64{}, Cells: []int64{}}, want)
	}
}

func TestWordsOfChannels(t *testing.T) {
	for _, count := range []int{0, 1, 7, 8, 9, 399, 400, 401, 402, 1000} {
		words, want := mixedWords(count, uint64(count)), codeIf(impl.ErrMany, count > 400)
		for kind := int64(1); kind <= 2; kind++ {
			checkChanFault(t, impl.Chan{Kind: kind, Code: words}, want)
			checkChanFault(t, impl.Chan{Kind: kind, Sums: words}, want)
			checkChanFault(t, impl.Chan{Kind: kind, Code: words, Sums: sumsTold(words)}, want)
			checkChanFault(t, impl.Chan{Kind: kind, Code: words, Sums: words}, want)
			if count == 0 {
				continue
			}
			for _, n := range oddNumbers {
				fault := cmp.Or(want, rangeUnless(!isNoWord(n)))
				for _, at := range []int{0, count / 2, count - 1} {
					checkChanFault(t, impl.Chan{Kind: kind, Code: withWord(words, at, n)}, fault)
					checkChanFault(t, impl.Chan{Kind: kind, Sums: withWord(words, at, n)}, fault)
				}
			}
		}
	}
}

func TestCellsOfChannels(t *testing.T) {
	for _, count := range []int{0, 1, 2, 79, 80, 81, 82, 401, 1000} {
		cells := mixedWords(count, uint64(count))
		want := codeIf(impl.ErrMany, count > 80)
		for kind := int64(1); kind <= 2; kind++ {
			checkChanFault(t, impl.Chan{Kind: kind, Cells: cells}, want)
			for _, n := range oddNumbers {
				fault := rangeUnless(!isNoWord(n))
				if count > 0 {
					// That one is no word is told ahead of that there are too many.
					for _, at := range []int{0, count / 2, count - 1} {
						checkChanFault(t, impl.Chan{Kind: kind, Cells: withWord(cells, at, n)}, cmp.Or(fault, want))
					}
				}
				checkChanFault(t, impl.Chan{Kind: kind, Cells: cells, Next: n}, cmp.Or(fault, want))
				checkChanFault(t, impl.Chan{Kind: kind, Cells: cells, Sig: n}, cmp.Or(fault, want))
			}
		}
	}
	for _, n := range []int64{-1, 65536} {
		for at := range 4 {
			checkChanFault(t, changedChan(rightChan(2), func(c *impl.Chan) { c.Cells[at] = n }), impl.ErrRange)
		}
		checkChanFault(t, changedChan(rightChan(1), func(c *impl.Chan) { c.Next = n }), impl.ErrRange)
		checkChanFault(t, changedChan(rightChan(1), func(c *impl.Chan) { c.Sig = n }), impl.ErrRange)
	}
}

// Of two faults the one is told that the document names first.
func TestTwoFaultsOfAChannel(t *testing.T) {
	type hurt struct {
		rank   int
		code   int64
		change func(c *impl.Chan)
	}
	hurts := []hurt{
		{0, impl.ErrForm, func(c *impl.Chan) { c.Kind = 0 }}, {0, impl.ErrForm, func(c *impl.Chan) { c.Kind = 3 }},
		{1, impl.ErrMany, func(c *impl.Chan) { c.Code = append(c.Code, make([]int64, 382)...) }}, {2, impl.ErrRange, func(c *impl.Chan) { c.Code[8] = 65536 }},
		{3, impl.ErrMany, func(c *impl.Chan) { c.Sums = append(c.Sums, make([]int64, 398)...) }}, {4, impl.ErrRange, func(c *impl.Chan) { c.Sums[0] = -1 }},
		{5, impl.ErrRange, func(c *impl.Chan) { c.Cells[3] = -1 }}, {5, impl.ErrRange, func(c *impl.Chan) { c.Next = 65536 }}, {5, impl.ErrRange, func(c *impl.Chan) { c.Sig = -1 }},
		{6, impl.ErrMany, func(c *impl.Chan) { c.Cells = append(c.Cells, make([]int64, 77)...) }},
	}
	for kind := int64(1); kind <= 2; kind++ {
		for _, one := range hurts {
			checkChanFault(t, changedChan(rightChan(kind), one.change), one.code)
			for _, other := range hurts {
				first := one
				if other.rank < one.rank {
					first = other
				}
				checkChanFault(t, changedChan(changedChan(rightChan(kind), one.change), other.change), first.code)
			}
		}
	}
}

// checkUnstarted asks that a build has no channel of any kind, but the code.
func checkUnstarted(t *testing.T, b impl.Build, code int64) {
	t.Helper()
	for _, kind := range append([]int64{2, 3}, oddNumbers...) {
		if got := checkStart(t, b, kind); !sameChans(got, impl.ChanResult{Code: code}) {
			t.Errorf("StartChan(%+v, %d) = %+v, want the code %d", b, kind, got, code)
		}
	}
}

func TestStartsOfBuildsWithAFault(t *testing.T) {
	for _, c := range []struct {
		code   int64
		change func(b *impl.Build)
	}{
		{impl.ErrRange, func(b *impl.Build) { b.Cells = 81 }}, {impl.ErrRange, func(b *impl.Build) { b.Cells = -1 }}, {impl.ErrRange, func(b *impl.Build) { b.BudgetA = -1 }}, {impl.ErrRange, func(b *impl.Build) { b.BudgetB = 20001 }},
		{impl.ErrMany, func(b *impl.Build) { b.Ports = make([]impl.Port, 25) }}, {impl.ErrMany, func(b *impl.Build) { b.Outs = make([]int64, 61) }},
		{impl.ErrRange, func(b *impl.Build) { b.Ports[1].Cell = 4 }}, {impl.ErrRange, func(b *impl.Build) { b.Outs[0] = -1 }},
		{impl.ErrMany, func(b *impl.Build) { *b = withCode(*b, make([]int64, 401), nil) }}, {impl.ErrMany, func(b *impl.Build) { *b = withCode(*b, nil, make([]int64, 401)) }},
		{impl.ErrRange, func(b *impl.Build) { b.CodeA[0] = 65536 }}, {impl.ErrRange, func(b *impl.Build) { b.CodeB[16] = -1 }},
		// A fault of what the other channel would have is one, too.
		{impl.ErrSum, func(b *impl.Build) { b.CodeA[0] ^= 1 }}, {impl.ErrSum, func(b *impl.Build) { b.CodeB[0] ^= 1 }}, {impl.ErrSum, func(b *impl.Build) { b.SumsA[1] ^= 32768 }}, {impl.ErrSum, func(b *impl.Build) { b.SumsB = b.SumsB[:2] }},
	} {
		b := changed(rightBuild(), c.change)
		checkUnstarted(t, b, c.code)
		// It is asked ahead of the channel, and of whether that and the inputs are those of the build.
		for _, channel := range []impl.Chan{{Kind: 1}, {Kind: 2, Cells: make([]int64, 4)}, {}, {Kind: 1, Code: []int64{-1}}, {Kind: 3, Cells: make([]int64, 81)}} {
			if got := checkChanScan(t, b, channel, []int64{1, 1}); !sameChans(got, impl.ChanResult{Code: c.code}) {
				t.Errorf("ScanChan(%+v, %+v) = %+v, want the code %d", b, channel, got, c.code)
			}
		}
	}
}

func TestStartsOfEachKind(t *testing.T) {
	for _, b := range []impl.Build{{}, {Cells: 1}, {Cells: 80}, rightBuild(), withCode(impl.Build{Cells: 3}, nil, []int64{1}), withCode(impl.Build{}, []int64{2}, nil), withCode(impl.Build{Cells: 80}, mixedWords(400, 3), mixedWords(399, 4))} {
		for _, kind := range append([]int64{2, 3}, oddNumbers...) {
			got := checkStart(t, b, kind)
			want := impl.ChanResult{Code: impl.ErrForm}
			switch kind {
			case impl.ChanA:
				want = impl.ChanResult{Chan: impl.Chan{Kind: 1, Code: b.CodeA, Sums: b.SumsA, Cells: make([]int64, b.Cells)}}
			case impl.ChanB:
				want = impl.ChanResult{Chan: impl.Chan{Kind: 2, Code: b.CodeB, Sums: b.SumsB, Cells: sameWords(int(b.Cells), 65535)}}
			}
			if !sameChans(got, want) {
				t.Errorf("StartChan(%+v, %d) = %+v, want %+v", b, kind, got, want)
			}
			if cells := impl.TrueCells(got.Chan); want.Code == impl.OK && !sameInts(cells, impl.IntsResult{List: make([]int64, b.Cells)}) {
				t.Errorf("TrueCells of a start = %v", cells)
			}
		}
	}
}

// wordsThatMayBeHurt answers those of a channel that may be hurt in such a way.
func wordsThatMayBeHurt(c *impl.Chan, what int64) []*int64 {
	lists := map[int64][]int64{impl.HurtCode: c.Code, impl.HurtCell: c.Cells, impl.HurtSum: c.Sums}
	var words []*int64
	for i := range lists[what] {
		words = append(words, &lists[what][i])
	}
	switch what {
	case impl.HurtNext:
		words = append(words, &c.Next)
	case impl.HurtSig:
		words = append(words, &c.Sig)
	}
	return words
}

func TestHurtsOfEachWord(t *testing.T) {
	masks := []int64{0, 1, 2, 255, 256, 32767, 32768, 65534, 65535}
	for kind := int64(1); kind <= 2; kind++ {
		channels := []impl.Chan{rightChan(kind), {Kind: kind}, {Kind: kind, Code: mixedWords(400, 9), Sums: mixedWords(400, 8), Cells: mixedWords(80, 7), Next: 65535, Sig: 65535}, {Kind: kind, Code: []int64{5}}, {Kind: kind, Sums: []int64{65535}}, {Kind: kind, Cells: []int64{0}}}
		for _, c := range channels {
			for what := int64(1); what <= 5; what++ {
				count := len(wordsThatMayBeHurt(&c, what))
				for at := range count {
					for _, mask := range masks {
						want := changedChan(c, func(c *impl.Chan) { *wordsThatMayBeHurt(c, what)[at] ^= mask })
						if got := checkHurt(t, c, what, int64(at), mask); !sameChans(got, impl.ChanResult{Chan: want}) {
							t.Errorf("HurtChan(%+v, %d, %d, %d) = %+v, want %+v", c, what, at, mask, got, want)
						}
					}
				}
				for _, at := range append([]int64{int64(count), int64(count) + 1}, oddNumbers...) {
					if at < 0 || at >= int64(count) {
						checkUnhurt(t, c, what, at, 1, impl.ErrRange)
						checkUnhurt(t, c, what, at, 0, impl.ErrRange)
						checkUnhurt(t, c, what, at, -1, impl.ErrRange)
					}
				}
			}
		}
	}
}

func checkUnhurt(t *testing.T, c impl.Chan, what, at, mask, code int64) {
	t.Helper()
	if got := checkHurt(t, c, what, at, mask); !sameChans(got, impl.ChanResult{Code: code}) {
		t.Errorf("HurtChan(%+v, %d, %d, %d) = %+v, want the code %d", c, what, at, mask, got, code)
	}
}

func TestHurtsThatAreNone(t *testing.T) {
	for kind := int64(1); kind <= 2; kind++ {
		c := rightChan(kind)
		for _, n := range append([]int64{6, 10}, oddNumbers...) {
			if n < 1 || n > 5 {
				// Ahead of a mask that is no word, and of what is no place.
				checkUnhurt(t, c, n, 0, 1, impl.ErrForm)
				checkUnhurt(t, c, n, 0, -1, impl.ErrForm)
				checkUnhurt(t, c, n, -1, 65536, impl.ErrForm)
				checkUnhurt(t, c, n, 100, 1, impl.ErrForm)
			}
			if isNoWord(n) {
				for what := int64(1); what <= 5; what++ {
					checkUnhurt(t, c, what, 0, n, impl.ErrRange)
					checkUnhurt(t, c, what, n, n, impl.ErrRange)
				}
			}
		}
	}
}

// checkTested asks for the Trap and the Next of a test, and that all else stays.
func checkTested(t *testing.T, c impl.Chan, trap, next int64) {
	t.Helper()
	want := impl.ChanResult{Trap: trap, Chan: c}
	want.Chan.Next = next
	checkChanFault(t, c, impl.OK)
	if got := impl.TestChan(c); !sameChans(got, want) {
		t.Errorf("TestChan(%+v) = %+v, want the Trap %d, Next %d", c, got, trap, next)
	}
}

func TestTestsOfEachBlock(t *testing.T) {
	nexts := []int64{0, 1, 2, 3, 48, 49, 50, 51, 255, 256, 32768, 65535}
	for _, count := range []int{1, 7, 8, 9, 15, 16, 17, 392, 393, 399, 400} {
		code := mixedWords(count, uint64(count))
		sums := sumsTold(code)
		blocks := int64(len(sums))
		for _, next := range nexts {
			block := next
			if next >= blocks {
				block = 0
			}
			behind := (block + 1) % blocks
			for kind := int64(1); kind <= 2; kind++ {
				c := impl.Chan{Kind: kind, Code: code, Sums: sums, Cells: []int64{3}, Next: next, Sig: 8}
				checkTested(t, c, impl.OK, behind)
				for _, other := range [][]int64{nil, sums[1:], sums[:blocks-1], append(slices.Clone(sums), 0), append(slices.Clone(sums), sums...)} {
					c.Sums = other
					checkTested(t, c, impl.ErrSum, behind)
				}
				for _, at := range []int64{0, blocks / 2, blocks - 1} {
					c.Sums = withWord(sums, int(at), sums[at]^1)
					checkTested(t, c, codeIf(impl.ErrSum, at == block), behind)
					c.Sums = withWord(sums, int(at), sums[at]^65535)
					checkTested(t, c, codeIf(impl.ErrSum, at == block), behind)
				}
				c.Sums = sums
				for _, at := range []int{0, count / 2, count - 1} {
					c.Code = withWord(code, at, code[at]^256)
					checkTested(t, c, codeIf(impl.ErrSum, int64(at/8) == block), behind)
				}
			}
		}
	}
	// With no blocks there is nothing but the number of Sums.
	for _, next := range nexts {
		for kind := int64(1); kind <= 2; kind++ {
			checkTested(t, impl.Chan{Kind: kind, Next: next, Cells: []int64{1}}, impl.OK, 0)
			checkTested(t, impl.Chan{Kind: kind, Next: next, Code: []int64{}, Sums: []int64{}}, impl.OK, 0)
			checkTested(t, impl.Chan{Kind: kind, Next: next, Sums: []int64{0}}, impl.ErrSum, 0)
			checkTested(t, impl.Chan{Kind: kind, Next: next, Sums: []int64{65535}}, impl.ErrSum, 0)
			checkTested(t, impl.Chan{Kind: kind, Next: next, Sums: mixedWords(400, 1)}, impl.ErrSum, 0)
		}
	}
}

// A block that is not whole has a sum of the words that it has, and of no others.
func TestTheLastBlock(t *testing.T) {
	code := mixedWords(16, 77)
	for count := 9; count < 16; count++ {
		sums := sumsTold(code)
		c := impl.Chan{Kind: 1, Code: code[:count], Sums: sumsTold(code[:count]), Next: 1}
		checkTested(t, c, impl.OK, 0)
		c.Sums = sums
		checkTested(t, c, impl.ErrSum, 0)
		c.Sums = sumsTold(append(slices.Clone(code[:count]), make([]int64, 16-count)...))
		checkTested(t, c, impl.ErrSum, 0)
		c.Next = 0
		checkTested(t, c, impl.OK, 1)
	}
}

func TestTrueCellsOfBothKinds(t *testing.T) {
	cells := []int64{0, 1, 255, 32767, 32768, 65534, 65535}
	for kind, want := range map[int64][]int64{1: cells, 2: {65535, 65534, 65280, 32768, 32767, 1, 0}} {
		c := changedChan(rightChan(kind), func(c *impl.Chan) { c.Cells = cells })
		checkChanFault(t, c, impl.OK)
		if got := impl.TrueCells(c); !sameInts(got, impl.IntsResult{List: want}) {
			t.Errorf("TrueCells(%+v) = %v, want %v", c, got, want)
		}
		if got := impl.TrueCells(impl.Chan{Kind: kind}); !sameInts(got, impl.IntsResult{}) {
			t.Errorf("TrueCells of no cells = %v", got)
		}
	}
}
