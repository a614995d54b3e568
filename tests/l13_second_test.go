package tests

import (
	"cmp"
	"slices"
	"testing"

	"loop.example/g00251/impl"
)

// The second way to chapter 13: what may be hurt is a list of lists, bits are added or taken away one by one, blocks are
// pieces of the code that stand in a ring, and cells are right side up until one of the second ways of the machines has them.

func chanFaultTold(c impl.Chan) int64 {
	words := slices.Concat(c.Cells, []int64{c.Next, c.Sig})
	return cmp.Or(
		formUnless(slices.Contains([]int64{1, 2}, c.Kind)),
		wordsFaultTold(c.Code),
		wordsFaultTold(c.Sums),
		rangeUnless(!slices.ContainsFunc(words, isNoWord)),
		codeIf(impl.ErrMany, len(c.Cells) > 80),
	)
}

func startChanTold(b impl.Build, kind int64) impl.ChanResult {
	if fault := buildFaultTold(b); fault != impl.OK {
		return impl.ChanResult{Code: fault}
	}
	switch kind {
	case 1:
		return impl.ChanResult{Chan: impl.Chan{Kind: 1, Code: b.CodeA, Sums: sumsTold(b.CodeA), Cells: sameWords(int(b.Cells), 0)}}
	case 2:
		return impl.ChanResult{Chan: impl.Chan{Kind: 2, Code: b.CodeB, Sums: sumsTold(b.CodeB), Cells: sameWords(int(b.Cells), 65535)}}
	}
	return impl.ChanResult{Code: impl.ErrForm}
}

func bitsChanged(word, mask int64) int64 {
	for bit := int64(1); bit < 65536; bit *= 2 {
		switch {
		case mask/bit%2 == 0:
		case word/bit%2 == 0:
			word += bit
		default:
			word -= bit
		}
	}
	return word
}

func hurtChanTold(c impl.Chan, what, at, mask int64) impl.ChanResult {
	if fault := chanFaultTold(c); fault != impl.OK {
		return impl.ChanResult{Code: fault}
	}
	lists := map[int64][]int64{1: c.Code, 2: c.Cells, 3: c.Sums, 4: {c.Next}, 5: {c.Sig}}
	list, there := lists[what]
	switch {
	case !there:
		return impl.ChanResult{Code: impl.ErrForm}
	case isNoWord(mask), at < 0, at >= int64(len(list)):
		return impl.ChanResult{Code: impl.ErrRange}
	}
	lists[what] = withWord(list, int(at), bitsChanged(list[at], mask))
	return impl.ChanResult{Chan: impl.Chan{Kind: c.Kind, Code: lists[1], Sums: lists[3], Cells: lists[2], Next: lists[4][0], Sig: lists[5][0]}}
}

func testChanTold(c impl.Chan) impl.ChanResult {
	if fault := chanFaultTold(c); fault != impl.OK {
		return impl.ChanResult{Code: fault}
	}
	blocks := slices.Collect(slices.Chunk(c.Code, 8))
	told := impl.ChanResult{Trap: codeIf(impl.ErrSum, len(c.Sums) != len(blocks)), Chan: c}
	told.Chan.Next = 0
	for at, block := range blocks {
		if here := c.Next == int64(at) || at == 0 && c.Next >= int64(len(blocks)); here {
			told.Chan.Next = int64((at + 1) % len(blocks))
			if told.Trap == impl.OK && dividedWords(block) != c.Sums[at] {
				told.Trap = impl.ErrSum
			}
		}
	}
	return told
}

func trueTold(c impl.Chan) impl.IntsResult {
	if fault := chanFaultTold(c); fault != impl.OK {
		return impl.IntsResult{Code: fault}
	}
	if c.Kind == 2 {
		return impl.IntsResult{List: turnedWords(c.Cells)}
	}
	return impl.IntsResult{List: c.Cells}
}

func scanChanTold(b impl.Build, c impl.Chan, inputs []int64) impl.ChanResult {
	fault := cmp.Or(buildFaultTold(b), chanFaultTold(c), formUnless(allAreWords(inputs, len(b.Ports)) && int64(len(c.Cells)) == b.Cells))
	if fault != impl.OK {
		return impl.ChanResult{Code: fault}
	}
	cells := slices.Clone(trueTold(c).List)
	for i, port := range b.Ports {
		cells[port.Cell] = inputs[i]
		if port.Bool {
			cells[port.Cell] = min(1, inputs[i])
		}
	}
	if c.Kind == 1 {
		end := runStackTold(c.Code, cells, b.BudgetA).Machine
		c.Cells, c.Sig = end.Cells, end.Sig
		return impl.ChanResult{Trap: end.Trap, Used: end.Used, Chan: c}
	}
	end := runRegsTold(c.Code, turnedWords(cells), b.BudgetB).Machine
	c.Cells, c.Sig = end.Cells, end.Sig
	return impl.ChanResult{Trap: end.Trap, Used: end.Used, Chan: c}
}

func sameChan(a, b impl.Chan) bool {
	return a.Kind == b.Kind && a.Next == b.Next && a.Sig == b.Sig && slices.Equal(a.Code, b.Code) && slices.Equal(a.Sums, b.Sums) && slices.Equal(a.Cells, b.Cells)
}

func sameChans(a, b impl.ChanResult) bool {
	return a.Code == b.Code && a.Trap == b.Trap && a.Used == b.Used && sameChan(a.Chan, b.Chan)
}

// checkChan holds what is asked of a channel alone against the second way; it answers its fault.
func checkChan(t *testing.T, c impl.Chan) int64 {
	t.Helper()
	fault := chanFaultTold(c)
	if got := impl.ChanFault(c); got != fault {
		t.Fatalf("ChanFault(%+v) = %d, want %d", c, got, fault)
	}
	if got, want := impl.TestChan(c), testChanTold(c); !sameChans(got, want) {
		t.Fatalf("TestChan(%+v)\n= %+v, want\n  %+v", c, got, want)
	}
	if got, want := impl.TrueCells(c), trueTold(c); !sameInts(got, want) {
		t.Fatalf("TrueCells(%+v) = %v, want %v", c, got, want)
	}
	return fault
}

// checkStart holds the channel of a build against the second way; where it has no fault, neither has what is told.
func checkStart(t *testing.T, b impl.Build, kind int64) impl.ChanResult {
	t.Helper()
	got, want := impl.StartChan(b, kind), startChanTold(b, kind)
	if !sameChans(got, want) {
		t.Fatalf("StartChan(%+v, %d)\n= %+v, want\n  %+v", b, kind, got, want)
	}
	if got.Code == impl.OK && checkChan(t, got.Chan) != impl.OK {
		t.Fatalf("StartChan(%+v, %d) = %+v, which has a fault", b, kind, got)
	}
	return got
}

// checkHurt holds a channel that is hurt against the second way, and asks for the whole one back.
func checkHurt(t *testing.T, c impl.Chan, what, at, mask int64) impl.ChanResult {
	t.Helper()
	got, want := impl.HurtChan(c, what, at, mask), hurtChanTold(c, what, at, mask)
	if !sameChans(got, want) {
		t.Fatalf("HurtChan(%+v, %d, %d, %d)\n= %+v, want\n  %+v", c, what, at, mask, got, want)
	}
	if got.Code == impl.OK {
		if back := impl.HurtChan(got.Chan, what, at, mask); !sameChans(back, impl.ChanResult{Chan: c}) {
			t.Fatalf("HurtChan(%+v, %d, %d, %d)\n= %+v, of which the whole one is\n  %+v", got.Chan, what, at, mask, back, c)
		}
	}
	return got
}

// checkChanScan holds a scan against the second way; where there is one, it leaves no fault, and all but Cells and Sig.
func checkChanScan(t *testing.T, b impl.Build, c impl.Chan, inputs []int64) impl.ChanResult {
	t.Helper()
	got, want := impl.ScanChan(b, c, inputs), scanChanTold(b, c, inputs)
	if !sameChans(got, want) {
		t.Fatalf("ScanChan(%+v, %+v, %v)\n= %+v, want\n  %+v", b, c, inputs, got, want)
	}
	if got.Code == impl.OK {
		left := got.Chan
		left.Cells, left.Sig = c.Cells, c.Sig
		if checkChan(t, got.Chan) != impl.OK || !sameChan(left, c) {
			t.Fatalf("ScanChan(%+v, %+v, %v) = %+v", b, c, inputs, got)
		}
	}
	return got
}
