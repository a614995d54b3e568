package tests

import (
	"reflect"
	"slices"
	"testing"

	"loop.example/g00251/impl"
)

// buildFor answers one of so many cells, with code that the machines get on with, more or less.
func (m *regCodeMaker) buildFor(cells int) impl.Build {
	b := impl.Build{Cells: int64(cells), BudgetA: int64(m.less(120)), BudgetB: int64(m.less(120))}
	if cells > 0 {
		for range m.less(5) {
			b.Ports = append(b.Ports, impl.Port{Cell: int64(m.less(cells)), Bool: m.less(2) == 0})
		}
		b.Outs = append(b.Outs, int64(m.less(cells)))
	}
	b = withCode(b, m.codeOfNoise(cells), m.regCodeOfNoise(cells))
	if m.less(8) == 0 {
		m.hurtBuild(&b)
	}
	return b
}

// channelFor answers one of so many cells, of which the sums are right as a rule.
func (m *regCodeMaker) channelFor(cells int) impl.Chan {
	c := impl.Chan{Kind: 1 + int64(m.less(2)), Cells: m.words(cells), Next: int64(m.less(8)), Sig: m.word()}
	c.Code = m.codeOfNoise(cells)
	if c.Kind == impl.ChanB {
		c.Code = m.regCodeOfNoise(cells)
	}
	c.Sums = sumsTold(c.Code)
	switch m.less(8) {
	case 0:
		c.Sums = m.hurtWords(len(c.Sums))
	case 1:
		c.Next = m.word()
	case 2:
		m.hurtFields(&c)
	}
	return c
}

// hurtFields changes a field, or several, to what is out of all bounds, or nearly so.
func (m *regCodeMaker) hurtFields(c *impl.Chan) {
	for range 1 + m.less(3) {
		odd := oddNumbers[m.less(len(oddNumbers))]
		switch m.less(8) {
		case 0:
			c.Kind = odd
		case 1:
			c.Next = odd
		case 2:
			c.Sig = odd
		case 3:
			c.Code = append(m.words(m.less(410)), odd)
		case 4:
			c.Sums = append(m.words(m.less(410)), odd)
		case 5:
			c.Cells = append(m.words(m.less(82)), odd)
		case 6:
			c.Cells = m.words(79 + m.less(4))
		case 7:
			c.Kind = int64(m.less(4))
		}
	}
}

// hurtAt answers what is hurt, where, and how, as a rule what may be hurt.
func (m *regCodeMaker) hurtAt(c impl.Chan) (what, at, mask int64) {
	what = 1 + int64(m.less(5))
	at = int64(m.less(1 + len(wordsThatMayBeHurt(&c, what))))
	mask = m.word()
	switch m.less(12) {
	case 0:
		what = m.number()
	case 1:
		at = m.number()
	case 2:
		mask = m.number()
	case 3:
		mask = 1 << m.less(16)
	}
	return what, at, mask
}

// befallen answers the channel behind some hurts, or none.
func (m *regCodeMaker) befallen(c impl.Chan) impl.Chan {
	for range m.less(6) {
		what, at, mask := m.hurtAt(c)
		if hurt := impl.HurtChan(c, what, at, mask); hurt.Code == impl.OK {
			c = hurt.Chan
		}
	}
	return c
}

func TestChannelsOfNoise(t *testing.T) {
	m := regMakerOf(13)
	faults, hurts, scans, traps, tests := map[int64]int{}, map[int64]int{}, map[int64]int{}, map[int64]int{}, map[int64]int{}
	for i := range 6000 {
		cells := m.less(6)
		b := m.buildFor(cells)
		c := m.channelFor(cells)
		if start := checkStart(t, b, []int64{1, 2, 1, 2, m.number()}[i%5]); start.Code == impl.OK && i%2 == 0 {
			c = start.Chan
		}
		for range m.less(4) {
			faults[checkChan(t, c)]++
			what, at, mask := m.hurtAt(c)
			hurt := checkHurt(t, c, what, at, mask)
			hurts[hurt.Code]++
			if hurt.Code == impl.OK {
				c = hurt.Chan
				tests[impl.TestChan(c).Trap]++
			}
			scan := checkChanScan(t, b, c, m.hurtWords(len(b.Ports)))
			scans[scan.Code]++
			if scan.Code == impl.OK {
				traps[scan.Trap]++
				c = scan.Chan
			}
		}
	}
	for name, told := range map[string][]int{
		"faults": {faults[impl.OK], faults[impl.ErrForm], faults[impl.ErrMany], faults[impl.ErrRange]},
		"hurts":  {hurts[impl.OK], hurts[impl.ErrForm], hurts[impl.ErrMany], hurts[impl.ErrRange]},
		"scans":  {scans[impl.OK], scans[impl.ErrForm], scans[impl.ErrMany], scans[impl.ErrRange], scans[impl.ErrSum]},
		"traps":  {traps[impl.OK], traps[impl.ErrForm], traps[impl.ErrMany], traps[impl.ErrRange], traps[impl.ErrNone]},
		"tests":  {tests[impl.OK], tests[impl.ErrSum]},
	} {
		if slices.Min(told) < 30 {
			t.Errorf("%s: %v", name, told)
		}
	}
}

// Promise 14: what is hurt twice in the same way is whole again, by whatever other hurt it was befallen between, if that is mended, too.
func TestWhatIsHurtTwiceIsWhole(t *testing.T) {
	m := regMakerOf(29)
	changes := map[int64]int{}
	for range 5000 {
		c := m.channelFor(m.less(8))
		if impl.ChanFault(c) != impl.OK {
			continue
		}
		what, at, mask := m.hurtAt(c)
		hurt := impl.HurtChan(c, what, at, mask)
		if hurt.Code != impl.OK {
			continue
		}
		if sameChan(hurt.Chan, c) != (mask == 0) || hurt.Trap != 0 || hurt.Used != 0 || impl.ChanFault(hurt.Chan) != impl.OK {
			t.Fatalf("HurtChan(%+v, %d, %d, %d) = %+v", c, what, at, mask, hurt)
		}
		if back := impl.HurtChan(hurt.Chan, what, at, mask); !sameChans(back, impl.ChanResult{Chan: c}) {
			t.Fatalf("HurtChan(%+v, %d, %d, %d) = %+v, want %+v", hurt.Chan, what, at, mask, back, c)
		}
		// Hurts in two ways are mended in any order.
		other, place, bits := m.hurtAt(c)
		if twice := impl.HurtChan(hurt.Chan, other, place, bits); twice.Code == impl.OK {
			first := impl.HurtChan(twice.Chan, what, at, mask).Chan
			if back := impl.HurtChan(first, other, place, bits); !sameChans(back, impl.ChanResult{Chan: c}) {
				t.Fatalf("hurt twice in two ways, and mended: %+v, want %+v", back, c)
			}
		}
		changes[what]++
	}
	for what := int64(1); what <= 5; what++ {
		if changes[what] < 300 {
			t.Errorf("just %d hurts of the kind %d", changes[what], what)
		}
	}
}

// testsThatTell answers how many of so many tests have a Trap, and the channel behind them.
func testsThatTell(t *testing.T, c impl.Chan, count int) (traps int, behind impl.Chan) {
	t.Helper()
	for range count {
		told := impl.TestChan(c)
		if told.Code != impl.OK || told.Trap != impl.OK && told.Trap != impl.ErrSum || told.Used != 0 {
			t.Fatalf("TestChan(%+v) = %+v", c, told)
		}
		traps += int(countIf(told.Trap != impl.OK))
		c = told.Chan
	}
	return traps, c
}

// checkFound hurts a word of code, and asks for it by as many tests as there are blocks: each block is tested once.
func checkFound(t *testing.T, c impl.Chan, at, mask int64) {
	t.Helper()
	hurt := impl.HurtChan(c, impl.HurtCode, at, mask)
	if hurt.Code != impl.OK {
		t.Fatalf("HurtChan(%+v, %d, %d, %d) = %+v", c, impl.HurtCode, at, mask, hurt)
	}
	if traps, _ := testsThatTell(t, hurt.Chan, len(c.Sums)); traps != 1 {
		t.Fatalf("%d of %d tests find the word %d that was hurt by %d in %+v", traps, len(c.Sums), at, mask, c)
	}
	// It is found by the last of them, where the block behind it is the next one; so few tests as that do not do.
	blocks := int64(len(c.Sums))
	last := impl.HurtChan(hurt.Chan, impl.HurtNext, 0, hurt.Chan.Next^((at/8+1)%blocks)).Chan
	traps, behind := testsThatTell(t, last, len(c.Sums)-1)
	if found := impl.TestChan(behind); traps != 0 || found.Trap != impl.ErrSum || behind.Next != at/8 {
		t.Fatalf("%d of %d tests find the word %d, then %+v", traps, blocks-1, at, found)
	}
}

// Promise 14: a word of code that was hurt is found by as many tests as there are blocks, where the sums were right.
func TestHurtCodeIsFound(t *testing.T) {
	m := regMakerOf(37)
	var builds []impl.Build
	for _, text := range slices.Concat([]string{"", declared, regCodeOf(400)}, bareTexts(40, 71), callTexts(40, 71)) {
		if built := impl.BuildText(text); built.Code == impl.OK {
			builds = append(builds, built.Build)
		}
	}
	for _, count := range []int{1, 7, 8, 9, 16, 399, 400} {
		builds = append(builds, withCode(impl.Build{}, mixedWords(count, 3), mixedWords(count, 4)))
	}
	if len(builds) < 40 {
		t.Fatalf("just %d builds", len(builds))
	}
	for _, b := range builds {
		for _, c := range channelsOf(t, b) {
			blocks := len(c.Sums)
			for _, next := range []int64{0, 1, int64(blocks) - 1, int64(blocks), int64(blocks) + 1, 65535} {
				c.Next = next
				if traps, behind := testsThatTell(t, c, blocks); traps != 0 || next < int64(blocks) && !sameChan(behind, c) {
					t.Fatalf("%d of %d tests have a Trap where nothing was hurt in %+v; behind them %+v", traps, blocks, c, behind)
				}
				checkFound(t, c, int64(m.less(len(c.Code))), 1+int64(m.less(65535)))
			}
			for at := range len(c.Code) {
				c.Next = int64(m.less(blocks + 2))
				checkFound(t, c, int64(at), 1<<m.less(16))
				checkFound(t, c, int64(at), 1+int64(m.less(65535)))
			}
		}
	}
	// Each change of one word.
	c := channelsOf(t, withCode(impl.Build{}, mixedWords(13, 8), nil))[0]
	for mask := int64(1); mask < 65536; mask += 7 {
		checkFound(t, c, mask%13, mask)
	}
}

// Promise 14: a sum that was hurt is found so, too; what else is hurt is no fault of the code.
func TestHurtSumsAreFound(t *testing.T) {
	for _, c := range channelsOf(t, impl.BuildText(regCodeOf(400)).Build) {
		c.Cells = []int64{1, 2, 3}
		for next := range int64(len(c.Sums)) + 2 {
			c.Next = next
			for at := range len(c.Sums) {
				hurt := impl.HurtChan(c, impl.HurtSum, int64(at), 1+next*97)
				if traps, _ := testsThatTell(t, hurt.Chan, len(c.Sums)); hurt.Code != impl.OK || traps != 1 {
					t.Fatalf("%d tests find the sum %d that was hurt", traps, at)
				}
			}
			for _, hurt := range []impl.ChanResult{impl.HurtChan(c, impl.HurtCell, next%3, 65535), impl.HurtChan(c, impl.HurtNext, 0, 1+next*31), impl.HurtChan(c, impl.HurtSig, 0, 5)} {
				if traps, _ := testsThatTell(t, hurt.Chan, len(c.Sums)); hurt.Code != impl.OK || traps != 0 {
					t.Fatalf("%d tests of %+v have a Trap", traps, hurt)
				}
			}
		}
	}
}

// Promise 14: a scan of a channel ends within its budget, whatever befell it, and leaves no fault.
func TestScansEndWhateverBefell(t *testing.T) {
	m := regMakerOf(53)
	texts := slices.Concat(bareTexts(150, 73), callTexts(150, 73))
	traps, all := map[int64]int{}, 0
	for i := range 3000 {
		cells := m.less(8)
		b := m.buildFor(cells)
		if i%2 == 0 {
			built := impl.BuildText(texts[i/2%len(texts)])
			if built.Code != impl.OK {
				continue
			}
			b = built.Build
		}
		if impl.BuildFault(b) != impl.OK {
			continue
		}
		if m.less(150) == 0 {
			b.BudgetA, b.BudgetB = 20000, 20000
		}
		for kind := int64(1); kind <= 2; kind++ {
			c, budget := impl.StartChan(b, kind).Chan, []int64{b.BudgetA, b.BudgetB}[kind-1]
			for range 5 {
				c = m.befallen(c)
				got := impl.ScanChan(b, c, m.words(len(b.Ports)))
				if got.Code != impl.OK || got.Used < 0 || got.Used > budget || impl.ChanFault(got.Chan) != impl.OK {
					t.Fatalf("ScanChan(%+v, %+v) = %+v", b, c, got)
				}
				if got.Trap == impl.ErrMany && got.Used != budget || len(got.Chan.Cells) != len(c.Cells) || got.Chan.Next != c.Next || !slices.Equal(got.Chan.Code, c.Code) || !slices.Equal(got.Chan.Sums, c.Sums) {
					t.Fatalf("ScanChan(%+v, %+v) = %+v", b, c, got)
				}
				traps[got.Trap]++
				all++
				c = got.Chan
			}
		}
	}
	for _, trap := range []int64{impl.OK, impl.ErrForm, impl.ErrMany, impl.ErrRange, impl.ErrNone} {
		if traps[trap] < 100 {
			t.Errorf("just %d of %d scans have the Trap %d: %v", traps[trap], all, trap, traps)
		}
	}
	if len(traps) != 5 {
		t.Errorf("Traps %v", traps)
	}
}

// A channel of either kind that is not hurt gives out what the program means, and both go the same way.
func TestChannelsDoWhatTheProgramMeans(t *testing.T) {
	m := &programMaker{state: 97}
	scans, failed := 0, 0
	for _, text := range slices.Concat([]string{"out x : int; var n : int; n := n + 1; x := n * n;"}, bareTexts(250, 79), callTexts(250, 79)) {
		built := impl.BuildText(text)
		if built.Code != impl.OK {
			continue
		}
		b, tree := built.Build, program(t, text)
		list := m.scansFor(tree, 8)
		told := impl.RunScans(tree, list)
		one, other := impl.StartChan(b, impl.ChanA).Chan, impl.StartChan(b, impl.ChanB).Chan
		for at, inputs := range list {
			first, second := impl.ScanChan(b, one, inputs), impl.ScanChan(b, other, inputs)
			cells := impl.TrueCells(first.Chan)
			if first.Code != impl.OK || second.Code != impl.OK || first.Trap != second.Trap || first.Chan.Sig != second.Chan.Sig || !sameInts(cells, impl.TrueCells(second.Chan)) {
				t.Fatalf("%q, scan %d of %v: %+v and %+v", text, at, list, first, second)
			}
			if int64(at) == told.Failed {
				if first.Trap != told.Why {
					t.Fatalf("%q, scan %d of %v: the Trap %d, want %d", text, at, list, first.Trap, told.Why)
				}
				failed++
				break
			}
			var outs []int64
			for _, cell := range b.Outs {
				outs = append(outs, cells.List[cell])
			}
			if first.Trap != impl.OK || !slices.Equal(outs, told.Outs[at]) {
				t.Fatalf("%q, scan %d of %v: %+v, want %v", text, at, list, first, told.Outs[at])
			}
			one, other = first.Chan, second.Chan
			scans++
		}
	}
	if scans < 800 || failed < 40 {
		t.Errorf("%d scans, %d failed", scans, failed)
	}
}

func roomyChan(c impl.Chan) impl.Chan {
	c.Code, c.Sums, c.Cells = withSpare(c.Code), withSpare(c.Sums), withSpare(c.Cells)
	return c
}

// Promise 1: every function answers, and changes none of its arguments, nor what lies behind them.
func TestChannelsChangeNoArgument(t *testing.T) {
	m := regMakerOf(43)
	for range 4000 {
		cells := m.less(6)
		b, c := m.buildFor(cells), m.channelFor(cells)
		inputs := m.hurtWords(len(b.Ports))
		given, before := roomyBuild(b), roomyBuild(b)
		channel, room := roomyChan(c), withSpare(inputs)
		what, at, mask := m.hurtAt(c)
		impl.ChanFault(channel)
		impl.StartChan(given, 1)
		impl.StartChan(given, 2)
		impl.HurtChan(channel, what, at, mask)
		impl.TestChan(channel)
		impl.ScanChan(given, channel, room)
		impl.TrueCells(channel)
		if !reflect.DeepEqual(wholeBuild(given), wholeBuild(before)) {
			t.Fatalf("the build %+v was changed", b)
		}
		checkRoomy(t, channel.Code, c.Code)
		checkRoomy(t, channel.Sums, c.Sums)
		checkRoomy(t, channel.Cells, c.Cells)
		checkRoomy(t, room, inputs)
	}
}

// checkOwnLists overwrites the lists of answers, each with a number of its own, and asks that none is to be seen in another
// one, nor in what was given.
func checkOwnLists(t *testing.T, given [][]int64, told ...[]int64) {
	t.Helper()
	var before [][]int64
	for _, list := range given {
		before = append(before, slices.Clone(list[:cap(list)]))
	}
	for i, list := range told {
		overwrite(list, int64(-i)-1)
	}
	for i, list := range told {
		for _, word := range list[:cap(list)] {
			if word != int64(-i)-1 {
				t.Fatalf("list %d of %d shares memory with another one", i, len(told))
			}
		}
	}
	for i, list := range given {
		if !slices.Equal(list[:cap(list)], before[i]) {
			t.Fatalf("an answer shares memory with %v", before[i])
		}
	}
}

// Promise 1: what is told is new memory, where nothing changes, and with a Trap, too; no two lists of one answer share any.
func TestChannelsAreNewMemory(t *testing.T) {
	m := regMakerOf(59)
	asked := 0
	for range 3000 {
		cells := 1 + m.less(6)
		b, c := m.buildFor(cells), roomyChan(m.channelFor(cells))
		inputs := withSpare(m.words(len(b.Ports)))
		given := [][]int64{b.Outs, b.CodeA, b.CodeB, b.SumsA, b.SumsB, c.Code, c.Sums, c.Cells, inputs}
		what, at, mask := m.hurtAt(c)
		var told [][]int64
		for range 2 {
			for _, one := range []impl.ChanResult{impl.StartChan(b, 1), impl.StartChan(b, 2), impl.HurtChan(c, what, at, mask), impl.HurtChan(c, impl.HurtCell, 0, 0), impl.TestChan(c), impl.ScanChan(b, c, inputs)} {
				told = append(told, one.Chan.Code, one.Chan.Sums, one.Chan.Cells)
				asked += int(countIf(one.Code == impl.OK))
			}
			told = append(told, impl.TrueCells(c).List)
		}
		checkOwnLists(t, given, told...)
	}
	if asked < 15000 {
		t.Errorf("just %d answers have no code", asked)
	}
}

// Promise 1: an answer hangs on the arguments alone, whatever was asked ahead, and empty and nil are the same.
func TestChannelsHangOnArgumentsAlone(t *testing.T) {
	type answers struct {
		fault                    int64
		start, hurt, tested, ran impl.ChanResult
		cells                    impl.IntsResult
	}
	ask := func(seed int) answers {
		m := regMakerOf(uint64(seed))
		cells := m.less(6)
		b, c := m.buildFor(cells), m.channelFor(cells)
		what, at, mask := m.hurtAt(c)
		return answers{impl.ChanFault(c), impl.StartChan(b, 1+int64(seed%2)), impl.HurtChan(c, what, at, mask), impl.TestChan(c), impl.ScanChan(b, c, m.words(len(b.Ports))), impl.TrueCells(c)}
	}
	var told []answers
	for seed := range 2000 {
		told = append(told, ask(seed))
	}
	for seed, want := range slices.Backward(told) {
		if !reflect.DeepEqual(ask(seed), want) {
			t.Fatalf("another answer of the seed %d", seed)
		}
	}
	bare := impl.Build{Ports: []impl.Port{}, Outs: []int64{}, CodeA: []int64{}, CodeB: []int64{}, SumsA: []int64{}, SumsB: []int64{}}
	for kind := int64(0); kind <= 3; kind++ {
		none, empty := impl.Chan{Kind: kind, Next: 3}, impl.Chan{Kind: kind, Next: 3, Code: []int64{}, Sums: []int64{}, Cells: []int64{}}
		if !sameChans(impl.StartChan(bare, kind), impl.StartChan(impl.Build{}, kind)) || impl.ChanFault(none) != impl.ChanFault(empty) || !sameChans(impl.TestChan(none), impl.TestChan(empty)) || !sameInts(impl.TrueCells(none), impl.TrueCells(empty)) {
			t.Errorf("no words and nil have other answers, of the kind %d", kind)
		}
		for what := int64(0); what <= 6; what++ {
			if !sameChans(impl.HurtChan(none, what, 0, 1), impl.HurtChan(empty, what, 0, 1)) {
				t.Errorf("no words and nil are hurt otherwise, of the kind %d", kind)
			}
		}
		if !sameChans(impl.ScanChan(bare, none, nil), impl.ScanChan(impl.Build{}, empty, []int64{})) {
			t.Errorf("no words and nil are scanned otherwise, of the kind %d", kind)
		}
	}
}

// The least and the greatest numbers in every field and every list of a channel, of a build, and as what is asked.
func TestChannelsOfOddNumbers(t *testing.T) {
	right := rightBuild()
	for _, n := range oddNumbers {
		builds := []impl.Build{
			{Cells: n, Ports: []impl.Port{{Cell: n, Bool: true}}, Outs: []int64{n}, CodeA: []int64{n}, CodeB: []int64{n}, SumsA: []int64{n}, SumsB: []int64{n}, BudgetA: n, BudgetB: n},
			{Cells: n}, {BudgetA: n}, {BudgetB: n}, withCode(impl.Build{Cells: 4, BudgetA: 9, BudgetB: 9}, []int64{n, n, n}, []int64{n, 0, 0}),
			changed(right, func(b *impl.Build) { b.Ports[0].Cell = n }), changed(right, func(b *impl.Build) { b.Outs[2] = n }), changed(right, func(b *impl.Build) { b.SumsA[1] = n }), changed(right, func(b *impl.Build) { b.SumsB[0] = n }),
		}
		for kind := int64(1); kind <= 2; kind++ {
			whole := rightChan(kind)
			channels := []impl.Chan{whole, {Kind: n, Code: []int64{n}, Sums: []int64{n}, Cells: []int64{n}, Next: n, Sig: n}, {Kind: n}, {Kind: kind, Code: []int64{n, n}, Sums: []int64{n}, Cells: []int64{1, n}, Next: n, Sig: n}}
			for _, change := range []func(c *impl.Chan){func(c *impl.Chan) { c.Kind = n }, func(c *impl.Chan) { c.Next = n }, func(c *impl.Chan) { c.Sig = n }, func(c *impl.Chan) { c.Code[18] = n }, func(c *impl.Chan) { c.Sums[2] = n }, func(c *impl.Chan) { c.Cells[0] = n },
				func(c *impl.Chan) { c.Code = append(c.Code, n) }, func(c *impl.Chan) { c.Sums = append(c.Sums, n) }, func(c *impl.Chan) { c.Cells = append(c.Cells, n) }} {
				channels = append(channels, changedChan(whole, change))
			}
			for _, c := range channels {
				checkChan(t, c)
				for _, other := range oddNumbers {
					checkHurt(t, c, n, other, 1)
					for what := int64(1); what <= 5; what++ {
						checkHurt(t, c, what, other, n)
						checkHurt(t, c, what, 0, other)
					}
					checkChanScan(t, right, c, []int64{n, other})
				}
				for _, b := range builds {
					checkChanScan(t, b, c, make([]int64, len(b.Ports)))
				}
			}
			for _, b := range builds {
				checkStart(t, b, kind)
				checkStart(t, b, n)
			}
		}
	}
}
