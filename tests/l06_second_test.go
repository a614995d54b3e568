package tests

import (
	"math"
	"slices"
	"testing"

	"loop.example/g00251/impl"
)

// The second way to chapter 6: a walk over the tree itself, with the words of each name in a list of its own.
// The first code that is met stays, and behind it nothing is done.

type walker struct {
	tree  impl.Tree
	words map[string][]int64
	steps int64
	code  int64
}

// walkerOf is told cells that fit.
func walkerOf(t impl.Tree, cells []int64) *walker {
	w := &walker{tree: t, words: map[string][]int64{}}
	for cell, name := range cellNames(t) {
		w.words[name] = append(w.words[name], cells[cell])
	}
	return w
}

// cells answers the words of all names in one list again.
func (w *walker) cells() []int64 {
	var cells []int64
	for _, v := range w.tree.Vars {
		cells = append(cells, w.words[v.Name]...)
	}
	for _, name := range ownNames(w.tree) {
		cells = append(cells, w.words[name]...)
	}
	return cells
}

func (w *walker) fail(code int64) {
	if w.code == impl.OK {
		w.code = code
	}
}

func (w *walker) kids(node impl.Node) []int64 {
	var words []int64
	for _, kid := range node.Kids {
		words = append(words, w.value(kid))
	}
	return words
}

func (w *walker) value(at int64) int64 {
	node := w.tree.Nodes[at]
	kids := w.kids(node)
	switch node.Kind {
	case impl.NodeNum:
		return node.Num
	case impl.NodeName:
		return w.words[node.Name][0]
	case impl.NodeItem:
		if word := w.item(node.Name, kids[0]); word != nil {
			return *word
		}
		return 0
	case impl.NodeNeg:
		return restOf(-kids[0])
	case impl.NodeNot:
		return countIf(kids[0] == 0)
	}
	told := binaryTold(node.Op, kids[0], kids[1])
	if told.Code != impl.OK {
		w.fail(told.Code)
	}
	return told.Value
}

func (w *walker) item(name string, place int64) *int64 {
	row, at := w.words[name], signedRest(place)
	if at < 0 || at >= int64(len(row)) {
		w.fail(impl.ErrRange)
		return nil
	}
	return &row[at]
}

func (w *walker) kept(name string, word int64) int64 {
	if typ, _, _ := readable(w.tree, name); typ == impl.TypeBool {
		return countIf(word != 0)
	}
	return word
}

func (w *walker) statements(places []int64) {
	for _, place := range places {
		if w.code == impl.OK {
			w.steps++
			w.statement(w.tree.Nodes[place])
		}
	}
}

func (w *walker) statement(node impl.Node) {
	kids := w.kids(node)
	if w.code != impl.OK {
		return
	}
	switch node.Kind {
	case impl.NodeSet:
		w.words[node.Name][0] = w.kept(node.Name, kids[0])
	case impl.NodePut:
		if word := w.item(node.Name, kids[0]); word != nil {
			*word = w.kept(node.Name, kids[1])
		}
	case impl.NodeIf:
		if kids[0] != 0 {
			w.statements(node.Then)
		} else {
			w.statements(node.Else)
		}
	case impl.NodeFor:
		w.rounds(node)
	case impl.NodeCall:
		w.call(node, kids)
	}
}

func (w *walker) rounds(node impl.Node) {
	name := w.words[node.Name]
	for name[0] = node.Num; name[0] <= node.Far && w.code == impl.OK; name[0]++ {
		w.steps++
		w.statements(node.Then)
	}
}

func (w *walker) call(node impl.Node, kids []int64) {
	var kept []int64
	for _, letter := range ownLetters[node.Op] {
		kept = append(kept, w.words[node.Name+string(letter)][0])
	}
	for i, word := range blockTold(node.Op, kept, kids).List {
		w.words[node.Name+string(ownLetters[node.Op][i])][0] = word
	}
}

func allAreWords(list []int64, count int) bool {
	return len(list) == count && !slices.ContainsFunc(list, func(n int64) bool { return n < 0 || n > 65535 })
}

// blockTold is a second way to BlockStep: what is true counts as 1 and is reckoned with.
func blockTold(op int64, kept, args []int64) impl.IntsResult {
	if op < 1 || op > 4 {
		return impl.IntsResult{Code: impl.ErrRange}
	}
	if !allAreWords(kept, len(ownLetters[op])) || !allAreWords(args, len(givenLetters[op])) {
		return impl.IntsResult{Code: impl.ErrForm}
	}
	truth := func(list []int64, at int) int64 { return min(1, list[at]) }
	first := truth(args, 0)
	switch op {
	case impl.BlockCtu:
		more := first * (1 - truth(kept, 1)) * countIf(kept[0] != 32767)
		count := restOf(kept[0]+more) * (1 - truth(args, 1))
		return impl.IntsResult{List: []int64{count, first, countIf(signedRest(count)-signedRest(args[2]) >= 0)}}
	case impl.BlockTon:
		most := signedRest(args[1])
		now := first * restOf(min(signedRest(kept[0])+1, max(most, signedRest(kept[0]))))
		return impl.IntsResult{List: []int64{now, first * countIf(signedRest(now) >= most)}}
	case impl.BlockRtrig:
		return impl.IntsResult{List: []int64{first, first * (1 - truth(kept, 0))}}
	}
	return impl.IntsResult{List: []int64{max(first, truth(kept, 0)*(1-truth(args, 1)))}}
}

// stateFault is told the code of CheckTree.
func stateFault(t impl.Tree, code int64, cells []int64) int64 {
	switch {
	case code != impl.OK:
		return code
	case len(cells) != len(cellNames(t)):
		return impl.ErrForm
	case !allAreWords(cells, len(cells)):
		return impl.ErrRange
	}
	return impl.OK
}

func valueTold(t impl.Tree, fault int64, cells []int64, at int64) impl.IntResult {
	if fault != impl.OK {
		return impl.IntResult{Code: fault}
	}
	if at < 0 || at >= int64(len(t.Nodes)) || t.Nodes[at].Kind > impl.NodeTwo {
		return impl.IntResult{Code: impl.ErrForm}
	}
	w := walkerOf(t, cells)
	word := w.value(at)
	if w.code != impl.OK {
		return impl.IntResult{Code: w.code}
	}
	return impl.IntResult{Value: word}
}

func scanTold(t impl.Tree, fault int64, cells, inputs []int64) impl.ScanResult {
	if fault != impl.OK {
		return impl.ScanResult{Code: fault}
	}
	var ports []string
	for _, v := range t.Vars {
		if v.Kind == impl.VarIn && v.Size == 0 {
			ports = append(ports, v.Name)
		}
	}
	if !allAreWords(inputs, len(ports)) {
		return impl.ScanResult{Code: impl.ErrForm}
	}
	w := walkerOf(t, cells)
	for i, name := range ports {
		w.words[name][0] = w.kept(name, inputs[i])
	}
	w.statements(t.Body)
	if w.code != impl.OK {
		return impl.ScanResult{Code: w.code, Steps: w.steps}
	}
	told := impl.ScanResult{Steps: w.steps, State: impl.State{Cells: w.cells()}}
	for _, v := range t.Vars {
		if v.Kind == impl.VarOut {
			told.Outs = append(told.Outs, w.words[v.Name]...)
		}
	}
	return told
}

func scansTold(t impl.Tree, code int64, list [][]int64) impl.ScansResult {
	if code != impl.OK {
		return impl.ScansResult{Code: code}
	}
	if len(list) > 40 {
		return impl.ScansResult{Code: impl.ErrMany}
	}
	told := impl.ScansResult{Failed: -1}
	cells := make([]int64, len(cellNames(t)))
	for at, inputs := range list {
		scan := scanTold(t, impl.OK, cells, inputs)
		if scan.Code != impl.OK {
			told.Failed, told.Why = int64(at), scan.Code
			break
		}
		cells = scan.State.Cells
		told.Outs = append(told.Outs, scan.Outs)
	}
	return told
}

func sameScan(a, b impl.ScanResult) bool {
	return a.Code == b.Code && a.Steps == b.Steps && slices.Equal(a.State.Cells, b.State.Cells) && slices.Equal(a.Outs, b.Outs)
}

func sameScans(a, b impl.ScansResult) bool {
	return a.Code == b.Code && a.Failed == b.Failed && a.Why == b.Why && slices.EqualFunc(a.Outs, b.Outs, slices.Equal[[]int64])
}

// checkScan holds every function of a state against the second way, ValueOf at every place; it answers what ScanTree tells.
func checkScan(t *testing.T, tree impl.Tree, cells, inputs []int64) impl.ScanResult {
	t.Helper()
	code := checked(tree, faultOf(tree)).Code
	state := impl.State{Cells: cells}
	fault := stateFault(tree, code, cells)
	if got := impl.StateFault(tree, state); got != fault {
		t.Fatalf("StateFault(%s, %v) = %d, want %d", showTree(tree), cells, got, fault)
	}
	places := []int64{math.MinInt64, -1, int64(len(tree.Nodes)), math.MaxInt64}
	for at := range tree.Nodes {
		places = append(places, int64(at))
	}
	for _, at := range places {
		if got, want := impl.ValueOf(tree, state, at), valueTold(tree, fault, cells, at); got != want {
			t.Fatalf("ValueOf(%s, %v, %d) = %v, want %v", showTree(tree), cells, at, got, want)
		}
	}
	got, want := impl.ScanTree(tree, state, inputs), scanTold(tree, fault, cells, inputs)
	if !sameScan(got, want) {
		t.Fatalf("ScanTree(%s, %v, %v) = %v, want %v", showTree(tree), cells, inputs, got, want)
	}
	return got
}

// checkScans holds StartState and RunScans against the second way.
func checkScans(t *testing.T, tree impl.Tree, list [][]int64) impl.ScansResult {
	t.Helper()
	code := checked(tree, faultOf(tree)).Code
	start := impl.ScanResult{Code: code}
	if code == impl.OK {
		start.State.Cells = make([]int64, len(cellNames(tree)))
	}
	if got := impl.StartState(tree); !sameScan(got, start) {
		t.Fatalf("StartState(%s) = %v, want %v", showTree(tree), got, start)
	}
	got, want := impl.RunScans(tree, list), scansTold(tree, code, list)
	if !sameScans(got, want) {
		t.Fatalf("RunScans(%s, %v) = %v, want %v", showTree(tree), list, got, want)
	}
	return got
}
