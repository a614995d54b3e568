package tests

import (
	"regexp"
	"slices"
	"strings"
	"testing"

	"loop.example/g00251/impl"
)

// The second way to chapter 7: the lines of calls are found in the text that FormatTree writes, and
// what is told in their place is read and checked by the second ways of chapters 4 and 5.

var lineOfCall = regexp.MustCompile(`^(ctu|ton|rtrig|sr) ([a-z_]+) \( (.*) \) ;\n$`)
var lineOfVar = regexp.MustCompile(`^(in|out|var) `)
var eachToken = regexp.MustCompile(`[a-z_]+|[0-9]+|:=|[^ \n]`)

// behindKids are the document's words, X the name of the call.
var behindKids = map[string]string{
	"ctu":   "if Xb then Xv := 0; else if Xa and not Xm and (Xv < 32767) then Xv := Xv + 1; end; end; Xm := Xa; Xq := not (Xv < Xc);",
	"ton":   "if not Xa then Xv := 0; else if Xv < Xb then Xv := Xv + 1; end; end; Xq := Xa and not (Xv < Xb);",
	"rtrig": "Xq := Xa and not Xm; Xm := Xa;",
	"sr":    "Xq := Xa or Xq and not Xb;",
}

// eachOfCalls answers what is told of each call and each of some letters of its block, in the order of Nodes.
func eachOfCalls(t impl.Tree, letters []string, tell func(call string, i int, letter rune) string) []string {
	var all []string
	for _, node := range t.Nodes {
		if node.Kind == impl.NodeCall {
			for i, letter := range letters[node.Op] {
				all = append(all, tell(node.Name, i, letter))
			}
		}
	}
	return all
}

// tempNames is told a checked tree.
func tempNames(t impl.Tree) []string {
	return eachOfCalls(t, givenLetters, func(call string, i int, _ rune) string { return call + "abc"[i:i+1] })
}

// expandedText is told a checked tree.
func expandedText(t impl.Tree) string {
	declarations, statements := "", ""
	for line := range strings.Lines(impl.FormatTree(t).Text) {
		if lineOfVar.MatchString(line) {
			declarations += line
			continue
		}
		call := lineOfCall.FindStringSubmatch(line)
		if call == nil {
			statements += line
			continue
		}
		// No expression has a comma.
		for i, kid := range strings.Split(call[3], " , ") {
			statements += call[2] + "abc"[i:i+1] + " := " + kid + ";\n"
		}
		statements += strings.ReplaceAll(behindKids[call[1]], "X", call[2]) + "\n"
	}
	typed := func(letter rune) string {
		return []string{"", " : int ;\n", " : bool ;\n"}[typeOfLetter(letter)]
	}
	own := eachOfCalls(t, ownLetters, func(call string, _ int, letter rune) string {
		return "var " + call + string(letter) + typed(letter)
	})
	temps := eachOfCalls(t, givenLetters, func(call string, i int, letter rune) string {
		return "var " + call + "abc"[i:i+1] + typed(letter)
	})
	return declarations + strings.Join(own, "") + strings.Join(temps, "") + statements
}

// expandTold is told what CheckTree tells.
func expandTold(t impl.Tree, check impl.CheckResult) impl.TreeResult {
	if check.Code != impl.OK {
		return impl.TreeResult{Code: check.Code, At: check.Node}
	}
	var names []string
	for _, v := range t.Vars {
		names = append(names, v.Name)
	}
	temps := tempNames(t)
	if slices.ContainsFunc(temps, func(name string) bool { return !nameWhole.MatchString(name) || slices.Contains(allWords, name) }) {
		return impl.TreeResult{Code: impl.ErrText, At: -1}
	}
	if hasTwice(slices.Concat(names, ownNames(t), temps)) {
		return impl.TreeResult{Code: impl.ErrTaken, At: -1}
	}
	read := parsed(expandedText(t))
	if read.Code != impl.OK {
		return impl.TreeResult{Code: read.Code, At: -1}
	}
	if again := checked(read.Tree, faultOf(read.Tree)); again.Code != impl.OK {
		return impl.TreeResult{Code: again.Code, At: again.Node}
	}
	return read
}

func sameTrees(a, b impl.TreeResult) bool {
	return a.Code == b.Code && a.At == b.At && showTree(a.Tree) == showTree(b.Tree)
}

// checkExpanded holds every function of the chapter against the second way; it answers what ExpandTree tells.
func checkExpanded(t *testing.T, tree impl.Tree) impl.TreeResult {
	t.Helper()
	check := checked(tree, faultOf(tree))
	calls := false
	for _, node := range tree.Nodes {
		calls = calls || node.Kind == 11
	}
	if got := impl.HasCalls(tree); got != calls {
		t.Fatalf("HasCalls(%s) = %v", showTree(tree), got)
	}
	var own, temps []string
	if check.Code == impl.OK {
		own, temps = ownNames(tree), tempNames(tree)
	}
	if got := impl.OwnNames(tree); got.Code != check.Code || !slices.Equal(got.Names, own) {
		t.Fatalf("OwnNames(%s) = %v, want %d, %q", showTree(tree), got, check.Code, own)
	}
	if got := impl.TempNames(tree); got.Code != check.Code || !slices.Equal(got.Names, temps) {
		t.Fatalf("TempNames(%s) = %v, want %d, %q", showTree(tree), got, check.Code, temps)
	}
	got, want := impl.ExpandTree(tree), expandTold(tree, check)
	if !sameTrees(got, want) {
		t.Fatalf("ExpandTree(%s) = %d at %d, %s\nwant %d at %d, %s", showTree(tree), got.Code, got.At, showTree(got.Tree), want.Code, want.At, showTree(want.Tree))
	}
	return got
}

// otherOrder answers the same program with its Nodes in another order, each of them behind all that it names.
func otherOrder(m *programMaker, t impl.Tree) impl.Tree {
	moved := map[int64]int64{}
	move := func(places []int64) []int64 {
		var list []int64
		for _, place := range places {
			list = append(list, moved[place])
		}
		return list
	}
	waits := func(place int64) bool { _, holds := moved[place]; return !holds }
	var nodes []impl.Node
	for len(nodes) < len(t.Nodes) {
		var ready []int64
		for at, node := range t.Nodes {
			if waits(int64(at)) && !slices.ContainsFunc(slices.Concat(node.Kids, node.Then, node.Else), waits) {
				ready = append(ready, int64(at))
			}
		}
		at := ready[m.less(len(ready))]
		node := t.Nodes[at]
		node.Kids, node.Then, node.Else = move(node.Kids), move(node.Then), move(node.Else)
		moved[at] = int64(len(nodes))
		nodes = append(nodes, node)
	}
	return impl.Tree{Vars: slices.Clone(t.Vars), Nodes: nodes, Body: move(t.Body)}
}

// callMaker makes programs that may be run, with calls wherever they may stand.
type callMaker struct {
	fitMaker
}

func (m *callMaker) program() string {
	text := "in i:int; in p:bool; in ri:int[2]; out o:int; out b:bool; var n:int; var k:int; var f:bool; var rn:int[3]; out rf:bool[2]; "
	if m.less(12) == 0 {
		text += m.one("in out var") + " " + m.one("ca cb cc aab abcdefgb ra rb") + " : " + m.one("int bool") + m.one("; [2];") + " "
	}
	var parts []string
	for _, name := range []string{m.one("c c t r_"), m.one("ca aa a"), m.one("abcdefg x_ y"), "r", "ton_"} {
		if m.less(2) == 0 {
			parts = append(parts, m.call(name))
		}
	}
	for range m.less(3) {
		parts = append(parts, m.fitting(1))
	}
	for i := range parts {
		j := i + m.less(len(parts)-i)
		parts[i], parts[j] = parts[j], parts[i]
	}
	return text + "\n" + strings.Join(parts, "\n")
}

// call answers a call and what reads its own, or that within an if.
func (m *callMaker) call(name string) string {
	text := m.filled(m.one("ctu|X(%b,%b,%i);o:=Xv; ctu|X(Xq,not|Xm,Xv+%i);b:=Xq; ctu|X(%b,false,i);n:=Xv;f:=Xm; ton|X(%b,%i);b:=Xq; ton|X(not|Xq,%i);o:=o+Xv; " +
		"rtrig|X(%b);b:=Xq; rtrig|X(not|Xm);f:=Xq|and|Xm; sr|X(%b,%b);rf[1]:=Xq; sr|X(p,Xq);b:=Xq|xor|f; b:=Xq;sr|X(%b,p);"))
	text = strings.ReplaceAll(text, "X", name)
	switch m.less(6) {
	case 0:
		return "if " + m.of(impl.TypeBool, 1) + " then " + text + " end;"
	case 1:
		return "if " + m.of(impl.TypeBool, 1) + " then " + m.fitting(0) + " else " + text + " end;"
	case 2:
		return "if p then if " + m.of(impl.TypeBool, 1) + " then n := 1; " + text + " k := n; else b := f; end; end;"
	}
	return text
}

// callTexts are programs with calls, most of them within all bounds when their blocks are told by statements.
func callTexts(count int, seed uint64) []string {
	var texts []string
	for n := range count {
		m := &callMaker{fitMaker{programMaker: programMaker{state: seed + uint64(n)*7919}, wrongs: []int{0, 0, 0, 60}[n%4]}}
		if text := m.program(); impl.ParseText(text).Code == impl.OK {
			texts = append(texts, text)
		}
	}
	return texts
}
