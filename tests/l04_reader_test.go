package tests

import (
	"fmt"
	"slices"
	"strings"

	"loop.example/g00251/impl"
)

// treeRules are the language as rules for a machine with a stack: <x> is a rule, @x a doing, NAME and
// NUMBER any of these, SIZE a number 1 to 8, all else a token as it stands. The last choice of a rule
// may be empty. What a choice begins with is all that the machine looks at.
var treeRules = map[string][]string{
	"<program>": {"@list <vars> <list> @body"},
	"<vars>":    {"<var> <vars>", ""},
	"<var>":     {"<kind> NAME @var : <type> <row> ; @declare"},
	"<kind>":    {"in @kind", "out @kind", "var @kind"},
	"<type>":    {"int @type", "bool @type"},
	"<row>":     {"[ SIZE @size ]", ""},
	"<list>":    {"@enter <one> ; @close @leave @append <list>", ""},
	"<one>": {"NAME @open @name <place> := <or> @kid", "if @open <or> @kid then @list <list> @then <else> end",
		"for @open NAME @name := NUMBER @num to NUMBER @far do @list <list> @then end", "<block> @open NAME @name ( <or> @kid <more> )"},
	"<place>":  {"[ @put <or> @kid ]", ""},
	"<else>":   {"else @list <list> @else", ""},
	"<block>":  {"ctu", "ton", "rtrig", "sr"},
	"<more>":   {", <or> @kid <last>", ""},
	"<last>":   {", <or> @kid", ""},
	"<or>":     {"<xor> <ors>"},
	"<ors>":    {"or <xor> @or <ors>", ""},
	"<xor>":    {"<and> <xors>"},
	"<xors>":   {"xor <and> @xor <xors>", ""},
	"<and>":    {"<cmp> <ands>"},
	"<ands>":   {"and <cmp> @and <ands>", ""},
	"<cmp>":    {"<sum> <sign>"},
	"<sign>":   {"= <sum> @=", "< <sum> @<", "<> <sum> @= @not", "> <sum> @swap @<", "<= <sum> @swap @< @not", ">= <sum> @< @not", ""},
	"<sum>":    {"<mul> <sums>"},
	"<sums>":   {"+ <mul> @+ <sums>", "- <mul> @- <sums>", ""},
	"<mul>":    {"<piece> <muls>"},
	"<muls>":   {"* <piece> @* <muls>", "/ <piece> @/ <muls>", "mod <piece> @mod <muls>", ""},
	"<piece>":  {"@enter <within> @leave"},
	"<within>": {"- <piece> @neg", "not <piece> @not", "( <or> )", "NUMBER @number", "true @true", "false @false", "NAME @hold <item>"},
	"<item>":   {"[ <or> ] @item", "@variable"},
}

var treeOps = strings.Fields("+ - * / mod and or xor < =")

var treeChoices = splitRules(treeRules)
var treeBegins = map[[2]string]bool{}

func splitRules(rules map[string][]string) map[string][][]string {
	split := map[string][][]string{}
	for rule, choices := range rules {
		for _, choice := range choices {
			split[rule] = append(split[rule], strings.Fields(choice))
		}
	}
	return split
}

// mayBegin tells whether the token may stand where the symbol does.
func mayBegin(symbol string, token impl.Token) bool {
	class := token.Text
	switch {
	case token.Kind == impl.TokName:
		class = "NAME"
	case token.Kind == impl.TokNumber && token.Num >= 1 && token.Num <= 8:
		class = "SIZE"
	case token.Kind == impl.TokNumber:
		class = "NUMBER"
	}
	return classMayBegin(symbol, class)
}

func classMayBegin(symbol, class string) bool {
	if len(symbol) <= 2 || symbol[0] != '<' {
		return symbol == class || symbol == "NUMBER" && class == "SIZE"
	}
	key := [2]string{symbol, class}
	begins, known := treeBegins[key]
	if !known {
		begins = slices.ContainsFunc(treeChoices[symbol], func(choice []string) bool { return choiceBegins(choice, class) })
		treeBegins[key] = begins
	}
	return begins
}

func choiceBegins(choice []string, class string) bool {
	for _, symbol := range choice {
		if symbol[0] != '@' {
			return classMayBegin(symbol, class)
		}
	}
	return false
}

// choose answers the choice that the token begins, or the one that asks for no token.
func choose(rule string, token impl.Token) (choice []string, holds bool) {
	choices := treeChoices[rule]
	for _, choice := range choices {
		first := slices.IndexFunc(choice, func(symbol string) bool { return symbol[0] != '@' })
		if first >= 0 && mayBegin(choice[first], token) {
			return choice, true
		}
	}
	last := choices[len(choices)-1]
	if len(last) == 0 || rule == "<item>" || rule == "<program>" {
		return last, true
	}
	return nil, false
}

// treeReader is a second way to ParseText. It goes on behind ErrMany and ErrDeep, and what stands
// first of all that it met is told.
type treeReader struct {
	now    impl.Token
	last   impl.Token
	faults []impl.TreeResult
	depth  int
	tree   impl.Tree
	v      impl.Var
	open   []impl.Node
	lists  [][]int64
	values []int64
	held   []string
}

func parsed(text string) impl.TreeResult {
	read := impl.LexText(text)
	if read.Code != impl.OK {
		return impl.TreeResult{Code: read.Code, At: read.At}
	}
	end := int64(len(text))
	tokens := append(slices.Clone(read.Tokens), impl.Token{At: end})
	r := &treeReader{now: tokens[0]}
	todo := []string{"<program>"}
	for len(todo) > 0 {
		symbol := pop(&todo)
		if symbol[0] == '@' {
			r.do(symbol[1:])
			continue
		}
		if len(symbol) > 2 && symbol[0] == '<' {
			choice, holds := choose(symbol, r.now)
			if !holds {
				return r.wrong()
			}
			for _, next := range slices.Backward(choice) {
				todo = append(todo, next)
			}
			continue
		}
		if !mayBegin(symbol, r.now) {
			return r.wrong()
		}
		r.last = r.now
		tokens = tokens[1:]
		r.now = tokens[0]
	}
	if len(tokens) > 1 || len(r.faults) > 0 {
		return r.wrong()
	}
	if slices.ContainsFunc(r.tree.Nodes, func(n impl.Node) bool { return deepOf(r.tree, n) > 20 }) {
		return impl.TreeResult{Code: impl.ErrDeep, At: end}
	}
	return impl.TreeResult{Tree: r.tree}
}

// wrong is asked where the token cannot stand there, or the text is at its end.
func (r *treeReader) wrong() impl.TreeResult {
	told := impl.TreeResult{Code: impl.ErrText, At: r.now.At}
	for _, fault := range r.faults {
		if fault.At < told.At || fault.At == told.At && fault.Code < told.Code {
			told = fault
		}
	}
	return told
}

func deepOf(t impl.Tree, node impl.Node) int {
	deep := 0
	for _, place := range slices.Concat(node.Kids, node.Then, node.Else) {
		deep = max(deep, deepOf(t, t.Nodes[place]))
	}
	return deep + 1
}

func pop[T any](stack *[]T) T {
	last := (*stack)[len(*stack)-1]
	*stack = (*stack)[:len(*stack)-1]
	return last
}

func (r *treeReader) add(node impl.Node) {
	if len(r.tree.Nodes) >= 200 {
		r.faults = append(r.faults, impl.TreeResult{Code: impl.ErrMany, At: r.last.At})
	}
	r.tree.Nodes = append(r.tree.Nodes, node)
	r.values = append(r.values, int64(len(r.tree.Nodes)-1))
}

func (r *treeReader) do(what string) {
	switch what {
	case "enter":
		if r.depth++; r.depth > 64 {
			r.faults = append(r.faults, impl.TreeResult{Code: impl.ErrDeep, At: r.now.At})
		}
	case "leave":
		r.depth--
	case "list":
		r.lists = append(r.lists, nil)
	case "append":
		list := pop(&r.lists)
		r.lists = append(r.lists, append(list, pop(&r.values)))
	case "body":
		r.tree.Body = pop(&r.lists)
	case "swap":
		b, a := pop(&r.values), pop(&r.values)
		r.values = append(r.values, b, a)
	default:
		if !r.doVar(what) && !r.doStatement(what) {
			r.doExpression(what)
		}
	}
}

func (r *treeReader) doVar(what string) bool {
	switch what {
	case "kind":
		r.v = impl.Var{Kind: int64(slices.Index([]string{"", "in", "out", "var"}, r.last.Text))}
	case "var":
		r.v.Name = r.last.Text
	case "type":
		r.v.Type = int64(slices.Index([]string{"", "int", "bool"}, r.last.Text))
	case "size":
		r.v.Size = r.last.Num
	case "declare":
		r.tree.Vars = append(r.tree.Vars, r.v)
		if len(r.tree.Vars) > 24 {
			r.faults = append(r.faults, impl.TreeResult{Code: impl.ErrMany, At: r.last.At})
		}
	default:
		return false
	}
	return true
}

func (r *treeReader) doStatement(what string) bool {
	if what == "open" {
		kinds := map[string]impl.Node{"if": {Kind: impl.NodeIf}, "for": {Kind: impl.NodeFor}, "ctu": {Kind: impl.NodeCall, Op: 1},
			"ton": {Kind: impl.NodeCall, Op: 2}, "rtrig": {Kind: impl.NodeCall, Op: 3}, "sr": {Kind: impl.NodeCall, Op: 4}}
		node, holds := kinds[r.last.Text]
		if !holds {
			node = impl.Node{Kind: impl.NodeSet}
		}
		r.open = append(r.open, node)
		return true
	}
	if len(r.open) == 0 {
		return false
	}
	node := &r.open[len(r.open)-1]
	switch what {
	case "name":
		node.Name = r.last.Text
	case "put":
		node.Kind = impl.NodePut
	case "num":
		node.Num = r.last.Num
	case "far":
		node.Far = r.last.Num
	case "kid":
		node.Kids = append(node.Kids, pop(&r.values))
	case "then":
		node.Then = pop(&r.lists)
	case "else":
		node.Else = pop(&r.lists)
	case "close":
		r.add(pop(&r.open))
	default:
		return false
	}
	return true
}

func (r *treeReader) doExpression(what string) {
	switch what {
	case "number":
		r.add(impl.Node{Kind: impl.NodeNum, Num: r.last.Num})
	case "true":
		r.add(impl.Node{Kind: impl.NodeNum, Num: 1})
	case "false":
		r.add(impl.Node{Kind: impl.NodeNum})
	case "hold":
		r.held = append(r.held, r.last.Text)
	case "variable":
		r.add(impl.Node{Kind: impl.NodeName, Name: pop(&r.held)})
	case "item":
		r.add(impl.Node{Kind: impl.NodeItem, Name: pop(&r.held), Kids: []int64{pop(&r.values)}})
	case "neg":
		r.add(impl.Node{Kind: impl.NodeNeg, Kids: []int64{pop(&r.values)}})
	case "not":
		r.add(impl.Node{Kind: impl.NodeNot, Kids: []int64{pop(&r.values)}})
	default:
		b, a := pop(&r.values), pop(&r.values)
		r.add(impl.Node{Kind: impl.NodeTwo, Op: int64(slices.Index(treeOps, what)) + 1, Kids: []int64{a, b}})
	}
}

// showTree writes a tree so that it can be held against one that is written by hand, all its fields
// that are not 0 or empty in one order.
func showTree(t impl.Tree) string {
	var parts []string
	for _, v := range t.Vars {
		parts = append(parts, fmt.Sprintf("%s:%d,%d,%d", v.Name, v.Kind, v.Type, v.Size))
	}
	for at, node := range t.Nodes {
		parts = append(parts, fmt.Sprintf("%d=%s", at, showNode(node)))
	}
	if len(t.Body) > 0 {
		parts = append(parts, "body"+showPlaces(t.Body))
	}
	return strings.Join(parts, " ")
}

func showNode(node impl.Node) string {
	kinds := []string{"none", "num", "name", "item", "neg", "not", "two", "set", "put", "if", "for", "call"}
	text := fmt.Sprint(node.Kind)
	if node.Kind >= 0 && node.Kind < int64(len(kinds)) {
		text = kinds[node.Kind]
	}
	if node.Op != 0 {
		text += fmt.Sprintf(".%d", node.Op)
	}
	if node.Name != "" {
		text += "." + node.Name
	}
	if node.Num != 0 {
		text += fmt.Sprintf("#%d", node.Num)
	}
	if node.Far != 0 {
		text += fmt.Sprintf("..%d", node.Far)
	}
	if len(node.Kids) > 0 {
		text += showPlaces(node.Kids)
	}
	if len(node.Then) > 0 {
		text += "then" + showPlaces(node.Then)
	}
	if len(node.Else) > 0 {
		text += "else" + showPlaces(node.Else)
	}
	return text
}

func showPlaces(places []int64) string {
	var texts []string
	for _, place := range places {
		texts = append(texts, fmt.Sprint(place))
	}
	return "(" + strings.Join(texts, ",") + ")"
}

// showMeaning writes a tree from its Body on, so that trees are the same that differ in the order of Nodes alone.
func showMeaning(t impl.Tree) string {
	var all func(places []int64) string
	all = func(places []int64) string {
		var texts []string
		for _, place := range places {
			node := t.Nodes[place]
			kids, then, orElse := all(node.Kids), all(node.Then), all(node.Else)
			node.Kids, node.Then, node.Else = nil, nil, nil
			texts = append(texts, showNode(node)+kids+then+orElse)
		}
		return "{" + strings.Join(texts, " ") + "}"
	}
	return showTree(impl.Tree{Vars: t.Vars}) + all(t.Body)
}

// programMaker makes texts of programs that look like noise, the same ones each time.
type programMaker struct {
	state uint64
}

func (m *programMaker) less(n int) int {
	m.state = m.state*6364136223846793005 + 1442695040888963407
	return int(m.state>>33) % n
}

func (m *programMaker) one(of string) string {
	all := strings.Fields(of)
	return all[m.less(len(all))]
}

func (m *programMaker) program() string {
	var text strings.Builder
	for range m.less(5) {
		text.WriteString(m.one("in out var") + " " + m.one("a b cc d_e x") + " : " + m.one("int bool"))
		if m.less(3) == 0 {
			text.WriteString("[" + m.one("1 2 7 8 16#3") + "]")
		}
		text.WriteString(" ;\n")
	}
	text.WriteString(m.list(1+m.less(5), 3))
	return text.String()
}

func (m *programMaker) list(count, deep int) string {
	text := ""
	for range count {
		text += m.statement(deep) + " ; "
	}
	return text
}

func (m *programMaker) statement(deep int) string {
	choice := m.less(6)
	if deep == 0 {
		choice = m.less(3)
	}
	name := m.one("a b cc d_e x")
	switch choice {
	case 0:
		return name + " := " + m.expression(4)
	case 1:
		return name + " [ " + m.expression(2) + " ] := " + m.expression(3)
	case 2:
		text := m.one("ctu ton rtrig sr") + " " + name + " ( " + m.expression(2)
		for range m.less(3) {
			text += " , " + m.expression(2)
		}
		return text + " )"
	case 3:
		return "for " + name + " := " + m.one("0 1 65535 16#A") + " to " + m.one("0 3 16#FFFF") + " do " + m.list(m.less(3), deep-1) + "end"
	case 4:
		return "if " + m.expression(3) + " then " + m.list(m.less(3), deep-1) + "else " + m.list(m.less(3), deep-1) + "end"
	}
	return "if " + m.expression(3) + " then " + m.list(m.less(3), deep-1) + "end"
}

// Brackets are left out as often as not, so that what binds is seen.
func (m *programMaker) expression(deep int) string {
	choice := m.less(10)
	if deep == 0 {
		choice = m.less(3)
	}
	switch choice {
	case 0:
		return m.one("0 1 7 65535 16#FF true false")
	case 1, 2:
		return m.one("a b cc d_e x")
	case 3:
		return m.one("a b") + " [ " + m.expression(deep-1) + " ]"
	case 4:
		return m.one("- not") + " " + m.expression(deep-1)
	case 5:
		return "( " + m.expression(deep-1) + " )"
	}
	return m.expression(deep-1) + " " + m.one("+ - * / mod and or xor = < + - * / <> > <= >=") + " " + m.expression(deep-1)
}
