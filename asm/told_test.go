package asm_test

import (
	"math/big"
	"regexp"
	"slices"
	"strings"
	"unicode/utf8"

	"tandem/api"
	"tandem/asm"
)

// The chapter's words a second time: tokens by regular expressions, expressions as function literals over big numbers, a fault as a panic, each pass reading the source anew.

type toldToken struct {
	kind string // name, @, ., number, char, text, sign, end
	text string
	col  int
	n    *big.Int
}

type toldEnv struct {
	names   map[string]*big.Int // local ones as "stretch@name"
	chars   map[rune]int
	stretch string
	here    int // below 0: none
}

type toldValue func(*toldEnv) *big.Int

type toldExpr struct {
	value toldValue
	col   int
	wide  bool
}

func toldFail(col int, err error) { panic(asm.Fault{Col: col, Err: err}) }

var (
	toldWord   = regexp.MustCompile(`^([@.]?)\w+`)
	toldNumber = regexp.MustCompile(`^(?:[0-9]\w*|[$%]\w*)`)
	toldDigits = regexp.MustCompile(`^(?:[0-9]+|\$[0-9A-Fa-f]+|%[01]+)$`)
	toldSign   = regexp.MustCompile(`^(?:<<|>>|[-#(),:=+*/&|^~<>])`)
	toldLow    = big.NewInt(-1 << 31)
	toldHigh   = big.NewInt(1<<31 - 1)
)

func toldIn(v *big.Int, low, high int64) bool {
	return v.Cmp(big.NewInt(low)) >= 0 && v.Cmp(big.NewInt(high)) <= 0
}

func toldCut(line string) []toldToken {
	var list []toldToken
	for at := 0; at < len(line); {
		rest, col := line[at:], at+1
		if strings.TrimLeft(rest[:1], " \t") == "" {
			at++
			continue
		}
		if rest[0] == ';' {
			break
		}
		t := toldOne(rest, col)
		list = append(list, t)
		at += len(t.text)
	}
	return list
}

func toldOne(rest string, col int) toldToken {
	if s := toldNumber.FindString(rest); s != "" {
		if !toldDigits.MatchString(s) {
			toldFail(col, asm.ErrToken)
		}
		n, _ := new(big.Int).SetString(strings.TrimLeft(s, "$%"), map[byte]int{'$': 16, '%': 2}[s[0]]+10*boolInt(s[0] != '$' && s[0] != '%'))
		if n.Cmp(toldHigh) > 0 {
			toldFail(col, asm.ErrRange)
		}
		return toldToken{"number", s, col, n}
	}
	if m := toldWord.FindStringSubmatch(rest); m != nil {
		if len(m[0]) > 32 {
			toldFail(col, asm.ErrName)
		}
		return toldToken{map[string]string{"": "name", "@": "@", ".": "."}[m[1]], m[0], col, nil}
	}
	if s := toldSign.FindString(rest); s != "" {
		return toldToken{"sign", s, col, nil}
	}
	if rest[0] != '\'' && rest[0] != '"' {
		toldFail(col, asm.ErrToken)
	}
	for n, at := 0, 1; ; n++ {
		if at == len(rest) {
			toldFail(col, asm.ErrToken)
		}
		if rest[0] == '"' && rest[at] == '"' {
			return toldToken{"text", rest[:at+1], col, nil}
		}
		if rest[0] == '\'' && n == 1 {
			if rest[at] != '\'' {
				toldFail(col, asm.ErrToken)
			}
			return toldToken{"char", rest[:at+1], col, nil}
		}
		size := 1
		for size <= 4 && at+size <= len(rest) && !utf8.ValidString(rest[at:at+size]) {
			size++
		}
		if size > 4 || at+size > len(rest) {
			toldFail(col+at, asm.ErrToken)
		}
		at += size
	}
}

// toldReader takes tokens from a list's head.
type toldReader struct {
	list []toldToken
	end  int
	deep int
}

func toldRead(list []toldToken) *toldReader {
	r := &toldReader{list: list, end: 1}
	if n := len(list); n > 0 {
		r.end = list[n-1].col + len(list[n-1].text)
	}
	return r
}

func (r *toldReader) peek() toldToken {
	if len(r.list) == 0 {
		return toldToken{"end", "", r.end, nil}
	}
	return r.list[0]
}

func (r *toldReader) take() toldToken {
	t := r.peek()
	if len(r.list) > 0 {
		r.list = r.list[1:]
	}
	return t
}

func (r *toldReader) is(texts string) bool { return among(r.peek().text, texts) }

func (r *toldReader) need(texts string) toldToken {
	if !r.is(texts) {
		toldFail(r.peek().col, asm.ErrToken)
	}
	return r.take()
}

func (r *toldReader) stop() {
	if t := r.peek(); t.kind != "end" {
		toldFail(t.col, asm.ErrToken)
	}
}

// among tells whether a word is one of a list's.
func among(word, list string) bool { return slices.Contains(strings.Fields(list), word) }

func (r *toldReader) expr() toldExpr {
	e := toldExpr{col: r.peek().col}
	e.value = r.level(0, &e.wide)
	return e
}

var toldRows = []string{"|", "^", "&", "<< >>", "+ -", "* /"}

func (r *toldReader) level(n int, wide *bool) toldValue {
	if n == len(toldRows) {
		return r.leaf(wide)
	}
	left := r.level(n+1, wide)
	for r.is(toldRows[n]) {
		sign := r.take()
		a, b := left, r.level(n+1, wide)
		left = func(env *toldEnv) *big.Int {
			x := a(env)
			return toldTwo(sign, x, b(env))
		}
	}
	return left
}

func toldBound(v *big.Int, col int) *big.Int {
	if v.Cmp(toldLow) < 0 || v.Cmp(toldHigh) > 0 {
		toldFail(col, asm.ErrRange)
	}
	return v
}

func toldTwo(sign toldToken, x, y *big.Int) *big.Int {
	z := new(big.Int)
	if among(sign.text, "<< >>") && !toldIn(y, 0, 31) || sign.text == "/" && y.Sign() == 0 {
		toldFail(sign.col, asm.ErrRange)
	}
	power := func() *big.Int { return new(big.Int).Exp(big.NewInt(2), y, nil) }
	switch sign.text {
	case "|":
		z.Or(x, y)
	case "^":
		z.Xor(x, y)
	case "&":
		z.And(x, y)
	case "<<":
		z.Mul(x, power())
	case ">>":
		z.Div(x, power()) // which cuts downwards
	case "+":
		z.Add(x, y)
	case "-":
		z.Sub(x, y)
	case "*":
		z.Mul(x, y)
	case "/":
		z.Quo(x, y)
	}
	return toldBound(z, sign.col)
}

func (r *toldReader) leaf(wide *bool) toldValue {
	if r.is("- ~ < > (") {
		if r.deep == 64 {
			toldFail(r.peek().col, asm.ErrDeep)
		}
		r.deep++
		defer func() { r.deep-- }()
		sign := r.take()
		if sign.text == "(" {
			v := r.level(0, wide)
			r.need(")")
			return v
		}
		inner := r.leaf(wide)
		return func(env *toldEnv) *big.Int { return toldOneSign(sign, inner(env)) }
	}
	t := r.peek()
	switch {
	case t.kind == "number":
		*wide = *wide || t.text[0] == '$' && len(t.text) > 3
	case t.kind == "char", t.kind == "@", t.text == "*", t.kind == "name" && !among(t.text, "A X Y a x y"):
	default:
		toldFail(t.col, asm.ErrToken)
	}
	r.take()
	return func(env *toldEnv) *big.Int { return env.leaf(t) }
}

func toldOneSign(sign toldToken, v *big.Int) *big.Int {
	two56 := big.NewInt(256)
	switch sign.text {
	case "-":
		return toldBound(new(big.Int).Neg(v), sign.col)
	case "~":
		return new(big.Int).Not(v)
	case ">":
		v = new(big.Int).Div(v, two56)
	}
	return new(big.Int).Mod(v, two56)
}

func (env *toldEnv) leaf(t toldToken) *big.Int {
	switch t.kind {
	case "number":
		return t.n
	case "char":
		r, _ := utf8.DecodeRuneInString(t.text[1:])
		return big.NewInt(int64(env.char(r, t.col)))
	case "sign":
		if env.here < 0 {
			toldFail(t.col, asm.ErrUnknown)
		}
		return big.NewInt(int64(env.here))
	}
	v := env.names[env.full(t)]
	if v == nil {
		toldFail(t.col, asm.ErrUnknown)
	}
	return toldBound(v, t.col)
}

func (env *toldEnv) char(r rune, col int) int {
	v, ok := env.chars[r]
	if !ok && r >= 128 {
		toldFail(col, asm.ErrRange)
	}
	if !ok {
		v = int(r)
	}
	return v
}

func (env *toldEnv) full(t toldToken) string {
	if t.kind == "@" {
		return env.stretch + t.text
	}
	return t.text
}

func (env *toldEnv) in(e toldExpr, low, high int64) int {
	v := e.value(env)
	if !toldIn(v, low, high) {
		toldFail(e.col, asm.ErrRange)
	}
	return int(v.Int64())
}

// toldCatch is what a function panics with.
func toldCatch(f func()) (fault *asm.Fault) {
	defer func() {
		if x := recover(); x != nil {
			told, ok := x.(asm.Fault)
			if !ok {
				panic(x)
			}
			fault = &told
		}
	}()
	f()
	return nil
}

func toldEval(text string, syms []api.Sym) (v int, fault *asm.Fault) {
	if len(text) > 65536 {
		return 0, &asm.Fault{Line: 1, Col: 1, Err: asm.ErrSize}
	}
	fault = toldCatch(func() {
		r := toldRead(toldCut(text))
		e := r.expr()
		r.stop()
		env := &toldEnv{names: map[string]*big.Int{}, here: -1}
		for _, s := range slices.Backward(syms) {
			env.names[s.Name] = big.NewInt(int64(s.Value))
		}
		v = int(e.value(env).Int64())
	})
	if fault != nil {
		fault.Line = 1
	}
	return v, fault
}

// toldMachine is a source on its way.
type toldMachine struct {
	toldEnv
	second bool
	modes  map[int]api.Mode // by lines, as the first pass has settled them
	all    map[string]*big.Int
	bank   int
	places map[[2]int]bool
	ifs    []*toldIf
	obj    api.Object
	cut    bool // the next byte begins a segment
}

type toldIf struct {
	line, col    int
	live, turned bool
	dead         int
}

func toldAssemble(src string) (api.Object, *asm.Fault) {
	if len(src) > 65536 {
		return api.Object{}, &asm.Fault{Line: 1, Col: 1, Err: asm.ErrSize}
	}
	first := &toldMachine{modes: map[int]api.Mode{}}
	if f := first.pass(src); f != nil {
		return api.Object{}, f
	}
	if n := len(first.ifs); n > 0 {
		return api.Object{}, &asm.Fault{Line: first.ifs[n-1].line, Col: first.ifs[n-1].col, Err: asm.ErrDirective}
	}
	last := &toldMachine{second: true, modes: first.modes, all: first.names}
	if f := last.pass(src); f != nil {
		return api.Object{}, f
	}
	for name, v := range last.names {
		if !strings.Contains(name, "@") {
			last.obj.Syms = append(last.obj.Syms, api.Sym{Name: name, Value: int(v.Int64())})
		}
	}
	slices.SortFunc(last.obj.Syms, func(a, b api.Sym) int { return strings.Compare(a.Name, b.Name) })
	return last.obj, nil
}

func (m *toldMachine) pass(src string) *asm.Fault {
	m.names, m.chars, m.places, m.cut, m.obj.Head.Prg = map[string]*big.Int{}, map[rune]int{}, map[[2]int]bool{}, true, 1
	for i, line := range strings.Split(src, "\n") {
		line = strings.TrimSuffix(line, "\r")
		if m.passedOver(line) {
			continue
		}
		if f := toldCatch(func() { m.line(line, i+1) }); f != nil {
			f.Line = i + 1
			return f
		}
	}
	return nil
}

var toldFirst = regexp.MustCompile(`^[ \t]*(?i:\.(if|else|endif))(?:\W|$)`)

func (m *toldMachine) passedOver(line string) bool {
	if len(m.ifs) == 0 || m.ifs[len(m.ifs)-1].live {
		return false
	}
	top := m.ifs[len(m.ifs)-1]
	word := ""
	if f := toldFirst.FindStringSubmatch(line); f != nil {
		word = strings.ToLower(f[1])
	}
	switch {
	case word == "if":
		top.dead++
	case word == "endif" && top.dead > 0:
		top.dead--
	case word != "" && top.dead == 0:
		return false
	}
	return true
}
