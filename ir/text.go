package ir

import (
	"strconv"
	"strings"

	"proctor/api"
)

// putLine puts a line of words behind a text.
type putLine func(words ...string)

// Text is a program's text, or ErrArg.
func Text(p api.Prog) (string, api.Errno) {
	if !May(p) {
		return "", api.ErrArg
	}
	var text strings.Builder
	put := func(words ...string) {
		text.WriteString(strings.Join(words, " "))
		text.WriteByte('\n')
	}
	put("data", strconv.Itoa(p.Data))
	for _, f := range p.Funcs {
		put("func", strconv.Itoa(f.Params), strconv.Itoa(f.Vars))
		putAll(f.Body, put)
		put("end")
	}
	return text.String(), api.OK
}

// putAll puts the lines of statements that may be.
func putAll(list []api.Stmt, put putLine) {
	for _, s := range list {
		putStmt(s, put)
	}
}

func putStmt(s api.Stmt, put putLine) {
	args := exprTexts(s.Args)
	switch s.Kind {
	case api.SSet:
		put(varText(s.V), "=", args[0])
	case api.SStore:
		put("[", args[0], "]", "=", args[1])
	case api.SIf:
		put("if", args[0])
		putAll(s.Then, put)
		put("else")
		putAll(s.Else, put)
		put("end")
	case api.SWhile:
		put("while", args[0])
		putAll(s.Then, put)
		put("end")
	case api.SReturn:
		put("return", args[0])
	case api.SCall:
		put(callWords(s, args)...)
	case api.SHash:
		put("hash", strconv.Itoa(s.Tag), args[0], args[1], args[2])
	case api.SPre:
		put(varText(s.V), "=", "pre", args[0], args[1])
	case api.SPlen:
		put(varText(s.V), "=", "plen", args[0])
	}
}

// callWords are the words of a call, of which there are fewer if it has no arguments: an empty one would leave two blanks.
func callWords(s api.Stmt, args []string) []string {
	words := []string{varText(s.V), "=", "f" + strconv.Itoa(s.F), "("}
	for i, arg := range args {
		if i > 0 {
			words = append(words, ",")
		}
		words = append(words, arg)
	}
	return append(words, ")")
}

func exprTexts(list []api.Expr) []string {
	var texts []string
	for _, x := range list {
		texts = append(texts, exprText(x))
	}
	return texts
}

// exprText is the text of an expression that may be.
func exprText(x api.Expr) string {
	parts := exprTexts(x.L)
	switch x.Kind {
	case api.EConst:
		return strconv.FormatUint(x.N, 10)
	case api.EVar:
		return varText(x.V)
	case api.EBin:
		return "( " + parts[0] + " " + sign(x.Op) + " " + parts[1] + " )"
	case api.ELoad:
		return "[ " + parts[0] + " ]"
	}
	return ""
}

func varText(v int) string { return "v" + strconv.Itoa(v) }

// sign is the sign of an Op from ADD to EQ.
func sign(op api.Op) string {
	signs := [...]string{"+", "-", "*", "/", "%", "&", "!", "^", "<<", ">>", "<", "=="}
	return signs[op-api.ADD]
}
