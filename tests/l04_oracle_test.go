package tests

import (
	"fmt"
	"math"
	"slices"
	"strings"

	"loop.example/g00303/impl"
)

// plainTable tells the table of a program that is right, each expression's
// codes as a list of its own that is laid behind the one ahead.
func plainTable(p impl.Program) impl.Table {
	var t impl.Table
	for _, e := range p.Bodies {
		t.Tops = append(t.Tops, len(t.Codes))
		t.Codes = append(t.Codes, plainCodes(e, len(t.Codes))...)
	}
	return t
}

func plainCodes(e impl.Exp, number int) []impl.Code {
	list := []impl.Code{{Kind: e.Kind, N: e.N, Text: e.Text}}
	for _, kid := range e.Kids {
		at := number + len(list)
		list[0].Kids = append(list[0].Kids, at)
		list = append(list, plainCodes(kid, at)...)
	}
	return list
}

// plainTableOk goes by Kids from the tops on, and asks of each code what a
// right program has there.
func plainTableOk(t impl.Table) bool {
	if len(t.Tops) < 1 || len(t.Tops) > 30 {
		return false
	}
	next := 0
	for _, top := range t.Tops {
		if top != next {
			return false
		}
		if next = plainCodeEnd(t, top, 0, 0); next < 0 {
			return false
		}
	}
	return next == len(t.Codes)
}

// plainCodeEnd tells the number behind all codes within the one that is
// numbered at; -1 where it is not right.
func plainCodeEnd(t impl.Table, at int, scope int, deep int) int {
	if at < 0 || at >= len(t.Codes) || deep > 60 || scope > 90 || !plainFieldsOk(t, t.Codes[at], scope) {
		return -1
	}
	code := t.Codes[at]
	next := at + 1
	for i, kid := range code.Kids {
		names := 0
		switch {
		case code.Kind == impl.ExLam:
			names = code.N
		case code.Kind == impl.ExLet:
			names = 1
		case code.Kind == impl.ExCase && i == 2:
			names = 2
		}
		if kid != next {
			return -1
		}
		if next = plainCodeEnd(t, kid, scope+names, deep+1); next < 0 {
			return -1
		}
		first := t.Codes[kid].Kind
		if code.Kind == impl.ExPar && i == 0 && first != impl.ExVar && first != impl.ExTop {
			return -1
		}
	}
	return next
}

func plainFieldsOk(t impl.Table, code impl.Code, scope int) bool {
	if code.Kind < 0 || code.Kind >= len(kidsOfKind) || len(code.Kids) != kidsOfKind[code.Kind] {
		return false
	}
	signs := []string{""}
	if code.Kind == impl.ExOp {
		signs = []string{"==", "<", "+", "-", "*"}
	}
	least, most := 0, 0
	switch code.Kind {
	case impl.ExNum:
		most = 999999999
	case impl.ExVar:
		most = scope - 1
	case impl.ExTop:
		most = len(t.Tops) - 1
	case impl.ExLam:
		least, most = 1, 6
	}
	return slices.Contains(signs, code.Text) && least <= code.N && code.N <= most
}

// plainPut tells what PutTable has to of a table that is right.
func plainPut(t impl.Table) string {
	text := ""
	for _, code := range t.Codes {
		shown := code.Text
		if len(shown) == 0 {
			shown = "-"
		}
		text += strings.TrimRight(fmt.Sprintf("%d %d %s %s", code.Kind, code.N, shown, strings.Trim(fmt.Sprint(code.Kids), "[]")), " ") + "\n"
	}
	return text + "top " + strings.Trim(fmt.Sprint(t.Tops), "[]") + "\n"
}

// copyTable shares no memory with t, and has no spare room.
func copyTable(t impl.Table) impl.Table {
	u := impl.Table{Tops: append([]int(nil), t.Tops...)}
	for _, code := range t.Codes {
		code.Text = strings.Clone(code.Text)
		code.Kids = append([]int(nil), code.Kids...)
		u.Codes = append(u.Codes, code)
	}
	return u
}

// changedTables has one field alone changed in each: of every code Kind, N,
// Text, each of Kids and how many of these there are; each of Tops and how many
// of these there are; and how many codes there are.
func changedTables(t impl.Table) []impl.Table {
	var all []impl.Table
	change := func(do func(u *impl.Table)) {
		u := copyTable(t)
		do(&u)
		all = append(all, u)
	}
	for i, code := range t.Codes {
		for kind := -1; kind <= len(kidsOfKind); kind++ {
			change(func(u *impl.Table) { u.Codes[i].Kind = kind })
		}
		for _, n := range []int{math.MinInt, -1, 0, 1, 6, 7, code.N - 1, code.N + 1, 999999999, 1000000000, math.MaxInt} {
			change(func(u *impl.Table) { u.Codes[i].N = n })
		}
		for _, text := range []string{"", "==", "<", "+", "-", "*", "=", "- ", "\x00"} {
			change(func(u *impl.Table) { u.Codes[i].Text = text })
		}
		for _, kids := range changedLists(code.Kids, len(t.Codes)) {
			change(func(u *impl.Table) { u.Codes[i].Kids = kids })
		}
		change(func(u *impl.Table) { u.Codes = slices.Delete(u.Codes, i, i+1) })
		change(func(u *impl.Table) { u.Codes = slices.Insert(u.Codes, i, impl.Code{}) })
		change(func(u *impl.Table) { u.Codes[0], u.Codes[i] = u.Codes[i], u.Codes[0] })
	}
	for _, tops := range changedLists(t.Tops, len(t.Codes)) {
		change(func(u *impl.Table) { u.Tops = tops })
	}
	change(func(u *impl.Table) { u.Codes = nil })
	change(func(u *impl.Table) { u.Codes = append(u.Codes, impl.Code{}) })
	change(func(u *impl.Table) { u.Codes = append(u.Codes, u.Codes...) })
	return all
}

// brief tells the beginning of what may be long, for a test that fails.
func brief(what any) string { return fmt.Sprintf("%.1500s", fmt.Sprint(what)) }

func changedLists(list []int, codes int) [][]int {
	all := [][]int{nil, append(slices.Clone(list), codes), append(slices.Clone(list), codes-1), append([]int{0}, list...), append(slices.Clone(list), list...)}
	for i, n := range list {
		for _, other := range []int{math.MinInt, -1, 0, n - 1, n + 1, list[0], list[len(list)-1], codes - 1, codes, codes + 1, math.MaxInt} {
			changed := slices.Clone(list)
			changed[i] = other
			all = append(all, changed)
		}
		all = append(all, slices.Delete(slices.Clone(list), i, i+1))
		turned := slices.Clone(list)
		turned[0], turned[i] = turned[i], turned[0]
		all = append(all, turned)
	}
	return all
}
