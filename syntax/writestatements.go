package syntax

import (
	"iter"

	"ratchet/api"
)

func (w writer) statement(s api.Statement) string {
	switch s.Kind {
	case api.StateRegister:
		return "reg " + declared(s) + w.defined(s)
	case api.StateWire:
		return "wire " + declared(s) + w.defined(s)
	case api.StateInput:
		return "input " + declared(s) + ";"
	case api.StateOutput:
		return "output " + s.Name + w.defined(s)
	case api.StateInstance:
		return "inst " + s.Name + " = " + s.Other + parametersText(s.Terms, w.term) + ";"
	case api.StateRule:
		return "rule " + s.Name + " when " + w.term(s.Terms[0]) + " " + w.body(s.Body)
	case api.StateMethod:
		return w.method(s)
	case api.StateLet:
		return "let " + s.Name + w.defined(s)
	case api.StateFor:
		return "for " + s.Name + " in " + w.term(s.Terms[0]) + " .. " + w.term(s.Terms[1]) + " " + w.body(s.Body)
	case api.StateWhen:
		return w.when(s)
	case api.StateWrite:
		return s.Name + " <= " + w.term(s.Terms[0]) + ";"
	}
	return s.Name + "." + s.Other + parametersText(s.Terms, w.term) + ";"
}

// declared is the text of a name with its type.
func declared(s api.Statement) string { return fieldText(api.Field{Name: s.Name, Type: s.Type}) }

// defined is the text of the term that belongs to a name, up to the end.
func (w writer) defined(s api.Statement) string { return " = " + w.term(s.Terms[0]) + ";" }

func (w writer) method(s api.Statement) string {
	value := ""
	if !isOpen(s.Type) {
		value = " = " + w.term(s.Terms[1])
	}
	return "method " + s.Name + parametersText(s.Params, fieldText) + typedText(s.Type) + " when " + w.term(s.Terms[0]) + value + " " + w.body(s.Body)
}

func (w writer) when(s api.Statement) string {
	text := "if " + w.term(s.Terms[0]) + " " + w.body(s.Body)
	if len(s.Else) == 0 {
		return text
	}
	return text + " else " + w.body(s.Else)
}

func (w writer) body(list []api.Statement) string {
	text := "{ "
	for _, s := range list {
		text += w.statement(s) + " "
	}
	return text + "}"
}

func (w writer) pack(p api.Package) string {
	text := "package " + p.Name + " { "
	for item := range w.items(p) {
		text += item + " "
		// What is too large already need not be written to its end.
		if len(text) > api.MaxString {
			break
		}
	}
	return text + "}"
}

// items are the texts of all that stands in a package.
func (w writer) items(p api.Package) iter.Seq[string] {
	return chained(each(p.Imports, importText), each(p.Data, dataText), each(p.Functions, w.function), each(p.Modules, w.module))
}

func importText(name string) string { return "import " + name + ";" }

func dataText(d api.Data) string {
	text := "data " + d.Name
	for _, name := range d.Params {
		text += " " + name
	}
	return text + " = " + joined(d.Constructors, " | ", constructorText) + ";"
}

func constructorText(c api.Constructor) string {
	if len(c.Fields) == 0 {
		return c.Name
	}
	return c.Name + " { " + joined(c.Fields, ", ", fieldText) + " }"
}

func (w writer) function(f api.Function) string {
	return "def " + f.Name + typedText(f.Type) + " = " + w.term(f.Term) + ";"
}

func (w writer) module(m api.ModuleText) string {
	names := parametersText(m.Params, func(name string) string { return name })
	return "module " + m.Name + names + " " + w.body(m.Body)
}

func fieldText(f api.Field) string { return f.Name + " : " + typeText(f.Type) }

// typedText is the text of a type after a name, which is nothing if it is open.
func typedText(t api.Type) string {
	if isOpen(t) {
		return ""
	}
	return " : " + typeText(t)
}

// parametersText is the text of a list in parentheses, which stand also if it is empty.
func parametersText[T any](items []T, textOf func(item T) string) string {
	return "(" + joined(items, ", ", textOf) + ")"
}
