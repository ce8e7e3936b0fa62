package syntax

import "ratchet/api"

// statementForm is the kind of the statements that begin with a keyword, and how such a statement is read after it.
type statementForm struct {
	kind int
	read func(r *reader, s *api.Statement)
}

func statementForms() map[string]statementForm {
	return map[string]statementForm{
		"reg":    {api.StateRegister, (*reader).element},
		"wire":   {api.StateWire, (*reader).element},
		"input":  {api.StateInput, (*reader).input},
		"output": {api.StateOutput, (*reader).equation},
		"inst":   {api.StateInstance, (*reader).instance},
		"rule":   {api.StateRule, (*reader).rule},
		"method": {api.StateMethod, (*reader).method},
		"let":    {api.StateLet, (*reader).equation},
		"for":    {api.StateFor, (*reader).loop},
		"if":     {api.StateWhen, (*reader).when},
	}
}

func (r *reader) statement() api.Statement {
	first := r.current()
	s := api.Statement{At: first.At}
	if first.Kind == api.LexerName {
		r.action(&s)
		return s
	}
	form, known := r.statements[first.Text]
	if !known {
		panic(r.failure())
	}
	r.next++
	s.Kind = form.kind
	form.read(r, &s)
	return s
}

// action is a write or a call, which have no keyword.
func (r *reader) action(s *api.Statement) {
	s.Name = r.name()
	if r.accepts(".") {
		s.Kind = api.StateCall
		s.Other = r.name()
		s.Terms = parameters(r, r.term)
	} else {
		r.expect("<=")
		s.Kind = api.StateWrite
		s.Terms = []api.Term{r.term()}
	}
	r.expect(";")
}

func (r *reader) element(s *api.Statement) {
	r.declare(s)
	r.define(s)
}

func (r *reader) input(s *api.Statement) {
	r.declare(s)
	r.expect(";")
}

func (r *reader) equation(s *api.Statement) {
	s.Name = r.name()
	r.define(s)
}

// declare reads a name with its type.
func (r *reader) declare(s *api.Statement) {
	declared := r.field()
	s.Name, s.Type = declared.Name, declared.Type
}

// define reads the term that belongs to a name.
func (r *reader) define(s *api.Statement) {
	r.expect("=")
	s.Terms = []api.Term{r.term()}
	r.expect(";")
}

func (r *reader) instance(s *api.Statement) {
	s.Name = r.name()
	r.expect("=")
	s.Other = r.capital()
	s.Terms = parameters(r, r.term)
	r.expect(";")
}

func (r *reader) rule(s *api.Statement) {
	s.Name = r.name()
	r.expect("when")
	s.Terms = []api.Term{r.term()}
	s.Body = r.body()
}

func (r *reader) method(s *api.Statement) {
	s.Name = r.name()
	s.Params = parameters(r, r.field)
	s.Type = r.openOr()
	r.expect("when")
	ready := r.term()
	s.Terms = []api.Term{ready, noTerm()}
	// A value stands exactly where a type does.
	if !isOpen(s.Type) {
		r.expect("=")
		s.Terms[1] = r.term()
	}
	s.Body = r.body()
}

func (r *reader) loop(s *api.Statement) {
	s.Name = r.name()
	r.expect("in")
	first := r.term()
	r.expect("..")
	s.Terms = []api.Term{first, r.term()}
	s.Body = r.body()
}

func (r *reader) when(s *api.Statement) {
	s.Terms = []api.Term{r.term()}
	s.Body = r.body()
	if r.accepts("else") {
		s.Else = r.body()
	}
}

func (r *reader) body() []api.Statement {
	r.expect("{")
	return until(r, "}", r.statement)
}
