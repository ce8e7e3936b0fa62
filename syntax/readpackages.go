package syntax

import "ratchet/api"

func (r *reader) pack() api.Package {
	r.expect("package")
	p := api.Package{Name: r.capital()}
	r.expect("{")
	for r.accepts("import") {
		name := r.capital()
		r.expect(";")
		p.Imports = append(p.Imports, name)
	}
	for !r.accepts("}") {
		r.item(&p)
	}
	return p
}

// item adds one to a package.
func (r *reader) item(p *api.Package) {
	switch {
	case r.accepts("data"):
		p.Data = append(p.Data, r.data())
	case r.accepts("def"):
		p.Functions = append(p.Functions, r.function())
	case r.accepts("module"):
		p.Modules = append(p.Modules, r.module())
	default:
		panic(r.failure())
	}
}

func (r *reader) data() api.Data {
	d := api.Data{Name: r.capital()}
	d.Params = until(r, "=", r.name)
	d.Constructors = separated(r, "|", r.constructor)
	r.expect(";")
	return d
}

func (r *reader) constructor() api.Constructor {
	c := api.Constructor{Name: r.capital()}
	if r.accepts("{") {
		c.Fields = enclosed(r, "}", r.field)
	}
	return c
}

func (r *reader) function() api.Function {
	f := api.Function{Name: r.name()}
	f.Type = r.openOr()
	r.expect("=")
	f.Term = r.term()
	r.expect(";")
	return f
}

func (r *reader) module() api.ModuleText {
	m := api.ModuleText{Name: r.capital()}
	m.Params = parameters(r, r.name)
	m.Body = r.body()
	return m
}
