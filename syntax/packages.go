package syntax

import "ratchet/api"

func (c *checker) errorOfPackage(p api.Package) api.Errno {
	switch {
	case !c.isCapital(p.Name):
		return api.ErrName
	case areMany(len(p.Imports), len(p.Data), len(p.Functions), len(p.Modules)):
		return api.ErrLarge
	}
	return firstError(
		firstWrong(p.Imports, c.errorOfCapital),
		firstWrong(p.Data, c.errorOfData),
		firstWrong(p.Functions, c.errorOfFunction),
		firstWrong(p.Modules, c.errorOfModule),
	)
}

func (c *checker) errorOfData(d api.Data) api.Errno {
	switch {
	case !c.isCapital(d.Name):
		return api.ErrName
	case areMany(len(d.Params), len(d.Constructors)):
		return api.ErrLarge
	case len(d.Constructors) == 0:
		return api.ErrShape
	}
	return firstError(firstWrong(d.Params, c.errorOfName), firstWrong(d.Constructors, c.errorOfConstructor))
}

func (c *checker) errorOfConstructor(made api.Constructor) api.Errno {
	switch {
	case !c.isCapital(made.Name):
		return api.ErrName
	case areMany(len(made.Fields)):
		return api.ErrLarge
	}
	return firstWrong(made.Fields, c.errorOfField)
}

func (c *checker) errorOfField(f api.Field) api.Errno {
	return firstError(c.errorOfName(f.Name), errorOfTree(c.typeNode(f.Type)))
}

func (c *checker) errorOfFunction(f api.Function) api.Errno {
	if e := c.errorOfName(f.Name); e != api.OK {
		return e
	}
	if !isOpen(f.Type) {
		if e := errorOfTree(c.typeNode(f.Type)); e != api.OK {
			return e
		}
	}
	return errorOfTree(c.termNode(f.Term))
}

func (c *checker) errorOfModule(m api.ModuleText) api.Errno {
	switch {
	case !c.isCapital(m.Name):
		return api.ErrName
	case areMany(len(m.Params), len(m.Body)):
		return api.ErrLarge
	}
	return firstError(
		firstWrong(m.Params, c.errorOfName),
		firstWrong(m.Body, func(s api.Statement) api.Errno { return errorOfTree(c.statementNode(s)) }),
	)
}

func (c *checker) errorOfName(s string) api.Errno { return errorIf(!c.isName(s), api.ErrName) }

func (c *checker) errorOfCapital(s string) api.Errno { return errorIf(!c.isCapital(s), api.ErrName) }

// areMany says whether one of some numbers of items is too large.
func areMany(counts ...int) bool {
	for _, count := range counts {
		if count > api.MaxSyntaxItems {
			return true
		}
	}
	return false
}
