package fcheck

import "plumbline/api"

// names are what is declared.
type names struct {
	declared map[string]variable
}

// variable is a declaration, and its number.
type variable struct {
	api.Decl
	number int
}

// namesOf is what declarations declare; ErrKnown, if one does it twice.
func namesOf(decls []api.Decl) (names, api.Errno) {
	n := names{declared: make(map[string]variable, len(decls))}
	for i, d := range decls {
		if _, known := n.declared[d.Name]; known {
			return names{}, api.ErrKnown
		}
		n.declared[d.Name] = variable{Decl: d, number: i}
	}
	return n, api.OK
}

func (n names) place(name string) (int, bool) {
	v, known := n.declared[name]
	return v.number, known
}

// typeUsed is the type of a variable that is used as an array (with an index), or as none.
func (n names) typeUsed(name string, array bool) (api.Type, api.Errno) {
	v, known := n.declared[name]
	if !known {
		return api.NoType, api.ErrName
	}
	if (v.Cells > 0) != array {
		return api.NoType, api.ErrType
	}
	return v.Type, api.OK
}
