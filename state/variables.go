package state

import (
	"slices"

	"plumbline/api"
)

// variables are what a program declares; all states of it share them.
type variables struct {
	decls  []api.Decl
	places map[int]int // in an octagon, of ints that are no arrays, by their numbers
}

// variablesOf gives the first ints places, as many as an octagon has: of the others just ranges are known.
func variablesOf(decls []api.Decl) *variables {
	vars := &variables{decls: decls, places: make(map[int]int)}
	for v := range decls {
		if vars.isSingleInt(v) && len(vars.places) < api.MaxInts {
			vars.places[v] = len(vars.places)
		}
	}
	return vars
}

func (vars *variables) isVar(v int) bool {
	return v >= 0 && v < len(vars.decls)
}

func (vars *variables) isInt(v int) bool {
	return vars.isVar(v) && vars.decls[v].Type == api.IntType
}

func (vars *variables) isFloat(v int) bool {
	return vars.isVar(v) && vars.decls[v].Type != api.IntType
}

// isSingleInt tells whether it is an int that is no array.
func (vars *variables) isSingleInt(v int) bool {
	return vars.isInt(v) && vars.decls[v].Cells == 0
}

// hasOthers tells whether beside a cell of it there are others.
func (vars *variables) hasOthers(v int) bool {
	return vars.decls[v].Cells > 1
}

// format is that of a variable's floats.
func (vars *variables) format(v int) api.Format {
	if vars.decls[v].Type == api.FloatType {
		return api.Single
	}
	return api.Double
}

// placesOf are those of two variables; false, unless both have one.
func (vars *variables) placesOf(v, w int) (i, k int, ok bool) {
	i, first := vars.places[v]
	k, second := vars.places[w]
	return i, k, first && second
}

func (vars *variables) areAlike(others *variables) bool {
	return slices.Equal(vars.decls, others.decls)
}
