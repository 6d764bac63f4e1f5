// Package named: places of tables, columns and indexes by their names, which several layers have in common; below 0, if none has a name.
package named

import (
	"slices"

	"overhaul/api"
)

// Table with a name.
func Table(l []api.Table, name string) int {
	return slices.IndexFunc(l, func(t api.Table) bool { return t.Name == name })
}

// Column with a name.
func Column(l []api.Column, name string) int {
	return slices.IndexFunc(l, func(c api.Column) bool { return c.Name == name })
}

// Index with a name.
func Index(l []api.Index, name string) int {
	return slices.IndexFunc(l, func(x api.Index) bool { return x.Name == name })
}
