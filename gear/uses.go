package gear

import (
	"slices"

	"harrier/api"
	"harrier/quant"
)

func isNamed(name string) func(api.Use) bool {
	return func(u api.Use) bool { return u.Name == name }
}

// Add adds a use.
func Add(g api.Garage, u api.Use) (api.Garage, api.Errno) {
	if e := Check(g); e != api.OK {
		return api.Garage{}, e
	}
	if e := checkUse(u, slices.ContainsFunc(g.Uses, isNamed(u.Name))); e != api.OK {
		return api.Garage{}, e
	}
	if len(g.Uses) == MaxUses {
		return api.Garage{}, api.ErrSize
	}
	g = clone(g)
	g.Uses = inOrder(append(g.Uses, u), useRank)
	return g, api.OK
}

// Drop takes the use with a name away.
func Drop(g api.Garage, name string) (api.Garage, api.Errno) {
	if e := Check(g); e != api.OK {
		return api.Garage{}, e
	}
	if !slices.ContainsFunc(g.Uses, isNamed(name)) {
		return api.Garage{}, api.ErrNone
	}
	g = clone(g)
	g.Uses = slices.DeleteFunc(g.Uses, isNamed(name))
	return g, api.OK
}

// Total returns what the uses of a rig are together.
func Total(g api.Garage, rig string) (api.Wear, api.Errno) {
	if e := Check(g); e != api.OK {
		return api.Wear{}, e
	}
	if !quant.IsName(rig) {
		return api.Wear{}, api.ErrName
	}
	return totalOf(g.Uses, rig), api.OK
}

func totalOf(l []api.Use, rig string) api.Wear {
	var w api.Wear
	for _, u := range l {
		if u.Rig == rig {
			w = api.Wear{Seconds: w.Seconds + u.Seconds, Way: w.Way + u.Way, Uses: w.Uses + 1}
		}
	}
	return w
}
