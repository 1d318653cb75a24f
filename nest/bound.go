package nest

import (
	"math/bits"

	"testliner/api"
)

// classes returns all classes, by Kind, Mod and Class.
func classes() []api.NestProof {
	all := []api.NestProof{{}}
	for kind := 1; kind <= 3; kind++ {
		for mod := 2; mod <= 4; mod++ {
			for class := range mod {
				all = append(all, api.NestProof{Kind: kind, Mod: mod, Class: class})
			}
		}
	}
	return all
}

// in returns the condition that the cells of a class fulfil.
func in(class api.NestProof) func(api.NestCell) bool {
	// How many times X and Y count, for each kind.
	kinds := [4]api.NestCell{{X: 0, Y: 0}, {X: 1, Y: 0}, {X: 0, Y: 1}, {X: 1, Y: 1}}
	count := kinds[class.Kind]
	return func(c api.NestCell) bool {
		return class.Mod == 0 || (count.X*c.X+count.Y*c.Y)%class.Mod == class.Class
	}
}

// bound returns the least number by which a class bounds, and the first such class.
func (c cutter) bound() (most int, proof api.NestProof) {
	var places []uint64
	for p := range c.right() {
		places = append(places, c.bitsOf(c.at(p)...))
	}
	if len(places) == 0 {
		return 0, api.NestProof{}
	}
	most = c.Long*c.Wide + 1 // which is more than any bound
	for _, class := range classes() {
		cells := c.free(in(class))
		least := fewest(cells, places...)
		if least > 0 && bits.OnesCount64(cells)/least < most {
			most, proof = bits.OnesCount64(cells)/least, class
		}
	}
	return most, proof
}

// fewest returns how many elements of a set, as bits, each of some sets has at least.
func fewest(of uint64, sets ...uint64) int {
	least := bits.OnesCount64(of)
	for _, set := range sets {
		least = min(least, bits.OnesCount64(of&set))
	}
	return least
}
