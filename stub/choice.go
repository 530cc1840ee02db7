package stub

import "stearin/api"

// choice is some of the bags, as bits, and what it is worth.
type choice struct {
	worth
	set int
}

// worth is how much bags weigh at least, and how many they are.
type worth struct{ grams, bags int }

// contest is which choice is the best one so far, and how it is told whether another one is better.
type contest struct {
	best   choice
	better func(a, b choice) bool
}

// best returns the best choice from bags.
func (j judge) best(bags []api.StBag) choice {
	// To choose nothing surely makes every sort.
	c := contest{better: better}
	for set := range 1 << len(bags) {
		chosen := choice{set: set}.of(bags)
		if j.of(chosen) == api.StSure {
			c.enter(choice{worthOf(chosen), set})
		}
	}
	return c.best
}

// enter keeps a choice if it is better than all before it.
func (c *contest) enter(other choice) {
	if c.better(other, c.best) {
		c.best = other
	}
}

// better reports whether the first one of two choices from the same bags is better than the second one.
func better(a, b choice) bool {
	switch {
	case a.worth == b.worth:
		// Of as many bags, those come first that have the first bag in which they differ.
		differ := a.set ^ b.set
		return a.set&(differ&-differ) != 0
	case a.grams == b.grams:
		return a.bags < b.bags
	}
	return a.grams > b.grams
}

// worthOf returns what bags are worth.
func worthOf(bags []api.StBag) worth {
	w := worth{bags: len(bags)}
	for _, b := range bags {
		w.grams += b.Grams.Lo
	}
	return w
}

// has reports whether a bag is chosen.
func (c choice) has(bag int) bool { return c.set>>bag&1 == 1 }

// of returns the bags that are chosen.
func (c choice) of(bags []api.StBag) []api.StBag {
	var list []api.StBag
	for i, b := range bags {
		if c.has(i) {
			list = append(list, b)
		}
	}
	return list
}

// indices returns the indices of the bags that are chosen.
func (c choice) indices() []int {
	var list []int
	for bag := range api.MaxStBags {
		if c.has(bag) {
			list = append(list, bag)
		}
	}
	return list
}
