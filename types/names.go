package types

import "hauberk/api"

// held is what a name that is known stands for, and whether nothing else may be put there.
type held struct {
	kind  api.Type
	fixed bool
}

// checker goes through functions and knows what is known at each place.
type checker struct {
	names map[string]held
	made  []string // the names that are known, in the order in which they were made
	funcs map[string]api.Func
}

// known tells whether a name is known.
func (c *checker) known(name string) bool {
	_, ok := c.names[name]
	return ok
}

// enter makes a name.
func (c *checker) enter(name string, kind api.Type, fixed bool) {
	c.names[name] = held{kind, fixed}
	c.made = append(c.made, name)
}

// leave forgets all names but so many that were made first.
func (c *checker) leave(first int) {
	for _, name := range c.made[first:] {
		delete(c.names, name)
	}
	c.made = c.made[:first]
}
