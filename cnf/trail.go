package cnf

// trail is the literals that are true so far, with what is needed to propagate quickly and to go back. Which clause forces a literal is open here, unlike in Propagated; whether there is a conflict, and what is forced without one, does not depend on that.
type trail struct {
	clauses   [][]int
	watched   [][2]int // of each clause of several literals two that are not false, as long as it is not true and forces nothing
	watchers  [][]int  // by literals (with the number of variables added), the clauses in which they are watched
	values    assignment
	literals  []int // those that are true, in the order in which they became so
	places    []int // by variables, where they are among these literals
	reasons   []int // by variables, the clauses that forced them (none: they were decided)
	decisions []int // the places of all decisions
	done      int   // how many of the literals are propagated
}

func newTrail(vars int, clauses [][]int) *trail {
	t := &trail{
		watchers: make([][]int, 2*vars+1),
		values:   make(assignment, vars+1),
		places:   make([]int, vars+1),
		reasons:  make([]int, vars+1),
	}
	for _, clause := range clauses {
		var two [2]int
		copy(two[:], clause)
		t.add(clause, two)
	}
	return t
}

// vars is how many variables there are.
func (t *trail) vars() int { return len(t.values) - 1 }

// add adds a clause, two of whose literals will be watched if it has as many.
func (t *trail) add(clause []int, two [2]int) {
	t.clauses = append(t.clauses, clause)
	t.watched = append(t.watched, two)
	if len(clause) < 2 {
		return
	}
	for _, literal := range two {
		t.watch(literal, len(t.clauses)-1)
	}
}

func (t *trail) watch(literal, clause int) {
	slot := literal + t.vars()
	t.watchers[slot] = append(t.watchers[slot], clause)
}

// begin propagates from nothing, and is the conflict.
func (t *trail) begin() int {
	for i, clause := range t.clauses {
		if len(clause) > 1 {
			continue
		}
		literal, ready := t.values.unitOf(clause)
		if ready && literal == 0 {
			return i
		}
		if ready {
			t.become(literal, i)
		}
	}
	return t.propagate()
}

// decide makes a literal true, propagates from it, and is the conflict.
func (t *trail) decide(literal int) int {
	t.decisions = append(t.decisions, len(t.literals))
	t.become(literal, none)
	return t.propagate()
}

// become makes a literal true by a reason.
func (t *trail) become(literal, reason int) {
	v := variableOf(literal)
	t.values.become(literal)
	t.places[v] = len(t.literals)
	t.reasons[v] = reason
	t.literals = append(t.literals, literal)
}

// propagate goes on with all literals that are not propagated, and is the conflict.
func (t *trail) propagate() int {
	for t.done < len(t.literals) {
		literal := t.literals[t.done]
		t.done++
		if conflict := t.leave(-literal); conflict != none {
			return conflict
		}
	}
	return none
}

// leave lets all clauses in which a literal is watched that is false now watch another one, or force their other one, and is the conflict.
func (t *trail) leave(literal int) int {
	slot := literal + t.vars()
	list := t.watchers[slot]
	kept := list[:0]
clauses:
	for at, i := range list {
		other := t.otherOf(i, literal)
		if t.values.truth(other) > 0 {
			kept = append(kept, i)
			continue
		}
		for _, next := range t.clauses[i] {
			if next != other && t.values.truth(next) >= 0 {
				t.watched[i] = [2]int{other, next}
				t.watch(next, i)
				continue clauses
			}
		}
		kept = append(kept, i)
		if t.values.truth(other) < 0 {
			t.watchers[slot] = append(kept, list[at+1:]...)
			return i
		}
		t.become(other, i)
	}
	t.watchers[slot] = kept
	return none
}

// otherOf is the literal that is watched in a clause beside a given one.
func (t *trail) otherOf(clause, literal int) int {
	two := t.watched[clause]
	if two[0] == literal {
		return two[1]
	}
	return two[0]
}

// backTo takes back all literals from a place on, with their decisions.
func (t *trail) backTo(place int) {
	for _, literal := range t.literals[place:] {
		t.values[variableOf(literal)] = 0
	}
	t.literals = t.literals[:place]
	for len(t.decisions) > 0 && t.decisions[len(t.decisions)-1] >= place {
		t.decisions = t.decisions[:len(t.decisions)-1]
	}
	t.done = min(t.done, place)
}

// firstOpen is the first variable without a value (0 if all have one).
func (t *trail) firstOpen() int {
	first := 1
	if count := len(t.decisions); count > 0 {
		// Variables are decided in order, so that none before the last decision is open.
		first = variableOf(t.literals[t.decisions[count-1]])
	}
	for v := first; v <= t.vars(); v++ {
		if t.values[v] == 0 {
			return v
		}
	}
	return 0
}
