package cnf

import (
	"slices"

	"ratchet/api"
)

// refuter searches for a refutation. It decides in the same order as the search for a model, but keeps clauses that it learns from conflicts, so that it never has a conflict after the same decisions again, and has no more conflicts than that search.
type refuter struct {
	*trail
	given   int   // how many clauses the formula has
	numbers []int // of all clauses, their numbers in the proof
	proof   []api.CnfStep
	marks   []bool // the variables of the clause that is being resolved, whose literals are all false
	near    int    // how many of them became so since the last decision
}

// Refuted returns a proof that refutes a formula.
func Refuted(f api.CnfFormula, fuel int) ([]api.CnfStep, api.Errno) {
	_, e := FirstModel(f, fuel)
	if e == api.OK {
		return nil, api.ErrNone
	}
	if e != api.ErrNone {
		return nil, e
	}
	proof := needed(len(f.Clauses), refutation(f))
	if len(proof) > api.MaxCnfProof {
		return nil, api.ErrFuel
	}
	return proof, api.OK
}

// refutation is a proof that refutes a formula, which has no model. It may have steps that the last one does not need.
func refutation(f api.CnfFormula) []api.CnfStep {
	r := &refuter{
		trail: newTrail(f.Vars, f.Clauses),
		given: len(f.Clauses),
		marks: make([]bool, f.Vars+1),
	}
	for i := range f.Clauses {
		r.numbers = append(r.numbers, i)
	}
	conflict := r.begin()
	for {
		for conflict == none {
			conflict = r.decide(-r.firstOpen())
		}
		if !r.learn(conflict) {
			return r.proof
		}
		conflict = r.propagate()
	}
}

// learn resolves the conflict with the reasons of what was forced, back to the last decision, and makes true what it has learned from that; it is false if there is no decision, so that the proof is complete.
func (r *refuter) learn(conflict int) bool {
	first := len(r.clauses)
	number := r.numbers[conflict]
	r.mark(r.clauses[conflict])
	for len(r.literals) > 0 {
		place := len(r.literals) - 1
		literal := r.literals[place]
		v := variableOf(literal)
		if !r.marks[v] {
			r.backTo(place)
			continue
		}
		decided := r.reasons[v] == none
		// What alone brings about the conflict need not be tried again: the decision, and the literal closest to the conflict, as other decisions may force it, too.
		if decided || r.near == 1 && len(r.clauses) == first {
			r.keep(literal, number)
		}
		if decided {
			r.turn(first)
			return true
		}
		r.backTo(place)
		number = r.resolve(literal, number)
	}
	return false
}

// mark adds the literals of a clause, which are false, to the clause that is being resolved.
func (r *refuter) mark(clause []int) {
	start := 0
	if count := len(r.decisions); count > 0 {
		start = r.decisions[count-1]
	}
	for _, literal := range clause {
		v := variableOf(literal)
		if !r.marks[v] && r.places[v] >= start {
			r.near++
		}
		r.marks[v] = true
	}
}

// resolve takes the reason of a literal and the clause that is being resolved, which has its opposite, and is the number of the new clause.
func (r *refuter) resolve(literal, number int) int {
	v := variableOf(literal)
	reason := r.reasons[v]
	r.mark(r.clauses[reason])
	r.marks[v] = false
	r.near--
	step := api.CnfStep{First: r.numbers[reason], Second: number, Var: v}
	if literal < 0 {
		step.First, step.Second = step.Second, step.First
	}
	r.proof = append(r.proof, step)
	return r.given + len(r.proof) - 1
}

// keep adds the clause that is being resolved, in which the opposite of a literal is the last one that became false.
func (r *refuter) keep(literal, number int) {
	var clause []int
	two := [2]int{-literal, 0}
	for v, marked := range r.marks {
		if !marked {
			continue
		}
		l := -v * r.values[v]
		clause = append(clause, l)
		// After going back, what became false last is the first to be open again, and so to be watched.
		if l != -literal && (two[1] == 0 || r.places[v] > r.places[variableOf(two[1])]) {
			two[1] = l
		}
	}
	r.add(clause, two)
	r.numbers = append(r.numbers, number)
}

// turn goes back as far as the first of the clauses that were learned still forces its literal, and makes true what they force.
func (r *refuter) turn(first int) {
	latest := none
	if len(r.clauses[first]) > 1 {
		latest = r.places[variableOf(r.watched[first][1])]
	}
	later := slices.IndexFunc(r.decisions, func(place int) bool { return place > latest })
	r.backTo(r.decisions[later])
	for i := first; i < len(r.clauses); i++ {
		if literal, ready := r.values.unitOf(r.clauses[i]); ready {
			r.become(literal, i)
		}
	}
	clear(r.marks)
	r.near = 0
}

// needed is the steps of a proof that its last one needs, with their new numbers.
func needed(given int, proof []api.CnfStep) []api.CnfStep {
	marks := make([]bool, given+len(proof))
	marks[len(marks)-1] = true
	for i := len(proof) - 1; i >= 0; i-- {
		if marks[given+i] {
			marks[proof[i].First] = true
			marks[proof[i].Second] = true
		}
	}
	numbers := make([]int, given+len(proof))
	for i := range given {
		numbers[i] = i
	}
	var list []api.CnfStep
	for i, step := range proof {
		if marks[given+i] {
			numbers[given+i] = given + len(list)
			list = append(list, api.CnfStep{First: numbers[step.First], Second: numbers[step.Second], Var: step.Var})
		}
	}
	return list
}
