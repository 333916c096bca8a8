package impl

type State struct {
	Up     []int
	Down   []int
	Closed int
}

// IsState reports whether s is a state.
func IsState(s State) bool { return false }

// StartState returns the state before the first point.
func StartState() State { return State{} }

// StepState returns the state behind a step k in 0..3:
func StepState(s State, k int) (State, bool) { return State{}, false }

// StepsOf returns the steps of a pair, point by point.
func StepsOf(m Meander) ([]int, bool) { return nil, false }

// PairOfSteps returns the pair with given steps, at most 2 MaxArches of them.
func PairOfSteps(steps []int) (Meander, bool) { return Meander{}, false }

// StateBehind returns the state behind the first k points of a pair.
func StateBehind(m Meander, k int) (State, bool) { return State{}, false }

// StatesAfter returns all different states behind k points, k in 0..6, in which no curve is closed, ordered by the lengths of Up, then by Up and then by Down, lexicographically.
func StatesAfter(k int) ([]State, bool) { return nil, false }

// CountStates returns how many there are.
func CountStates(k int) (int, bool) { return 0, false }

// CountByStates returns for k in 0..n how many pairs with n arches above have k components, n in 0..MaxArches, by states.
func CountByStates(n int) ([]int, bool) { return nil, false }

// MeandersByStates returns how many of them are meanders, n in 1..MaxArches.
func MeandersByStates(n int) (int, bool) { return 0, false }

// WaysToClose returns in how many ways a state can be brought by left steps, left in 0..8, to one without open parts and with Closed k, k in 0..MaxArches.
func WaysToClose(s State, left int, k int) (int, bool) { return 0, false }

// FewestSteps returns the least number of steps behind which nothing is open:
func FewestSteps(s State) (int, bool) { return 0, false }

// MirrorState returns the state with Up and Down exchanged, and parts numbered anew.
func MirrorState(s State) (State, bool) { return State{}, false }
