package impl

const MaxArches = 6

const maxTurn = 100

// system keeps its points in an array: an assignment copies it, so that no
// memory of a caller is ever shared.
type system struct {
	mate [2 * MaxArches]int
	size int
}

func readSystem(p []int) (system, bool) {
	if len(p)%2 != 0 || len(p) > 2*MaxArches {
		return system{}, false
	}
	s := system{size: len(p)}
	copy(s.mate[:], p)
	if !s.isPaired() || s.crosses() {
		return system{}, false
	}
	return s, true
}

func (s system) isPaired() bool {
	for i, j := range s.mate[:s.size] {
		if j < 0 || j >= s.size || j == i || s.mate[j] != i {
			return false
		}
	}
	return true
}

// crosses expects all points to be paired: of two arches that cross, it is
// enough to look at the one that begins first.
func (s system) crosses() bool {
	for i := range s.size {
		for k := i + 1; k < s.mate[i]; k++ {
			if s.mate[k] > s.mate[i] {
				return true
			}
		}
	}
	return false
}

func (s system) list() []int {
	p := make([]int, s.size)
	copy(p, s.mate[:s.size])
	return p
}

func (s *system) join(i int, j int) {
	s.mate[i], s.mate[j] = j, i
}

// draw adds the arches of another system, each point moved to its place.
func (s *system) draw(other system, place func(int) int) {
	for i, j := range other.mate[:other.size] {
		s.mate[place(i)] = place(j)
	}
}

func (s system) begins(i int) bool {
	return s.mate[i] > i
}

func (s system) isSmall(i int) bool {
	return s.mate[i] == i+1
}

func (s system) isOuter(i int) bool {
	return s.begins(i) && s.depth(i) == 0
}

func (s system) depth(i int) int {
	over := 0
	for k := range i {
		if s.mate[k] > i {
			over++
		}
	}
	return over
}

func (s system) pointsWhere(chosen func(int) bool) []int {
	var points []int
	for i := range s.size {
		if chosen(i) {
			points = append(points, i)
		}
	}
	return points
}

// fill draws the arches with a rank from a point on. Systems are ordered by the
// end of their first arch, then by what is under it, then by what is behind it.
func (s *system) fill(from int, arches int, rank int) {
	if arches == 0 {
		return
	}
	inner, behind := 0, arches-1
	for rank >= catalan(inner)*catalan(behind) {
		rank -= catalan(inner) * catalan(behind)
		inner, behind = inner+1, behind-1
	}
	end := from + 2*inner + 1
	s.join(from, end)
	s.fill(from+1, inner, rank/catalan(behind))
	s.fill(end+1, behind, rank%catalan(behind))
}

// rank undoes fill.
func (s system) rank(from int, arches int) int {
	if arches == 0 {
		return 0
	}
	end := s.mate[from]
	inner := (end - from) / 2
	behind := arches - 1 - inner
	before := 0
	for k := range inner {
		before += catalan(k) * catalan(arches-1-k)
	}
	return before + s.rank(from+1, inner)*catalan(behind) + s.rank(end+1, behind)
}

func catalan(n int) int {
	count := 1
	for k := range n {
		count = count * (4*k + 2) / (k + 2)
	}
	return count
}

func isArchCount(n int) bool {
	return n >= 0 && n <= MaxArches
}

func systemRanked(n int, rank int) system {
	s := system{size: 2 * n}
	s.fill(0, n, rank)
	return s
}

func rainbow(n int) system {
	s := system{size: 2 * n}
	for i := range n {
		s.join(i, s.size-1-i)
	}
	return s
}

// shift moves all points of a line along it, round from its end to its start.
type shift struct {
	by   int
	size int
}

func (m shift) place(i int) int {
	return ((i+m.by)%m.size + m.size) % m.size
}

// reflection moves all points of a line to the other side of its middle.
type reflection struct {
	size int
}

func (m reflection) place(i int) int {
	return m.size - 1 - i
}

// gap holds the ends of an arch that one system has and another one lacks.
type gap struct {
	begin int
	end   int
}

// widen returns where a point of the system without the arch is in that with it.
func (g gap) widen(i int) int {
	if i >= g.begin {
		i++
	}
	if i >= g.end {
		i++
	}
	return i
}

// narrow undoes widen; it is not asked for the ends themselves.
func (g gap) narrow(i int) int {
	if i > g.end {
		i--
	}
	if i > g.begin {
		i--
	}
	return i
}

// IsSystem reports whether p is an arch system.
func IsSystem(p []int) bool {
	_, ok := readSystem(p)
	return ok
}

// AllSystems returns all systems of n arches, in order.
func AllSystems(n int) ([][]int, bool) {
	if !isArchCount(n) {
		return nil, false
	}
	all := make([][]int, catalan(n))
	for rank := range all {
		all[rank] = systemRanked(n, rank).list()
	}
	return all, true
}

// CountSystems returns how many there are.
func CountSystems(n int) (int, bool) {
	if !isArchCount(n) {
		return 0, false
	}
	return catalan(n), true
}

// SystemWith returns the system of n arches with a rank. It fails if there is none.
func SystemWith(n int, rank int) ([]int, bool) {
	if !isArchCount(n) || rank < 0 || rank >= catalan(n) {
		return nil, false
	}
	return systemRanked(n, rank).list(), true
}

// RankSystem returns the rank of a system.
func RankSystem(p []int) (int, bool) {
	s, ok := readSystem(p)
	if !ok {
		return 0, false
	}
	return s.rank(0, s.size/2), true
}

// NextSystem returns the system with the next rank. It fails for the last one.
func NextSystem(p []int) ([]int, bool) {
	s, ok := readSystem(p)
	if !ok {
		return nil, false
	}
	return SystemWith(s.size/2, s.rank(0, s.size/2)+1)
}

// RainbowOf returns the system that joins i with 2 n - 1 - i, for each i.
func RainbowOf(n int) ([]int, bool) {
	if !isArchCount(n) {
		return nil, false
	}
	return rainbow(n).list(), true
}

// FlatOf returns the system all of whose arches are small.
func FlatOf(n int) ([]int, bool) {
	if !isArchCount(n) {
		return nil, false
	}
	s := system{size: 2 * n}
	for i := range n {
		s.join(2*i, 2*i+1)
	}
	return s.list(), true
}

// TurnSystem returns the system in which i + by and j + by, modulo 2 n, are joined if i and j are, by in -100..100.
func TurnSystem(p []int, by int) ([]int, bool) {
	s, ok := readSystem(p)
	if !ok || by < -maxTurn || by > maxTurn {
		return nil, false
	}
	turned := system{size: s.size}
	turned.draw(s, shift{by, s.size}.place)
	return turned.list(), true
}

// MirrorSystem returns the system in which 2 n - 1 - i and 2 n - 1 - j are joined if i and j are.
func MirrorSystem(p []int) ([]int, bool) {
	s, ok := readSystem(p)
	if !ok {
		return nil, false
	}
	mirrored := system{size: s.size}
	mirrored.draw(s, reflection{s.size}.place)
	return mirrored.list(), true
}

// JoinSystems returns the arches of a, and those of b behind them. It fails if there are too many.
func JoinSystems(a []int, b []int) ([]int, bool) {
	first, firstOk := readSystem(a)
	second, secondOk := readSystem(b)
	size := first.size + second.size
	if !firstOk || !secondOk || size > 2*MaxArches {
		return nil, false
	}
	joined := first
	joined.size = size
	joined.draw(second, shift{first.size, size}.place)
	return joined.list(), true
}

// CoverSystem returns the system with one arch more that is over all others. It fails if there are too many.
func CoverSystem(p []int) ([]int, bool) {
	// PutArch refuses a p that is no system, whatever its length is.
	return PutArch(p, 0, len(p)+1)
}

// OuterArches returns the points where outer arches begin, strictly increasing.
func OuterArches(p []int) ([]int, bool) {
	s, ok := readSystem(p)
	if !ok {
		return nil, false
	}
	return s.pointsWhere(s.isOuter), true
}

// DepthsOf returns for each arch, by the points where they begin, in order, how many arches are over it.
func DepthsOf(p []int) ([]int, bool) {
	s, ok := readSystem(p)
	if !ok {
		return nil, false
	}
	depths := s.pointsWhere(s.begins)
	for k, i := range depths {
		depths[k] = s.depth(i)
	}
	return depths, true
}

// SmallArches returns the points where small arches begin, strictly increasing.
func SmallArches(p []int) ([]int, bool) {
	s, ok := readSystem(p)
	if !ok {
		return nil, false
	}
	return s.pointsWhere(s.isSmall), true
}

// DropArch returns the system without the arch that begins at i; the points behind its ends move together. It fails if none begins there.
func DropArch(p []int, i int) ([]int, bool) {
	s, ok := readSystem(p)
	if !ok || i < 0 || i >= s.size || !s.begins(i) {
		return nil, false
	}
	g := gap{i, s.mate[i]}
	dropped := system{size: s.size - 2}
	for k := range dropped.size {
		dropped.mate[k] = g.narrow(s.mate[g.widen(k)])
	}
	return dropped.list(), true
}

// PutArch returns the system with an arch more, which begins at i and ends at j in it; the others keep their order. It fails if there is no such system, or if there are too many arches.
func PutArch(p []int, i int, j int) ([]int, bool) {
	s, ok := readSystem(p)
	size := s.size + 2
	if !ok || size > 2*MaxArches || i < 0 || i >= j || j >= size {
		return nil, false
	}
	put := system{size: size}
	put.join(i, j)
	put.draw(s, gap{i, j}.widen)
	if put.crosses() {
		return nil, false
	}
	return put.list(), true
}

// SystemText returns a ( for each point where an arch begins and a ) for each one where one ends.
func SystemText(p []int) (string, bool) {
	s, ok := readSystem(p)
	if !ok {
		return "", false
	}
	text := make([]byte, s.size)
	for i := range text {
		text[i] = ')'
		if s.begins(i) {
			text[i] = '('
		}
	}
	return string(text), true
}

// ParseSystem returns the system with a SystemText. It fails if there is none.
func ParseSystem(s string) ([]int, bool) {
	if len(s) > 2*MaxArches {
		return nil, false
	}
	parsed := system{size: len(s)}
	var open []int
	for i := range len(s) {
		last := len(open) - 1
		switch {
		case s[i] == '(':
			open = append(open, i)
		case s[i] == ')' && last >= 0:
			parsed.join(open[last], i)
			open = open[:last]
		default:
			return nil, false
		}
	}
	if len(open) > 0 {
		return nil, false
	}
	return parsed.list(), true
}
