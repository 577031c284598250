package impl

const (
	MaxPlaces = 16
	MaxTime   = 10000
)

// longestPath is how many places a path may have.
const longestPath = 100

type Matrix struct {
	N     int64
	Times []int64
}

// grid has the time from place a to place b at [a][b]. It is a value: what is
// worked out in one never reaches the Matrix that it came from.
type grid [MaxPlaces][MaxPlaces]int64

func within(n int64, low int64, high int64) bool { return low <= n && n <= high }

// gridOf is false when m is not right. N is held against its limit first, so
// that N by N cannot wrap.
func gridOf(m Matrix) (grid, bool) {
	var g grid
	if !within(m.N, 1, MaxPlaces) || int64(len(m.Times)) != m.N*m.N {
		return grid{}, false
	}
	for a := range m.N {
		for b := range m.N {
			time := m.Times[a*m.N+b]
			if !within(time, 0, MaxTime) || a == b && time != 0 {
				return grid{}, false
			}
			g[a][b] = time
		}
	}
	return g, true
}

func (g grid) matrix(n int64) Matrix {
	times := make([]int64, 0, n*n)
	for a := range n {
		times = append(times, g[a][:n]...)
	}
	return Matrix{N: n, Times: times}
}

func isPlace(m Matrix, place int64) bool { return within(place, 0, m.N-1) }

func MatrixOk(m Matrix) bool {
	_, ok := gridOf(m)
	return ok
}

func TimeOf(m Matrix, a int64, b int64) int64 {
	g, ok := gridOf(m)
	if !ok || !isPlace(m, a) || !isPlace(m, b) {
		return -1
	}
	return g[a][b]
}

func PathTime(m Matrix, path []int64) int64 {
	g, ok := gridOf(m)
	if !ok || len(path) > longestPath {
		return -1
	}
	total := int64(0)
	for i, place := range path {
		if !isPlace(m, place) {
			return -1
		}
		if i > 0 {
			total += g[path[i-1]][place]
		}
	}
	return total
}

func Closed(m Matrix) Matrix {
	g, ok := gridOf(m)
	if !ok {
		return Matrix{}
	}
	// k goes outermost: behind its round each time is the least of all paths
	// that pass through places 0 .. k alone.
	for k := range m.N {
		for a := range m.N {
			for b := range m.N {
				g[a][b] = min(g[a][b], g[a][k]+g[k][b])
			}
		}
	}
	return g.matrix(m.N)
}

func Triangle(m Matrix) bool {
	g, ok := gridOf(m)
	if !ok {
		return false
	}
	for a := range m.N {
		for b := range m.N {
			for k := range m.N {
				if g[a][b] > g[a][k]+g[k][b] {
					return false
				}
			}
		}
	}
	return true
}

func Symmetric(m Matrix) bool {
	g, ok := gridOf(m)
	if !ok {
		return false
	}
	for a := range m.N {
		for b := range a {
			if g[a][b] != g[b][a] {
				return false
			}
		}
	}
	return true
}
