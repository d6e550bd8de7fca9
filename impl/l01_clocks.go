package impl

const (
	MaxTime    = 1000000000
	MaxCount   = 1000000
	MaxRegions = 5
)

type Stamp struct {
	Wall   int64
	Count  int64
	Region int64
}

type Dot struct {
	Region int64
	N      int64
}

// vector has the N of region r at place r-1, and 0 where a list of dots says
// nothing of a region, so that two of them are held against each other place by place.
type vector [MaxRegions]int64

func StampOk(s Stamp) bool {
	return timeOk(s.Wall) && inRange(s.Count, 0, MaxCount) && inRange(s.Region, 1, MaxRegions)
}

func StampAhead(a Stamp, b Stamp) bool {
	if a.Wall != b.Wall {
		return a.Wall < b.Wall
	}
	if a.Count != b.Count {
		return a.Count < b.Count
	}
	return a.Region < b.Region
}

func Ticked(last Stamp, now int64) (Stamp, bool) {
	if !StampOk(last) || !timeOk(now) {
		return Stamp{}, false
	}
	if now > last.Wall {
		return Stamp{Wall: now, Count: 0, Region: last.Region}, true
	}
	if last.Count == MaxCount {
		return Stamp{}, false
	}
	return Stamp{Wall: last.Wall, Count: last.Count + 1, Region: last.Region}, true
}

func Met(last Stamp, other Stamp, now int64) (Stamp, bool) {
	if !StampOk(last) || !StampOk(other) {
		return Stamp{}, false
	}
	later := last
	if other.Wall > last.Wall || other.Wall == last.Wall && other.Count > last.Count {
		later = Stamp{Wall: other.Wall, Count: other.Count, Region: last.Region}
	}
	return Ticked(later, now)
}

func VecOk(v []Dot) bool {
	_, ok := vectorFrom(v)
	return ok
}

func VecOf(v []Dot, region int64) int64 {
	all, ok := vectorFrom(v)
	if !ok {
		return -1
	}
	if !inRange(region, 1, MaxRegions) {
		return 0
	}
	return all[region-1]
}

func VecJoin(a []Dot, b []Dot) []Dot {
	left, leftOk := vectorFrom(a)
	right, rightOk := vectorFrom(b)
	if !leftOk || !rightOk {
		return nil
	}
	for i, n := range right {
		left[i] = max(left[i], n)
	}
	return dotsOf(left)
}

func Covers(a []Dot, b []Dot) bool {
	left, leftOk := vectorFrom(a)
	right, rightOk := vectorFrom(b)
	if !leftOk || !rightOk {
		return false
	}
	for i, n := range right {
		if left[i] < n {
			return false
		}
	}
	return true
}

func vectorFrom(v []Dot) (vector, bool) {
	var all vector
	last := int64(0)
	for _, d := range v {
		if !dotOk(d) || d.Region <= last {
			return vector{}, false
		}
		all[d.Region-1] = d.N
		last = d.Region
	}
	return all, true
}

func dotsOf(all vector) []Dot {
	var v []Dot
	for i, n := range all {
		if n > 0 {
			v = append(v, Dot{Region: int64(i) + 1, N: n})
		}
	}
	return v
}

func dotOk(d Dot) bool {
	return inRange(d.Region, 1, MaxRegions) && inRange(d.N, 1, MaxCount)
}

func timeOk(t int64) bool {
	return inRange(t, 0, MaxTime)
}

func inRange(n int64, least int64, most int64) bool {
	return least <= n && n <= most
}
