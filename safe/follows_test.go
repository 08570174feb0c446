package safe_test

import (
	"slices"
	"testing"

	"drayage/api"
	"drayage/clause"
	"drayage/safe"
)

func all(t *testing.T, s api.Snap, p []int) []api.Clause {
	t.Helper()
	l, e := clause.All(s, p)
	if e != api.OK {
		t.Fatalf("All(%v, %v): %d", s, p, e)
	}
	return l
}

func worse(t *testing.T, s api.Snap, p, q []int) []api.Clause {
	t.Helper()
	l, e := safe.Worse(s, p, q)
	if e != api.OK {
		t.Fatalf("Worse(%v, %v, %v): %d", s, p, q, e)
	}
	return l
}

// wordsOfWorse asks for each clause of q alone, of both.
func wordsOfWorse(t *testing.T, s api.Snap, p, q []int) (l []api.Clause) {
	t.Helper()
	for _, c := range all(t, s, q) {
		if by, _ := clause.Of(s, p, c.Kind, c.A, c.B); c.By > by {
			l = append(l, c)
		}
	}
	return l
}

// wordsOfSum adds the clauses of a placement up, kind by kind.
func wordsOfSum(t *testing.T, s api.Snap, p []int) (sum int) {
	t.Helper()
	for _, c := range all(t, s, p) {
		if c.Kind == capOf {
			c.By = min(c.By, 1)
		}
		sum += c.By
	}
	return sum
}

// other makes another placement of a few pods' difference, so that some of it is better, and some worse.
func (m maker) other(s api.Snap, p []int) []int {
	q, r := slices.Clone(p), m.placement(s)
	for range m.Intn(4) {
		if len(q) > 0 {
			pod := m.Intn(len(q))
			q[pod] = r[pod]
		}
	}
	return q
}

// mild takes from a cluster much of what is asked for, so that more placements are safe.
func (m maker) mild(s api.Snap) {
	for pod := range s.Pods {
		x := &s.Pods[pod]
		x.Req = m.row(5)
		if m.Intn(4) > 0 {
			x.Where, x.With = nil, api.Near{}
			x.Bears = pairs("gpu", "*", "old", "*")
		}
		if m.Intn(4) > 0 {
			x.Apart = api.Near{}
		}
	}
	for owner := range s.Owners {
		s.Owners[owner].Min = 0
	}
}

// TestAgainstWords (P9.1): of clusters and two placements made at random, against the chapter's words; of each kind some is worse.
func TestAgainstWords(t *testing.T) {
	kinds := map[int]int{}
	m := random(1)
	eachCluster(t, 400, func(s api.Snap, p []int) {
		for _, q := range [][]int{m.placement(s), m.other(s, p), p} {
			want := wordsOfWorse(t, s, p, q)
			checkWorse(t, s, p, q, want...)
			checkSum(t, s, q, wordsOfSum(t, s, q))
			checkSafe(t, s, q, len(clause.Broken(s, q)) == 0)
			for _, c := range want {
				kinds[c.Kind]++
			}
		}
	})
	for kind := capOf; kind <= least; kind++ {
		if kinds[kind] < 10 {
			t.Errorf("of kind %d, only %d are worse", kind, kinds[kind])
		}
	}
}

// TestSafeStaysSafe (P9.3): from a safe placement, where nothing is worse it is safe; a placement is safe just if its Sum is 0.
func TestSafeStaysSafe(t *testing.T) {
	m, stays, leaves := random(2), 0, 0
	eachCluster(t, 300, func(s api.Snap, p []int) {
		m.mild(s)
		p = slices.Repeat([]int{wait}, len(p)) // as nothing is asked for, this is safe
		checkSafe(t, s, p, true)
		for range 10 {
			q := m.other(s, p)
			is, e := safe.Safe(s, q)
			if sum, _ := safe.Sum(s, q); is != (sum == 0) || e != api.OK {
				t.Fatalf("%v, %v: %t, %d, and the sum is %d", s, q, is, e, sum)
			}
			if is != (len(worse(t, s, p, q)) == 0) {
				t.Fatalf("%v: %v is safe, worse in %v is %v, and that it is safe is %t", s, p, q, worse(t, s, p, q), is)
			}
			if is && !slices.Equal(p, q) {
				p, stays = q, stays+1
			} else if !is {
				leaves++
			}
		}
	})
	if stays < 300 || leaves < 300 {
		t.Errorf("%d stay safe and %d do not: too few", stays, leaves)
	}
}

// TestWorseHangsTogether (P9.4): nothing is worse in a placement than in itself; what does not get worse twice has not got worse.
func TestWorseHangsTogether(t *testing.T) {
	m, rows := random(3), 0
	eachCluster(t, 200, func(s api.Snap, p []int) {
		m.mild(s)
		checkWorse(t, s, p, p)
		row := [][]int{p} // each one no worse than the one ahead
		for range 30 {
			last := row[len(row)-1]
			if q := m.other(s, last); !slices.Equal(q, last) && len(worse(t, s, last, q)) == 0 {
				row = append(row, q)
			}
		}
		for i, q := range row[1:] {
			for _, ahead := range row[:i+1] {
				checkWorse(t, s, ahead, q)
			}
		}
		if len(row) > 2 {
			rows++
		}
	})
	if rows < 50 {
		t.Errorf("%d rows are too few", rows)
	}
}
