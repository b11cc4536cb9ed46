package draw

import "testing"

func TestStateIsNeverZero(t *testing.T) {
	for count := 1; count <= 80; count++ {
		for id := 0; id <= 65535; id++ {
			if start(count, id) == 0 {
				t.Fatalf("start(%d, %d) is 0", count, id)
			}
		}
	}
}

func TestStartWrapsRound(t *testing.T) {
	for _, c := range []struct {
		count, id int
		want      state
	}{
		{1, 0, 2654448114}, {2, 0, 1013916587}, {1, 65535, 1013844923},
	} {
		if got := start(c.count, c.id); got != c.want {
			t.Errorf("start(%d, %d) = %d, want %d", c.count, c.id, got, c.want)
		}
	}
}

// The draws from 1 are known: they are those of xorshift by 13, 17 and 5.
func TestNext(t *testing.T) {
	s := state(1)
	for i, want := range []uint32{270369, 67634689, 2647435461, 307599695} {
		if got := s.next(); got != want {
			t.Errorf("draw %d from 1 is %d, want %d", i, got, want)
		}
	}
}

func TestWeights(t *testing.T) {
	for _, c := range []struct {
		d, count int
		want     uint32
	}{
		{1, 1, 69632}, {1, 3, 25941}, {1, 80, 4915}, {2, 80, 32768}, {3, 80, 10922}, {4, 5, 5461}, {80, 80, 10},
	} {
		if got := weight(c.d, c.count); got != c.want {
			t.Errorf("weight(%d, %d) = %d, want %d", c.d, c.count, got, c.want)
		}
	}
}

// At each d the bounds on both sides: the last r that it takes, and the next.
func TestDegree(t *testing.T) {
	for count := 1; count <= 80; count++ {
		var sum uint32
		for d := 1; d <= count; d++ {
			if got := degree(count, sum); got != d {
				t.Errorf("degree(%d, %d) = %d, want %d", count, sum, got, d)
			}
			sum += weight(d, count)
			if got := degree(count, sum-1); got != d {
				t.Errorf("degree(%d, %d) = %d, want %d", count, sum-1, got, d)
			}
		}
		if sum != totalWeight(count) {
			t.Errorf("totalWeight(%d) = %d, want %d", count, totalWeight(count), sum)
		}
	}
}
