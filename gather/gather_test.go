package gather

import (
	"errors"
	"testing"

	"spring/pool"
	"spring/wire"
)

// Of three blocks drop 0 has 0 and 2, drop 1 has 0, drop 10 has 1.
func drop(id int, data string) string {
	return wire.Write(id, 12, []byte(data))
}

func TestDropsGathersWhatFits(t *testing.T) {
	other := wire.Write(1, 11, []byte("jello"))
	wide := wire.Write(1, 12, []byte("jelloo"))
	basin, err := Drops([]string{"", drop(1, "hello"), other, wide, "x", drop(10, ", wor"), drop(1, "hello")})
	if err != nil || basin.Drops != 3 || basin.Length() != 12 || basin.Size() != 5 {
		t.Fatalf("Drops = %+v, %v", basin, err)
	}
	if _, text := basin.Certain(); text != "hello, wor\x00\x00" {
		t.Errorf("text %q", text)
	}
}

func TestDropsFaults(t *testing.T) {
	if _, err := Drops(make([]string, 121)); !errors.Is(err, ErrMany) {
		t.Errorf("121 drops: %v", err)
	}
	for _, drops := range [][]string{nil, {}, {"", "x"}, make([]string, 120)} {
		if _, err := Drops(drops); !errors.Is(err, ErrNone) {
			t.Errorf("%d that are no drops: %v", len(drops), err)
		}
	}
	contrary := []string{"", drop(1, "hello"), "", drop(1, "jello"), drop(1, "cello")}
	basin, err := Drops(contrary)
	var fault Fault
	if !errors.Is(err, pool.ErrContrary) || !errors.As(err, &fault) || fault.Number != 3 || basin != (Basin{}) {
		t.Errorf("contrary drops: %+v, %v", basin, err)
	}
	if got, want := err.Error(), "drop 3: no text fits"; got != want {
		t.Errorf("Error() = %q, want %q", got, want)
	}
}

// Who sends ends at once where no more are needed, and else sends all.
func TestSendEndsAtEnough(t *testing.T) {
	flow, enough := make(chan numbered), make(chan struct{})
	close(enough)
	send(make([]string, 120), flow, enough)
	if _, open := <-flow; open {
		t.Errorf("a drop was sent though no more were needed")
	}
	flow, enough = make(chan numbered), make(chan struct{})
	go send([]string{"a", "b", "c"}, flow, enough)
	n := 0
	for d := range flow {
		if d.number != n || d.drop != "abc"[n:n+1] {
			t.Errorf("drop %d came as %+v", n, d)
		}
		n++
	}
	if n != 3 {
		t.Errorf("%d drops came, want 3", n)
	}
}
