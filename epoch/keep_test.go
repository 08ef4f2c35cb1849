package epoch

import (
	"testing"

	"cratewatch/api"
)

// C2, Z2: epochs that are closed are the caller's alone: the desk keeps those that are open, and only these.
func TestClosedAreNotKept(t *testing.T) {
	d, err := New(2, 3)
	if err != nil {
		t.Fatal(err)
	}
	for range 100 {
		if err := d.Add(api.Sight{Time: d.Now(), Tag: "abcdefgh"}); err != nil {
			t.Fatal(err)
		}
		if _, err := d.Tick(1); err != nil {
			t.Fatal(err)
		}
		for number := range d.open {
			if number < d.Closed() {
				t.Fatalf("tick %d: epoch %d is closed, and kept", d.Now(), number)
			}
		}
	}
	if _, err := d.Tick(5); err != nil || len(d.open) != 0 {
		t.Errorf("%d epochs are kept: %v", len(d.open), err)
	}
}
