package script

import (
	"errors"
	"testing"

	"arrears/api"
)

// 18.2: a fault comes up wrapped in the command in which it was met, and is taken out with its place.
func TestFaultsOnTheirWay(t *testing.T) {
	for _, c := range []struct {
		line, text string
		want       fault
	}{
		{"pays 1 x", "error 180 at place 0", fault{api.ErrCommand, 0}},
		{"pay 1", "pay: error 181 at place 5", fault{api.ErrFields, 5}},
		{"pay 1 x", "pay: error 182 at place 6", fault{api.ErrNumber, 6}},
	} {
		_, err := readLine([]byte(c.line))
		if err == nil || err.Error() != c.text {
			t.Errorf("18.2: the error of %q is %v, want %q", c.line, err, c.text)
		}
		var got fault
		if !errors.As(err, &got) || got != c.want {
			t.Errorf("18.2: the fault of %q is %+v, want %+v", c.line, got, c.want)
		}
	}
	if op, err := readLine([]byte("today")); op.Kind != api.OpToday || err != nil {
		t.Errorf("18.2: readLine of a command = %+v, %v", op, err)
	}
}
