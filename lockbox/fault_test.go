package lockbox

import (
	"errors"
	"testing"

	"arrears/api"
)

// 20.4: a fault comes up wrapped in the part of the file in which it was met, and is taken out with its line.
func TestFaultsOnTheirWay(t *testing.T) {
	const ahead = "H20210729000012\nD00010000075000000010000\n"
	for _, c := range []struct {
		file, text string
		want       fault
	}{
		{"", "header: error 200 in line 0", fault{api.ErrForm, 0}},
		{"H20210229000012\n", "header: error 200 in line 0", fault{api.ErrForm, 0}},
		{"H20210729000012\n", "details: error 200 in line 1", fault{api.ErrForm, 1}},
		{ahead + "D00020000076000000010000\n", "details: error 201 in line 2", fault{api.ErrDigit, 2}},
		{ahead + "D00010000075000000010000\n", "details: error 202 in line 2", fault{api.ErrOrder, 2}},
		{ahead + "T000200000000000100000000000007\n", "trailer: error 203 in line 2", fault{api.ErrTotal, 2}},
		{ahead + "T000100000000000100000000000007\n\n", "trailer: error 200 in line 3", fault{api.ErrForm, 3}},
	} {
		_, err := readBatch([]byte(c.file))
		if err == nil || err.Error() != c.text {
			t.Errorf("20.4: the error of %q is %v, want %q", c.file, err, c.text)
		}
		var got fault
		if !errors.As(err, &got) || got != c.want {
			t.Errorf("20.4: the fault of %q is %+v, want %+v", c.file, got, c.want)
		}
	}
	if b, err := readBatch([]byte(ahead + "T000100000000000100000000000007\n")); len(b.Items) != 1 || err != nil {
		t.Errorf("20.4: readBatch of a file = %+v, %v", b, err)
	}
}

// 20.7: behind which replies a posting stops. (That a payment's record is too long, ErrLong, no file can bring about.)
func TestStops(t *testing.T) {
	for why := range api.Errno(300) {
		if want := why == 190 || why == 1 || why == 52; stops(why) != want {
			t.Errorf("20.7: a posting stops behind %d: %v", why, !want)
		}
	}
}
