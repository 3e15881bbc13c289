package servicer

import (
	"errors"
	"strconv"

	"arrears/api"
)

// errDown is met where the disk goes down under a call. Whoever meets it gives up, and leaves the restart to Do.
var errDown = errors.New("the disk went down")

// refusal is an error that a reply tells by its number.
type refusal struct {
	why api.Errno
}

func (r refusal) Error() string { return "error " + strconv.Itoa(int(r.why)) }

// during is an error on its way up, with what was being done where it was met.
type during struct {
	doing string
	err   error
}

func (d during) Error() string { return d.doing + ": " + d.err.Error() }

func (d during) Unwrap() error { return d.err }

// met is what a call answered, as an error; none if that was OK.
func met(doing string, why api.Errno) error {
	switch why {
	case api.OK:
		return nil
	case api.ErrDown:
		return during{doing, errDown}
	}
	return during{doing, refusal{why}}
}

// reason is the number of an error; OK if there is none.
func reason(err error) api.Errno {
	var r refusal
	switch {
	case err == nil:
		return api.OK
	case errors.As(err, &r):
		return r.why
	}
	return api.ErrDown
}

// reply tells numbers, or an error in their place.
func reply(nums []int64, err error) api.Reply {
	if err != nil {
		return api.Reply{Err: reason(err)}
	}
	return api.Reply{Nums: nums}
}
