package script

import (
	"strconv"

	"arrears/api"
)

// fault is what is wrong with a line, and the place where it was found.
type fault struct {
	why   api.Errno
	place int
}

func (f fault) Error() string {
	return "error " + strconv.Itoa(int(f.why)) + " at place " + strconv.Itoa(f.place)
}

// inCommand is an error on its way up, with the word of the command in which it was met.
type inCommand struct {
	word string
	err  error
}

func (c inCommand) Error() string { return c.word + ": " + c.err.Error() }

func (c inCommand) Unwrap() error { return c.err }
