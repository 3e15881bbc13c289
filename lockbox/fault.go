package lockbox

import (
	"strconv"

	"arrears/api"
)

// fault is what is wrong with a line, and the number of the line.
type fault struct {
	why  api.Errno
	line int
}

func (f fault) Error() string {
	return "error " + strconv.Itoa(int(f.why)) + " in line " + strconv.Itoa(f.line)
}

// inPart is an error on its way up, with the part of the file in which it was met.
type inPart struct {
	part string
	err  error
}

func (p inPart) Error() string { return p.part + ": " + p.err.Error() }

func (p inPart) Unwrap() error { return p.err }
