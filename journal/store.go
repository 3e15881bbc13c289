package journal

import "arrears/api"

// files is how many files a disk has.
const files = 2

// store is what the journal needs of a disk: it has no other way to the bytes.
type store interface {
	Append(file int, data []byte) api.Errno
	Sync(file int) api.Errno
	Truncate(file, size int) api.Errno
	Read(file int) ([]byte, api.Errno)
}

// other is the file beside a file.
func other(file int) int { return files - 1 - file }

// readBoth reads file 0, then file 1.
func readBoth(s store) ([files][]byte, api.Errno) {
	var both [files][]byte
	for file := range files {
		held, e := s.Read(file)
		if e != api.OK {
			return [files][]byte{}, e
		}
		both[file] = held
	}
	return both, api.OK
}

// cut cuts a file that holds these bytes to a size; a cut that would take nothing away is no write.
func cut(s store, file int, held []byte, size int) api.Errno {
	if len(held) == size {
		return api.OK
	}
	return s.Truncate(file, size)
}

// lay appends a frame to a file and makes it durable.
func lay(s store, file int, framed []byte) api.Errno {
	if e := s.Append(file, framed); e != api.OK {
		return e
	}
	return s.Sync(file)
}

// renew empties a file and lays a header into it.
func renew(s store, file int, framed []byte) api.Errno {
	held, e := s.Read(file)
	if e != api.OK {
		return e
	}
	if e := cut(s, file, held, 0); e != api.OK {
		return e
	}
	return lay(s, file, framed)
}
