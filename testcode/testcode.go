// Package testcode tells the tests of all layers which of package api's errors a call answered.
package testcode

import (
	"errors"

	"bursary/api"
)

// Other is told of an error that is none of package api's.
const Other api.Errno = -1

// Of is an error's number: 0, if it is nil.
func Of(err error) api.Errno {
	if err == nil {
		return 0
	}
	var e api.Errno
	if errors.As(err, &e) {
		return e
	}
	return Other
}
