package desk

import (
	"strconv"

	"sloppyscope/api"
)

// fault is what is thrown where something is wrong with a line.
type fault struct {
	err error
}

// must goes on only if there is no error.
func must(err error) {
	if err != nil {
		panic(fault{err})
	}
}

// wrong is what an error is answered; where it stands is not told.
func wrong(err error) string {
	return "error " + strconv.Itoa(int(api.Tell(err)))
}
