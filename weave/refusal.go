package weave

// refusal is what everything behind the face panics with when it gives up.
type refusal struct {
	errno Errno
	place int
}

// refused makes an answer of what recover gave. A panic that is no refusal
// would be a fault of this package: to answer it as if all were well would
// hide it, so it goes on.
func refused(caught any) (Errno, int) {
	if caught == nil {
		return OK, 0
	}
	why, ours := caught.(refusal)
	if !ours {
		panic(caught)
	}
	return why.errno, why.place
}
