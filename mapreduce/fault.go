package mapreduce

// reasonText tells a reason's own text. An error from elsewhere is not asked for its text: it might panic, or come back to the Fault that holds it.
func reasonText(err error) string {
	reasons := []error{ErrArg, ErrShort, ErrSum, ErrInput, ErrFull, ErrUnknown, ErrStale, ErrWait, ErrDone, ErrExhausted, ErrEnded}
	for _, r := range reasons {
		if err != nil && err == r {
			return r.Error()
		}
	}
	return "a fault"
}
