package bank

import "junction/api"

const (
	erased  = 255  // a byte that nothing is programmed in
	allBits = 0xFF // those of a step that is not torn
)

// isFlash tells whether a list of so many bytes is a flash.
func isFlash(size int) bool {
	return size%api.Sector == 0 && size >= api.MinFlash*api.Sector && size <= api.MaxFlash*api.Sector
}

// isErased tells whether nothing is programmed in any of the bytes.
func isErased(b []byte) bool {
	for _, x := range b {
		if x != erased {
			return false
		}
	}
	return true
}

// allFit refuses what is no flash, and the first act that a flash of that size cannot do.
func allFit(acts []api.Act, size int) error {
	if !isFlash(size) {
		return errDisk
	}
	for i, a := range acts {
		if !fits(a, size) {
			return about("act", i, errAct)
		}
	}
	return nil
}

// fits tells whether a flash of that size can do an act. It subtracts, as a sum could wrap.
func fits(a api.Act, size int) bool {
	switch a.Kind {
	case api.AcErase:
		return a.Off >= 0 && a.Off < size && a.Off%api.Sector == 0 && len(a.Data) == 0
	case api.AcProgram:
		return a.Off >= 0 && len(a.Data) <= size-a.Off
	}
	return false
}

// steps is the number of an act's steps, a byte each.
func steps(a api.Act) int {
	switch a.Kind {
	case api.AcErase:
		return api.Sector
	case api.AcProgram:
		return len(a.Data)
	}
	return 0
}

// play does the first n steps of acts that fit, and of the next one the bits of torn.
func play(flash []byte, acts []api.Act, n int, torn byte) {
	for _, a := range acts {
		all := steps(a)
		run(flash, a, min(n, all))
		if all > n {
			step(flash, a, n, torn)
			return
		}
		n -= all
	}
}

// run does the first n steps of an act.
func run(flash []byte, a api.Act, n int) {
	for i := range n {
		step(flash, a, i, allBits)
	}
}

// step does these bits of one of an act's steps.
func step(flash []byte, a api.Act, i int, bits byte) {
	if a.Kind == api.AcErase {
		flash[a.Off+i] |= bits
	} else {
		flash[a.Off+i] &^= bits &^ a.Data[i]
	}
}
