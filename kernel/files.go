package kernel

import (
	"pagewright/api"
	"pagewright/change"
	"pagewright/machine"
	"pagewright/paging"
	"pagewright/store"
)

// maxSize is how many bytes a file may have.
const maxSize = api.MaxPages * api.PageSize

// createFile has there be a file more.
func createFile(w *change.Machine, _ api.Call) api.Answer {
	files, n, err := store.Create(w.Store)
	if err != api.OK {
		return refused(err)
	}
	w.Store = files
	return api.Answer{N: n}
}

// readFile answers bytes of a file, as many as there are.
func readFile(w *change.Machine, c api.Call) api.Answer {
	if c.At < 0 || c.N < 0 {
		return refused(api.ErrRange)
	}
	b, err := machine.Bytes(w.Machine, c.File)
	if err != api.OK {
		return refused(err)
	}
	b = b[min(c.At, len(b)):]
	b = b[:min(c.N, len(b))]
	return api.Answer{N: len(b), Data: b}
}

// writeFile has a file have the call's bytes.
func writeFile(w *change.Machine, c api.Call) api.Answer {
	if !below(c.At, maxSize+1) || len(c.Data) > maxSize-c.At {
		return refused(api.ErrRange)
	}
	if len(c.Data) == 0 {
		return api.Answer{}
	}
	if end := c.At + len(c.Data); end > w.Store.Files[c.File].Size {
		w.Resize(c.File, end)
	}
	err := eachPart(c.At, c.Data, func(index, at int, part []byte) api.Errno {
		return w.Put(c.File, index, at, part)
	})
	if err != api.OK {
		return refused(err)
	}
	return api.Answer{N: len(c.Data)}
}

// eachPart hands visit what of b, bytes of a file from byte at on, lies in each page, and where there, until one is refused.
func eachPart(at int, b []byte, visit func(index, at int, part []byte) api.Errno) api.Errno {
	for len(b) > 0 {
		index, in := at/api.PageSize, at%api.PageSize
		n := min(api.PageSize-in, len(b))
		if err := visit(index, in, b[:n]); err != api.OK {
			return err
		}
		at, b = at+n, b[n:]
	}
	return api.OK
}

// resizeFile has a file have as many bytes as the call tells.
func resizeFile(w *change.Machine, c api.Call) api.Answer {
	if !below(c.N, maxSize+1) {
		return refused(api.ErrRange)
	}
	w.Resize(c.File, c.N)
	return api.Answer{}
}

func syncFile(w *change.Machine, c api.Call) api.Answer {
	next, err := paging.Sync(w.Machine, c.File)
	return become(w, next, 0, err)
}

func evict(w *change.Machine, _ api.Call) api.Answer {
	next, _, err := paging.Evict(w.Machine)
	return become(w, next, 0, err)
}

func clean(w *change.Machine, _ api.Call) api.Answer {
	next, _, err := paging.Clean(w.Machine)
	return become(w, next, 0, err)
}

func crash(w *change.Machine, c api.Call) api.Answer {
	next, err := paging.Crash(w.Machine, c.N)
	return become(w, next, 0, err)
}
