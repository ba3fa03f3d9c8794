package sagas_test

import (
	"math"
	"strings"
	"testing"

	"sagas/api"
	"sagas/sagas"
)

func TestP3FormatWantsAFitSize(t *testing.T) {
	sizes := map[int]api.Errno{0: api.ErrSize, 1: api.ErrSize, 7: api.ErrSize, 8: api.OK, 9: api.OK, 399: api.OK, 400: api.OK, 401: api.ErrSize, 999: api.ErrSize}
	for n, want := range sizes {
		d := api.NewDisk(n)
		is(t, "P3: Format", sagas.Format(d), want)
		if want != api.OK && d.Writes() != 0 {
			t.Errorf("P1: Format of %d blocks answers %v, but wrote", n, want)
		}
	}
	for _, n := range []int{-1, math.MinInt, math.MaxInt} {
		d := &odd{Disk: api.NewDisk(20), blocks: func() int { return n }}
		is(t, "P3: Format", sagas.Format(d), api.ErrSize)
		if d.Writes() != 0 {
			t.Errorf("P1: Format of %d blocks wrote", n)
		}
	}
}

func TestP3FormatLaysAnEmptyJournalThatIsSure(t *testing.T) {
	for _, n := range []int{8, 20, 400} {
		bare := formatted(t, n)
		for name, d := range map[string]*api.Disk{"noughts": api.NewDisk(n), "a scrawl": scrawl(t, n), "an empty journal": formatted(t, n), "a full journal": filled(t, n), "a spoilt journal": spoilt(t, n)} {
			format(t, d)
			if d.Pending() != 0 {
				t.Errorf("P3: Format over %s of %d blocks: %d writes are not sure", name, n, d.Pending())
			}
			if d.Bytes() != bare.Bytes() {
				t.Errorf("P3: Format over %s of %d blocks leaves something of it", name, n)
			}
			tells(t, "P3: behind Format over "+name, opened(t, d))
			tells(t, "P3: behind a failure of power behind Format over "+name, opened(t, d.After(nil)))
		}
	}
}

// oldDisks are what a Format may be laid over.
func oldDisks(t *testing.T, n int) map[string]func() *api.Disk {
	return map[string]func() *api.Disk{
		"noughts":          func() *api.Disk { return api.NewDisk(n) },
		"a scrawl":         func() *api.Disk { return scrawl(t, n) },
		"an empty journal": func() *api.Disk { return formatted(t, n) },
		"a full journal":   func() *api.Disk { return filled(t, n) },
		"a spoilt journal": func() *api.Disk { return spoilt(t, n) },
	}
}

// whole: where there is a head, there must be all that was behind it ahead of the Format, or nothing.
func whole(t *testing.T, what string, old, now *api.Disk) {
	t.Helper()
	if !hasHead(now) {
		found(t, what, now, api.ErrCorrupt)
		return
	}
	behind := now.Bytes()[api.Block:]
	empty := strings.Count(behind, "\x00") == len(behind)
	switch {
	case empty:
		tells(t, what, opened(t, now))
	case !hasHead(old) || behind != old.Bytes()[api.Block:]:
		t.Errorf("%s: a journal of which a part is gone", what)
	}
}

func TestP3FormatIsCutOff(t *testing.T) {
	for _, n := range []int{8, 20} {
		for name, old := range oldDisks(t, n) {
			was := old()
			for at, done := 0, false; !done; at++ {
				d := old()
				d.Off(at)
				err := sagas.Format(d)
				done = d.Told() == 0
				if done {
					is(t, "P3: Format over "+name, err, api.OK)
				} else {
					is(t, "P3: a cut off Format over "+name, err, api.ErrIO)
				}
				for _, keep := range choices(d.Pending()) {
					now := d.After(keep)
					whole(t, "P3: behind a cut off Format over "+name, was, now)
					if done {
						found(t, "P3: Open behind Format over "+name, now, api.OK)
					}
				}
			}
		}
	}
}

func TestP3FormatMendsACutOffOne(t *testing.T) {
	bare := formatted(t, 8)
	for name, old := range oldDisks(t, 8) {
		for at := range 14 {
			d := old()
			d.Off(at)
			_ = sagas.Format(d)
			for _, keep := range choices(d.Pending()) {
				now := d.After(keep)
				format(t, now)
				if now.Bytes() != bare.Bytes() {
					t.Fatalf("P3: Format behind one over %s that was cut off behind %d calls leaves something", name, at)
				}
			}
		}
	}
}

func TestP3TheDeviceTellsErrors(t *testing.T) {
	for name, old := range oldDisks(t, 20) {
		was := old()
		for many := 1; many < 4; many++ {
			for at, done := 0, false; !done; at++ {
				d := old()
				d.Bad(at, many)
				err := sagas.Format(d)
				done = d.Told() == 0
				if done {
					is(t, "P3: Format over "+name, err, api.OK)
				} else {
					is(t, "P3: Format over "+name+" with errors", err, api.ErrIO)
				}
				for _, keep := range choices(d.Pending()) {
					whole(t, "P3: behind Format over "+name+" with errors and a failure of power", was, d.After(keep))
				}
				d.Bad(0, 0)
				format(t, d)
				found(t, "P3: Open behind a second Format over "+name, d, api.OK)
			}
		}
	}
}

// A Format to which the device tells an error, without a failure of power, and then one that is cut off.
func TestP3OneFailsTheNextIsCutOff(t *testing.T) {
	for name, old := range oldDisks(t, 8) {
		was := old()
		for bad := range 14 {
			for at := range 14 {
				d := old()
				d.Bad(bad, 1)
				_ = sagas.Format(d)
				d.Bad(0, 0)
				d.Off(at)
				_ = sagas.Format(d)
				for _, keep := range choices(d.Pending()) {
					whole(t, "P3: behind two Formats that failed over "+name, was, d.After(keep))
				}
			}
		}
	}
}

// An error may be told of what was done all the same.
func TestP3ErrorsOfWhatIsDone(t *testing.T) {
	for name, old := range oldDisks(t, 8) {
		was := old()
		for at := range 14 {
			d, lied := liar(old(), at)
			err := sagas.Format(d)
			if lied() {
				is(t, "P3: Format over "+name+" with an error of what is done", err, api.ErrIO)
			} else {
				is(t, "P3: Format over "+name, err, api.OK)
			}
			for _, keep := range choices(d.Pending()) {
				whole(t, "P3: behind Format over "+name+" with an error of what is done", was, d.After(keep))
			}
		}
	}
}
