package sagas_test

import (
	"testing"

	"sagas/api"
	"sagas/plain"
	"sagas/sagas"
)

// calling is an engine with a saga of three steps, whose partner does something the first time that it is asked, and then replies.
func calling(t *testing.T, d api.Device, reply int, first func(x *sagas.Engine)) (*sagas.Engine, *partner) {
	t.Helper()
	var x *sagas.Engine
	asked := false
	p := &partner{}
	p.rule = func(c api.Call) int {
		if asked {
			return api.Done
		}
		asked = true
		first(x)
		return reply
	}
	x = p.opens(t, d, 4)
	submit(t, x, 5, steps(3, "calls"))
	return x, p
}

// A partner may look at the engine while it is asked: nothing has moved then.
func TestP1APartnerThatLooks(t *testing.T) {
	x, _ := calling(t, formatted(t, 60), api.Done, func(x *sagas.Engine) {
		tells(t, "P7: while a partner is asked", x, begun(5, 3))
	})
	is(t, "P6: Tick", x.Tick(), api.OK)
	tells(t, "P6: behind it", x, api.Status{Id: 5, State: api.Running, Step: 2, Steps: 3})
}

// It may submit sagas, with lower and with higher ids; the one that it was asked for moves all the same.
func TestP1APartnerThatSubmits(t *testing.T) {
	d := formatted(t, 60)
	x, _ := calling(t, d, api.Done, func(x *sagas.Engine) {
		submit(t, x, 4, steps(2, "new"))
		submit(t, x, 6, steps(2, "new"))
		is(t, "P5: the same again", x.Submit(5, steps(3, "calls")), api.OK)
	})
	is(t, "P6: Tick", x.Tick(), api.OK)
	if s, _ := x.Status(5); s != (api.Status{Id: 5, State: api.Running, Step: 2, Steps: 3}) {
		t.Errorf("P6: behind a Submit meanwhile: %v", s)
	}
	tells(t, "P6: another engine", opened(t, d.After(nil)), plain.All(x, 9)...)
	for range 3 {
		is(t, "P6: Tick", x.Tick(), api.OK)
	}
	tells(t, "P6: the ends", x, api.Status{Id: 4, State: api.Committed, Steps: 2}, api.Status{Id: 5, State: api.Committed, Steps: 3}, api.Status{Id: 6, State: api.Committed, Steps: 2})
	tells(t, "P6: the ends, on another engine", opened(t, d.After(nil)), plain.All(x, 9)...)
}

// It may tick: a reply to what has moved meanwhile moves nothing any more, so that no step is passed by.
func TestP1APartnerThatTicks(t *testing.T) {
	for _, reply := range []int{api.Done, api.Later, api.Never, 77} {
		for ticks := range 5 {
			d := formatted(t, 60)
			x, p := calling(t, d, reply, func(x *sagas.Engine) {
				for range ticks {
					is(t, "P6: Tick in Tick", x.Tick(), api.OK)
				}
			})
			is(t, "P6: Tick", x.Tick(), api.OK)
			for range 20 {
				is(t, "P6: Tick", x.Tick(), api.OK)
			}
			state := api.Committed
			if reply == api.Never && ticks == 0 {
				state = api.Aborted
			}
			tells(t, "P6: the end", x, api.Status{Id: 5, State: state, Steps: 3})
			tells(t, "P6: the end, on another engine", opened(t, d.After(nil)), plain.All(x, 9)...)
			said := map[int]bool{}
			for _, a := range p.take() {
				said[a.C.Step] = said[a.C.Step] || a.Reply == api.Done
			}
			for step := 1; step <= 3 && state == api.Committed; step++ {
				if !said[step] {
					t.Errorf("P6: step %d was passed by", step)
				}
			}
		}
	}
}

// A reply that moves the saga does so, though the saga was asked for in vain meanwhile.
func TestP1InVainMeanwhile(t *testing.T) {
	d := formatted(t, 60)
	var x *sagas.Engine
	p := &partner{}
	depth := 0
	p.rule = func(c api.Call) int {
		if depth++; depth == 1 {
			is(t, "P6: Tick in Tick", x.Tick(), api.OK)
			return api.Done
		}
		return api.Later
	}
	x = p.opens(t, d, 4)
	submit(t, x, 1, steps(2, "a"))
	is(t, "P6: Tick", x.Tick(), api.OK)
	tells(t, "P6: behind it", x, api.Status{Id: 1, State: api.Running, Step: 2, Steps: 2})
}

// Where the device tells an error meanwhile, the engine has failed: nothing is written behind that, and nobody asked.
func TestP8FailedMeanwhile(t *testing.T) {
	for name, call := range map[string]func(x *sagas.Engine) error{
		"Submit": func(x *sagas.Engine) error { return x.Submit(7, steps(2, "new")) },
		"Tick":   func(x *sagas.Engine) error { return x.Tick() },
	} {
		for at := range 2 {
			for _, reply := range []int{api.Done, api.Later, api.Never} {
				d := formatted(t, 60)
				x, p := calling(t, d, reply, func(x *sagas.Engine) {
					d.Bad(at, 1)
					is(t, "P8: "+name+" in Tick", call(x), api.ErrIO)
				})
				submit(t, x, 6, steps(2, "next"))
				writes := d.Writes()
				is(t, "P8: Tick behind "+name, x.Tick(), api.ErrFailed)
				if d.Writes() > writes+at || len(p.take()) > 2 {
					t.Errorf("P8: behind the error of %s something is written or asked for", name)
				}
				failed(t, "P8: "+name+" failed meanwhile", x)
				for _, after := range afters(d) {
					opened(t, after)
				}
			}
		}
	}
}

// P7: Ticks on the way of All change nothing of what it tells.
func TestP7TicksOnTheWay(t *testing.T) {
	p := always(api.Done)
	x, o := submitted(t, formatted(t, 60), 4, p, 2, 2, 2)
	want := o.told()
	var got []api.Status
	for s := range x.All() {
		got = append(got, s)
		is(t, "P6: Tick on the way of All", x.Tick(), api.OK)
	}
	for i := range want {
		if got[i] != want[i] {
			t.Errorf("P7: All tells %v, want %v", got[i], want[i])
		}
	}
	tells(t, "P6: behind it", x, api.Status{Id: 1, State: api.Committed, Steps: 2}, api.Status{Id: 2, State: api.Committed, Steps: 2}, api.Status{Id: 3, State: api.Committed, Steps: 2})
}
