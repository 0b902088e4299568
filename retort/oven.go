package retort

import "gasworks/api"

// An oven is a retort with which stokes can be done: each one returns the retort as it then is.
type oven api.Oven

// kinds returns what stokes do, by the numbers of api.
func kinds() [api.LightUp + 1]func(oven, api.House, api.Stoke) oven {
	return [...]func(oven, api.House, api.Stoke) oven{
		api.Charge:  oven.charge,
		api.Empty:   oven.empty,
		api.Scour:   oven.scour,
		api.LetOut:  oven.letOut,
		api.LightUp: oven.lightUp,
	}
}

// need panics with the error unless something is so. Whoever does a stoke recovers it.
func need(is bool, e api.Errno) {
	if !is {
		panic(e)
	}
}

func (o oven) charge(w api.House, k api.Stoke) oven {
	need(o.State == api.Hot, api.ErrState)
	need(k.Hour >= o.Since, api.ErrOrder)
	need(o.Runs < w.Runs, api.ErrRefuse)
	o.State, o.Since, o.Tons = api.Baking, k.Hour, k.Tons
	o.Runs++
	return o
}

func (o oven) empty(w api.House, k api.Stoke) oven {
	need(o.State == api.Baking, api.ErrState)
	need(k.Hour >= o.Since+w.Least, api.ErrOrder)
	o.State, o.Since, o.Tons = api.Hot, k.Hour, 0
	return o
}

func (o oven) scour(w api.House, k api.Stoke) oven {
	need(o.State == api.Hot, api.ErrState)
	need(k.Hour >= o.Since, api.ErrOrder)
	o.Since, o.Runs = k.Hour+w.Scurf, 0
	return o
}

func (o oven) letOut(_ api.House, k api.Stoke) oven {
	need(o.State == api.Hot, api.ErrState)
	need(k.Hour >= o.Since, api.ErrOrder)
	o.State, o.Since = api.Cold, k.Hour
	return o
}

func (o oven) lightUp(w api.House, k api.Stoke) oven {
	need(o.State == api.Cold, api.ErrState)
	o.State, o.Since = api.Hot, k.Hour
	if o.Coolings == w.Coolings {
		o.State = api.Cracked
	}
	o.Coolings++
	return o
}
