package run

import "touchstone/api"

func made(k int, args ...api.Value) api.Value { return api.Value{K: k, Args: args} }

func number(k, n int) api.Value { return api.Value{K: k, N: n} }

func some(v api.Value) api.Value { return made(api.Option, v) }

func none() api.Value { return made(api.Option) }

func pair(a, b api.Value) api.Value { return made(api.Pair, a, b) }

func text(s string) api.Value { return api.Value{K: api.String, S: s} }

func truth(yes bool) api.Value {
	if yes {
		return number(api.Bool, 1)
	}
	return number(api.Bool, 0)
}

func isTrue(v api.Value) bool { return v.N == 1 }

func ticket(maker, n int, of api.Value) api.Value {
	return api.Value{K: api.Ticket, A: maker, N: n, Args: []api.Value{of}}
}
