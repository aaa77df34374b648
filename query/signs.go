package query

import "copse/api"

// sign is a sign of a condition: how it is written, and whether a condition with it holds, where the record's item stands so to the condition's.
type sign struct {
	text  string
	holds func(order int) bool
}

// signs is the signs by their numbers; there is none of 0.
func signs() []sign {
	return []sign{
		api.SignEqual:   {"=", func(order int) bool { return order == 0 }},
		api.SignLess:    {"<", func(order int) bool { return order < 0 }},
		api.SignAtMost:  {"<=", func(order int) bool { return order <= 0 }},
		api.SignMore:    {">", func(order int) bool { return order > 0 }},
		api.SignAtLeast: {">=", func(order int) bool { return order >= 0 }},
	}
}

func isSign(n int) bool { return n >= api.SignEqual && n <= api.SignAtLeast }
