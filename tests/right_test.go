package tests

import "testing"

// tellsApart asks the program and the words for each of right and of wrong, which stand by what they are there for.
func tellsApart[T any](t *testing.T, right, wrong map[string]T, words, program func(x T) bool) {
	t.Helper()
	for why, x := range right {
		if !words(x) || !program(x) {
			t.Errorf("right, %.60s: %v, by the words %v", why, program(x), words(x))
		}
	}
	for why, x := range wrong {
		if words(x) || program(x) {
			t.Errorf("wrong, %.60s: %v, by the words %v", why, program(x), words(x))
		}
	}
}
