package wire_test

import (
	"math/rand"
	"slices"
	"strings"
	"testing"

	"copse/api"
	"copse/wire"
)

// wantCommand holds what Command answers, and that a reader takes it back.
func wantCommand(t *testing.T, words []string, fault error) {
	t.Helper()
	got, err := wire.Command(words)
	want := ""
	if fault == nil {
		want = command(words...)
	}
	if got != want || err != fault {
		t.Fatalf("Command of %d words, %.60q = %.60q, %v, want %.60q, %v", len(words), words, got, err, want, fault)
	}
	if fault == nil {
		wantWords(t, got, words...)
	}
}

func TestP24_3_Command(t *testing.T) {
	for n := 1; n <= 16; n++ {
		wantCommand(t, slices.Repeat([]string{"w"}, n), nil)
		wantCommand(t, slices.Repeat([]string{""}, n), nil)
	}
	for _, n := range []int{0, 1, 2, 9, 10, 99, 100, 999, 1000, 9999, 10000, 65535, 65536} {
		w := strings.Repeat("w", n)
		wantCommand(t, []string{w}, nil)
		wantCommand(t, []string{"a", w, ""}, nil)
	}
	for b := range 256 {
		s := string([]byte{byte(b)})
		wantCommand(t, []string{s}, nil)
		wantCommand(t, []string{"a" + s, s + s + "\r\n"}, nil)
	}
	wantCommand(t, slices.Repeat([]string{strings.Repeat("\n", most)}, 16), nil)
}

func TestP24_3_Refusals(t *testing.T) {
	wide := strings.Repeat("w", most+1)
	wantCommand(t, nil, api.ErrArg)
	wantCommand(t, []string{}, api.ErrArg)
	for _, n := range []int{17, 18, 100, 999999, 1000000} {
		wantCommand(t, make([]string, n), api.ErrMany)
	}
	for i := range 16 {
		for _, w := range []string{wide, wide + "w", strings.Repeat(wide, 10)} {
			words := make([]string, 16)
			words[i] = w
			wantCommand(t, words, api.ErrMany)
			wantCommand(t, words[:i+1], api.ErrMany)
			wantCommand(t, append(words, "a"), api.ErrMany)
		}
	}
	wantCommand(t, []string{wide, wide}, api.ErrMany)
}

func TestP24_3_AnyCommand(t *testing.T) {
	rnd := rand.New(rand.NewSource(243))
	seen := map[error]int{}
	for range 400 {
		words := make([]string, rnd.Intn(20))
		for i := range words {
			words[i] = anyWord(rnd)
		}
		if rnd.Intn(4) == 0 && len(words) > 0 {
			words[rnd.Intn(len(words))] = strings.Repeat("x", most+rnd.Intn(3))
		}
		var fault error
		switch {
		case len(words) == 0:
			fault = api.ErrArg
		case len(words) > 16 || slices.ContainsFunc(words, func(s string) bool { return len(s) > 65536 }):
			fault = api.ErrMany
		}
		seen[fault]++
		wantCommand(t, words, fault)
	}
	if seen[nil] < 100 || seen[api.ErrMany] < 50 || seen[api.ErrArg] < 5 {
		t.Errorf("seen: %v", seen)
	}
}
