package script

import (
	"strconv"
	"strings"

	"copse/api"
	"copse/kv"
)

// Answers of one word.
const (
	done    = "ok"
	nothing = "none"
)

// refusals is their names, from the first of package api's to the last.
var refusals = [13]string{"arg", "text", "many", "short", "twice", "lost", "full", "dead", "corrupt", "status", "txid", "order", "kind"}

// nameOf is the name of a refusal.
func nameOf(err error) string {
	values := [len(refusals)]error{
		api.ErrArg, api.ErrText, api.ErrMany, api.ErrShort, api.ErrTwice, api.ErrLost, api.ErrFull,
		api.ErrDead, api.ErrCorrupt, api.ErrStatus, api.ErrTxid, api.ErrOrder, api.ErrKind,
	}
	for i, value := range values {
		if err == value {
			return refusals[i]
		}
	}
	return ""
}

// command is what the first word of a line stands for.
type command struct {
	arguments int
	orMore    bool // it takes any number of arguments behind these
	do        func(p *player, arguments []string) (string, error)
}

func (c command) takes(arguments int) bool {
	return arguments == c.arguments || c.orMore && arguments > c.arguments
}

// commands is what can be asked for.
func commands() map[string]command {
	return map[string]command{
		"format":   plainCall(func(s *kv.Store) error { return s.Format() }),
		"open":     plainCall(func(s *kv.Store) error { return s.Open() }),
		"close":    plainCall(func(s *kv.Store) error { return s.Close() }),
		"begin":    plainCall(func(s *kv.Store) error { return s.Begin() }),
		"commit":   plainCall(func(s *kv.Store) error { return s.Commit() }),
		"rollback": plainCall(func(s *kv.Store) error { return s.Rollback() }),
		"put":      {arguments: 2, do: put},
		"delete":   {arguments: 1, do: remove},
		"get":      {arguments: 1, do: get},
		"scan":     {arguments: 3, do: scan},
		"status":   {do: status},
		"txid":     {do: txid},
		"counts":   {do: counts},
		"crash":    {orMore: true, do: crash},
		"arm":      {arguments: 1, orMore: true, do: arm},
		"boot":     {do: boot},
	}
}

// plainCall is the command of a call that is handed nothing and tells no more than whether it was done.
func plainCall(call func(s *kv.Store) error) command {
	return command{do: func(p *player, _ []string) (string, error) {
		return done, call(p.store)
	}}
}

func put(p *player, arguments []string) (string, error) {
	return done, p.store.Put(arguments[0], arguments[1])
}

func remove(p *player, arguments []string) (string, error) {
	had, err := p.store.Delete(arguments[0])
	if !had {
		return nothing, err
	}
	return done, err
}

func get(p *player, arguments []string) (string, error) {
	value, has, err := p.store.Get(arguments[0])
	if !has {
		return nothing, err
	}
	return "value " + Quote(value), err
}

func scan(p *player, arguments []string) (string, error) {
	limit, err := numberOf(arguments[2])
	if err != nil {
		return "", err
	}
	pairs, err := p.store.Scan(arguments[0], arguments[1], limit)
	if err != nil {
		return "", err
	}
	words := []string{"pairs", strconv.Itoa(len(pairs))}
	for _, x := range pairs {
		words = append(words, Quote(x.Key), Quote(x.Value))
	}
	return sentence(words...), nil
}

func status(p *player, _ []string) (string, error) {
	return sentence("status", strconv.Itoa(p.store.Status())), nil
}

func txid(p *player, _ []string) (string, error) {
	return sentence("txid", strconv.FormatUint(p.store.Txid(), 10)), nil
}

func counts(p *player, _ []string) (string, error) {
	_, written, synced := p.device.Counts()
	return sentence("counts", strconv.Itoa(written), strconv.Itoa(synced)), nil
}

func sentence(words ...string) string { return strings.Join(words, string(blank)) }

func crash(p *player, arguments []string) (string, error) {
	fates, err := fatesOf(arguments)
	if err != nil {
		return "", err
	}
	p.device.Crash(fates)
	p.boot()
	return done, nil
}

func arm(p *player, arguments []string) (string, error) {
	after, err := numberOf(arguments[0])
	if err != nil {
		return "", err
	}
	fates, err := fatesOf(arguments[1:])
	if err != nil {
		return "", err
	}
	p.device.Arm(after, fates)
	return done, nil
}

func boot(p *player, _ []string) (string, error) {
	p.boot()
	return done, nil
}

// boot brings the power back. A store that has seen it fail is dead for good, so there is a new one.
func (p *player) boot() {
	p.device.Revive()
	p.store = kv.New(p.device)
}
