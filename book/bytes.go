package book

import (
	"quern/api"
	"quern/image"
	"quern/pack"
)

// Valid: whether an entry can stand in a log.
func Valid(e api.Entry) bool {
	return e.Kind >= api.EnNone && e.Kind <= api.EnUpgrade && e.Version >= 0 && e.Client >= 0 && e.Seq >= 0 && len(e.Data) <= api.MaxSource
}

// Entry: an entry's bytes; ErrArg.
func Entry(e api.Entry) ([]byte, api.Errno) {
	if !Valid(e) {
		return nil, api.ErrArg
	}
	return counted(pack.Put(nil, e.Kind, e.Version, e.Client, e.Seq), []byte(e.Data)), api.OK
}

// ReadEntry: the entry of bytes; ErrForm.
func ReadEntry(b []byte) (api.Entry, api.Errno) {
	r := pack.New(b)
	e := api.Entry{Kind: r.Number(), Version: r.Number(), Client: r.Number(), Seq: r.Number(), Data: string(uncounted(r))}
	if !r.End() || !Valid(e) {
		return api.Entry{}, api.ErrForm
	}
	return e, api.OK
}

// Encode: a book's bytes; ErrNil.
func (b *Book) Encode() ([]byte, api.Errno) {
	if b == nil {
		return nil, api.ErrNil
	}
	states, e := image.Encode(b.program, b.held.States)
	if e != api.OK {
		return nil, e // layer 17 has no such error of a state
	}
	out := counted(nil, []byte(b.held.Source))
	out = counted(out, states)
	out = numbers(out, len(b.held.Sessions))
	for _, s := range b.held.Sessions {
		out = numbers(out, s.Client, s.Seq, int(s.Reply.Err))
		out = counted(out, image.Any(s.Reply.Value))
	}
	return out, api.OK
}

// counted answers bytes with others behind them, ahead of which stands how many they are.
func counted(b, others []byte) []byte { return append(numbers(b, len(others)), others...) }

// numbers answers bytes with numbers behind them. Layer 1 would copy the bytes each time, however many there are by now.
func numbers(b []byte, xs ...int) []byte { return append(b, pack.Put(nil, xs...)...) }

// Decode: the book of bytes; ErrForm, and the errors of its text and its state.
func Decode(x []byte) (*Book, api.Errno) {
	r := pack.New(x)
	src := string(uncounted(r))
	states := uncounted(r)
	sessions, ok := takeSessions(r)
	if !ok || !r.End() { // the form of it all comes ahead of what the texts say
		return nil, api.ErrForm
	}
	b, _, e := New(src)
	if e != api.OK {
		return nil, e
	}
	b.held.States, e = image.Decode(b.program, states)
	if e != api.OK {
		return nil, e
	}
	b.held.Sessions = sessions
	return b, api.OK
}

// uncounted takes bytes ahead of which stands how many they are.
func uncounted(r *pack.Reader) []byte { return r.Bytes(r.Number()) }

// takeSessions takes how many sessions there are, and these; false: there are none such. As the clients rise, it ends soon of any number.
func takeSessions(r *pack.Reader) ([]api.Session, bool) {
	var out []api.Session
	last := -1
	for n := r.Number(); n > 0; n-- {
		s, ok := takeSession(r)
		if !ok || s.Client <= last {
			return nil, false
		}
		out = append(out, s)
		last = s.Client
	}
	return out, true
}

// takeSession takes a session; false: there is none such. Where the bytes end too early none are left for the value, and no value has no bytes.
func takeSession(r *pack.Reader) (api.Session, bool) {
	s := api.Session{Client: r.Number(), Seq: r.Number(), Reply: api.Reply{Err: api.Errno(r.Number())}}
	v, e := image.ReadAny(uncounted(r))
	s.Reply.Value = v
	return s, e == api.OK && isClient(s.Client) && isSeq(s.Seq)
}
