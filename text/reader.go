package text

import "wanderstaff/api"

// reader goes through a text once, from its beginning on, so that what is wrong first is what is told.
type reader struct {
	text  string
	at    int
	forms map[string]form
}

// ended tells whether nothing but blanks and line feeds is left.
func (r *reader) ended() bool {
	for r.at < len(r.text) && (r.text[r.at] == ' ' || r.text[r.at] == '\n') {
		r.at++
	}
	return r.at == len(r.text)
}

// next is the byte that stands next, where something must be.
func (r *reader) next() (byte, api.Errno) {
	if r.ended() {
		return 0, api.ErrEnd
	}
	return r.text[r.at], api.OK
}

func (r *reader) bracket(want byte) api.Errno {
	c, err := r.next()
	if err != api.OK {
		return err
	}
	if c != want {
		return api.ErrForm
	}
	r.at++
	return api.OK
}

func (r *reader) word() (string, api.Errno) {
	if _, err := r.next(); err != api.OK {
		return "", err
	}
	from := r.at
	for r.at < len(r.text) && !endsWord(r.text[r.at]) {
		r.at++
	}
	if r.at == from {
		return "", api.ErrForm
	}
	return r.text[from:r.at], api.OK
}

func endsWord(c byte) bool {
	switch c {
	case ' ', '\n', '(', ')', '\'':
		return true
	}
	return false
}

func (r *reader) name() (string, api.Errno) {
	w, err := r.word()
	if err != api.OK {
		return "", err
	}
	if !isName(w, r.forms) {
		return "", api.ErrName
	}
	return w, api.OK
}

// quoted is the text between two quotes, of which the first one stands next.
func (r *reader) quoted() (string, api.Errno) {
	r.at++
	from := r.at
	for r.at < len(r.text) && r.text[r.at] != '\'' {
		r.at++
	}
	if r.at == len(r.text) {
		return "", api.ErrEnd
	}
	s := r.text[from:r.at]
	if !Word(s) {
		return "", api.ErrForm
	}
	r.at++
	return s, api.OK
}

// upTo has one read what stands ahead of the next ) that is not within it, piece by piece, and goes behind that ).
func (r *reader) upTo(one func() api.Errno) api.Errno {
	for {
		c, err := r.next()
		if err != api.OK {
			return err
		}
		if c == ')' {
			r.at++
			return api.OK
		}
		if err := one(); err != api.OK {
			return err
		}
	}
}
