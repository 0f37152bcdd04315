// Package turn holds a session of a machine that a step is to turn.
package turn

import (
	"veil/anew"
	"veil/api"
)

// Session is a session and the machine it is of, which is a copy of one's own: what is turned of the one is turned of the other, and the machine is the answer.
type Session struct {
	api.Machine
	*api.Session
}

// Of asks for a session that is there.
func Of(m api.Machine, at int) Session {
	own := anew.Machine(m)
	return Session{own, &own.Sessions[at]}
}

// Word is where the word lies that the write at At is of; such a write must be there.
func (s Session) Word() *api.Word {
	write := s.Writes[s.At]
	return &s.Words[write.Level][write.Index]
}
