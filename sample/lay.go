package sample

import (
	"slices"

	"veil/api"
)

// Word is where a word of a machine lies that has four at each level. Words are numbered from level 0's first to level 3's last.
func Word(m api.Machine, word int) *api.Word { return &m.Words[word/4][word%4] }

// But are so many words but one, rising, from all over the levels.
func But(word int, n int) []int {
	var words []int
	for k := range 16 {
		if other := k * 5 % 16; other != word && len(words) < n {
			words = append(words, other)
		}
	}
	slices.Sort(words)
	return words
}

// Writes are of these words, which rise; each Value tells its word.
func Writes(words ...int) []api.Write {
	var ws []api.Write
	for _, word := range words {
		ws = append(ws, api.Write{Level: word / 4, Index: word % 4, Value: 200 + word})
	}
	return ws
}

// Reads are of these words, as they are.
func Reads(m api.Machine, words ...int) []api.Read {
	var rs []api.Read
	for _, word := range words {
		rs = append(rs, api.Read{Level: word / 4, Index: word % 4, Version: Word(m, word).Version})
	}
	return rs
}

// Unlocked is Machine, but that nobody locks a word of it.
func Unlocked(sessions int) api.Machine {
	m := Machine(sessions)
	for _, list := range m.Words {
		for index := range list {
			list[index].Lock = 0
		}
	}
	return m
}

// Tangled is a machine of four sessions that are like one but for their Ids: in it all lists of a kind are one list.
func Tangled(like api.Session) api.Machine {
	ws := []api.Word{{Value: 5}, {Value: 6}, {Value: 7}, {Value: 8}}
	m := api.Machine{Words: [4][]api.Word{ws, ws, ws, ws}}
	for like.Id = range 4 {
		m.Sessions = append(m.Sessions, like)
	}
	return m
}
