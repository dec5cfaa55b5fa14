package heads

import (
	"junction/api"
	"junction/arith"
)

// step is the one that is being made, over sound tables and heads.
type step struct {
	api.Tables
	old    api.Heads
	want   uint64
	aspect []int // the new picture as it stands by now
}

// next is the heads at the next tick.
func next(t api.Tables, h api.Heads, want uint64) api.Heads {
	s := &step{Tables: t, old: h, want: want, aspect: make([]int, len(h.Aspect))}
	s.goOn()
	s.begin()
	return s.counted()
}

// goOn is the first pass: what each group does by itself.
func (s *step) goOn() {
	does := [...]func(group int) int{api.Red: s.fromRed, api.Lead: s.fromLead, api.Green: s.fromGreen, api.Amber: s.fromAmber}
	for i, aspect := range s.old.Aspect {
		s.aspect[i] = does[aspect](i)
	}
}

// fromRed holds a group for the time being: whether it starts hangs on its foes.
func (s *step) fromRed(int) int { return api.Red }

// fromLead does not ask what is wanted: a lead that has begun ends in a green.
func (s *step) fromLead(group int) int {
	if s.in(group) < s.Groups[group].Lead {
		return api.Lead
	}
	return api.Green
}

func (s *step) fromGreen(group int) int {
	switch row := s.Groups[group]; {
	case has(s.want, group), s.in(group) < row.Min:
		return api.Green
	case row.Amber > 0:
		return api.Amber
	}
	return api.Red
}

func (s *step) fromAmber(group int) int {
	if s.in(group) < s.Groups[group].Amber {
		return api.Amber
	}
	return api.Red
}

func (s *step) in(group int) int { return int(s.old.In[group]) }

// begin is the second pass: a start holds back the foes of a greater number.
func (s *step) begin() {
	foes, held := s.foes(), s.held()
	lit := s.lit()
	for i, aspect := range s.old.Aspect {
		if aspect == api.Red && has(s.want&^held, i) && foes[i]&lit == 0 {
			s.aspect[i] = s.first(i)
			lit |= 1 << i
		}
	}
}

// foes are, for each group, the groups that conflict with it.
func (s *step) foes() [api.MaxGroups]uint64 {
	var list [api.MaxGroups]uint64
	for _, c := range s.Conflicts {
		list[c.A] |= 1 << c.B
		list[c.B] |= 1 << c.A
	}
	return list
}

// held are the groups that have a foe from which the intergreen has not gone by.
func (s *step) held() uint64 {
	var mask uint64
	for _, c := range s.Conflicts {
		if int(s.old.Away[c.A]) < c.AB {
			mask |= 1 << c.B
		}
		if int(s.old.Away[c.B]) < c.BA {
			mask |= 1 << c.A
		}
	}
	return mask
}

// lit are the groups that are not red in the new picture.
func (s *step) lit() uint64 {
	var mask uint64
	for i, aspect := range s.aspect {
		if aspect != api.Red {
			mask |= 1 << i
		}
	}
	return mask
}

// first is what a group that starts shows.
func (s *step) first(group int) int {
	if s.Groups[group].Lead > 0 {
		return api.Lead
	}
	return api.Green
}

// counted is the new picture with its history.
func (s *step) counted() api.Heads {
	h := api.Heads{Aspect: s.aspect, In: make([]int32, len(s.aspect)), Away: make([]int32, len(s.aspect))}
	for i, aspect := range s.aspect {
		h.In[i] = 1
		if aspect == s.old.Aspect[i] {
			h.In[i] = arith.Up(s.old.In[i])
		}
		if aspect != api.Green {
			h.Away[i] = arith.Up(s.old.Away[i])
		}
	}
	return h
}
