package season

// A state is what the days ahead of a day leave to the others: two beginnings of a plan with the same state can go on in the same ways. There can be many of them, so their numbers are small.
type state struct {
	day         int16
	wait        int16              // days on which nothing hard can be done
	lack, spare [MaxSessions]int16 // how often each session must still be done in the week, and how often it can be
	need        int16              // load that the week must still have
	load        int16              // of the week, as far as it bounds the next one
	room        [MaxDays]int16     // the most load that the days up to each one can still have
}

func (f *frame) firstState() state {
	var s state
	for last := range s.room {
		s.room[last] = unbounded
	}
	return f.entered(s)
}

// step returns the state behind a day, unless the choice for it cannot be.
func (f *frame) step(s state, choice int) (state, bool) {
	day := int(s.day)
	x := f.sessions[choice+1]
	load := int16(x.Load)
	if x.Hard && s.wait > 0 || !f.takeRoom(&s, load) {
		return state{}, false
	}
	s.wait = max(s.wait-1, 0)
	if x.Hard {
		s.wait = f.apart - 1
	}
	if choice >= 0 {
		if s.spare[choice] == 0 {
			return state{}, false
		}
		s.spare[choice]--
		s.lack[choice] = max(s.lack[choice]-1, 0)
	}
	s.need = max(s.need-load, 0)
	s.load = min(s.load+load, f.matters[day/weekLong])
	s.day++
	if !f.canReach(s, f.weekEnd(day)) {
		return state{}, false
	}
	return f.entered(s), true
}

// takeRoom takes a load from all bounds of a day, and reports whether they have room for it.
func (f *frame) takeRoom(s *state, load int16) bool {
	for last := int(s.day); last < f.days; last++ {
		if s.room[last] < load {
			return false
		}
		if s.room[last] < unbounded {
			s.room[last] -= load
		}
	}
	s.room[s.day] = unbounded
	return true
}

// canReach reports whether the days up to the end of the week can have what it must still have.
func (f *frame) canReach(s state, end int) bool {
	lack := 0
	for _, n := range s.lack {
		lack += int(n)
	}
	return lack <= end-int(s.day) && s.need <= f.top(int(s.day), end)
}

// entered returns a state with what begins on its day, and makes equal what is not the same but comes to the same.
func (f *frame) entered(s state) state {
	day := int(s.day)
	if day == f.days {
		return state{day: s.day}
	}
	if day%weekLong == 0 {
		f.beginWeek(&s)
	}
	for _, b := range f.bounds[day] {
		s.room[b.last] = min(s.room[b.last], b.most)
	}
	f.loosen(&s)
	return s
}

func (f *frame) beginWeek(s *state) {
	day := int(s.day)
	end := f.weekEnd(day)
	s.spare = f.high
	if (stretch{day, end}).isWeek() {
		s.lack, s.need = f.low, f.least
	}
	if day > 0 && f.grow >= 0 {
		s.room[end-1] = min(s.room[end-1], clamped(f.grow*int(s.load)/100))
	}
	s.load = 0
}

// loosen takes away what cannot matter: more than the days left can have, and bounds that hold where a later one does.
func (f *frame) loosen(s *state) {
	day := int(s.day)
	left := int16(f.weekEnd(day) - day)
	for k, n := range s.spare {
		s.spare[k] = min(n, left)
	}
	s.wait = min(s.wait, int16(f.days-day))
	var least int16 = unbounded
	for last := f.days - 1; last >= day; last-- {
		if s.room[last] >= min(least, f.top(day, last+1)) {
			s.room[last] = unbounded
		}
		least = min(least, s.room[last])
	}
}
