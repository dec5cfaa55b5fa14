package heads

import "junction/api"

// letters stand by the numbers of the aspects.
const letters = "rlga"

func letter(aspect int) byte {
	if aspect < 0 || aspect >= len(letters) {
		return '?'
	}
	return letters[aspect]
}

// allRed counts no tick of red ahead of this one: behind a power cut every intergreen is waited for anew.
func allRed(groups int) api.Heads {
	h := api.Heads{Aspect: make([]int, groups), In: make([]int32, groups), Away: make([]int32, groups)}
	for i := range groups {
		h.Aspect[i], h.In[i], h.Away[i] = api.Red, 1, 1
	}
	return h
}

// fits tells whether heads are sound for tables that are.
func fits(t api.Tables, h api.Heads) bool {
	n := len(t.Groups)
	if len(h.Aspect) != n || len(h.In) != n || len(h.Away) != n {
		return false
	}
	for i, g := range t.Groups {
		if !fitsGroup(g, h.Aspect[i], h.In[i], h.Away[i]) {
			return false
		}
	}
	for _, c := range t.Conflicts {
		if h.Aspect[c.A] != api.Red && h.Aspect[c.B] != api.Red {
			return false
		}
	}
	return true
}

func fitsGroup(g api.Group, aspect int, in, away int32) bool {
	if in < 1 || away < 0 || (aspect == api.Green) != (away == 0) {
		return false
	}
	switch aspect {
	case api.Red, api.Green:
		return true
	case api.Lead:
		return int(in) <= g.Lead
	case api.Amber:
		return int(in) <= g.Amber
	}
	return false
}

// has asks for a group of a sound table: 0 to 63.
func has(mask uint64, group int) bool { return mask>>group&1 == 1 }
