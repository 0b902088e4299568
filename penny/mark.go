package penny

import (
	"maps"
	"slices"

	"gasworks/api"
)

// byHours returns what had been used by the end of the hour of each mark, and whether all marks of the same hour agree.
func byHours(marks []api.Mark) (used map[int]int, agree bool) {
	used = map[int]int{}
	for _, m := range marks {
		if was, is := used[m.Hour]; is && was != m.Used {
			return nil, false
		}
		used[m.Hour] = m.Used
	}
	return used, true
}

// sorted returns the marks by their hours, each of them once.
func sorted(used map[int]int) []api.Mark {
	var l []api.Mark
	for _, hour := range slices.Sorted(maps.Keys(used)) {
		l = append(l, api.Mark{Hour: hour, Used: used[hour]})
	}
	return l
}

// rise tells whether no mark has less than the one before it.
func rise(marks []api.Mark) bool {
	for i := range len(marks) - 1 {
		if marks[i].Used > marks[i+1].Used {
			return false
		}
	}
	return true
}
