package tests

import (
	"math"
	"slices"
	"strings"
	"testing"

	"loop.example/g00933/impl"
)

// peopleWith are people with the Skills in order, the Ids 1, 2, 3 and so on, and 10 Trips each.
func peopleWith(skills ...int) []impl.Person {
	list := []impl.Person{}
	for i, s := range skills {
		list = append(list, impl.Person{Id: i + 1, Name: string(rune('a' + i)), Skills: s, Trips: 10})
	}
	return list
}

func withTrips(list []impl.Person, trips ...int) []impl.Person {
	list = slices.Clone(list)
	for i, n := range trips {
		list[i].Trips = n
	}
	return list
}

// fullHouse has MaxPeople people, all with the Skills.
func fullHouse(skills int) []impl.Person {
	return peopleWith(slices.Repeat([]int{skills}, impl.MaxPeople)...)
}

func (n *numbers) people(count int) []impl.Person {
	list := []impl.Person{}
	for i := range count {
		name := strings.Repeat(string(rune('a'+i)), n.within(1, 10))
		list = append(list, impl.Person{Id: i*9 + n.within(1, 9), Name: name, Skills: n.next(16), Trips: n.within(0, 12)})
	}
	return list
}

// ruledName follows the document's words on a word.
func ruledName(name string) bool {
	return len(name) >= 1 && len(name) <= 10 && strings.Trim(name, "abcdefghijklmnopqrstuvwxyz") == ""
}

func ruledPeople(list []impl.Person) bool {
	ids, names := map[int]bool{}, map[string]bool{}
	for i, x := range list {
		if x.Id < 1 || x.Id > 99 || !ruledName(x.Name) || x.Skills < 0 || x.Skills > 15 || x.Trips < 0 || x.Trips > 500 {
			return false
		}
		if i > 0 && x.Id < list[i-1].Id {
			return false
		}
		ids[x.Id], names[x.Name] = true, true
	}
	return len(list) <= 10 && len(ids) == len(list) && len(names) == len(list)
}

// ruledMembers finds the people with the Ids, if there are such and the Ids ascend.
func ruledMembers(list []impl.Person, team []int) ([]impl.Person, bool) {
	members := []impl.Person{}
	for i, id := range team {
		at := slices.IndexFunc(list, func(x impl.Person) bool { return x.Id == id })
		if at < 0 || i > 0 && id <= team[i-1] {
			return nil, false
		}
		members = append(members, list[at])
	}
	return members, ruledPeople(list)
}

// ruledTeam looks for a member who keeps the book and another one who holds the tape.
func ruledTeam(list []impl.Person, team []int) (bool, bool) {
	members, ok := ruledMembers(list, team)
	if !ok || len(members) < 2 || len(members) > 5 {
		return false, ok
	}
	for i, a := range members {
		for j, b := range members {
			if i != j && a.Skills%2 == 1 && b.Skills/2%2 == 1 {
				return true, true
			}
		}
	}
	return false, true
}

// ruledSkills adds up each constant that a member has.
func ruledSkills(list []impl.Person, team []int) int {
	sum := 0
	members, _ := ruledMembers(list, team)
	for _, skill := range []int{1, 2, 4, 8} {
		if slices.ContainsFunc(members, func(x impl.Person) bool { return x.Skills/skill%2 == 1 }) {
			sum += skill
		}
	}
	return sum
}

func ruledTrips(list []impl.Person, team []int) int {
	sum := 0
	members, _ := ruledMembers(list, team)
	for _, x := range members {
		sum += x.Trips
	}
	return sum
}

// someOf are the Ids of the people whose places are the ones in the bits of set.
func someOf(list []impl.Person, set int) []int {
	ids := []int{}
	for i, x := range list {
		if set>>i&1 == 1 {
			ids = append(ids, x.Id)
		}
	}
	return ids
}

// ruledTeams are the sets of all teams, in lexicographic order of their Ids.
func ruledTeams(list []impl.Person) []int {
	sets := []int{}
	for set := range 1 << len(list) {
		if yes, _ := ruledTeam(list, someOf(list, set)); yes {
			sets = append(sets, set)
		}
	}
	slices.SortFunc(sets, func(a, b int) int { return slices.Compare(someOf(list, a), someOf(list, b)) })
	return sets
}

// mostTeams tells for each set of people how many teams without a common member it has at most,
// whatever their sizes are.
func mostTeams(list []impl.Person, teams []int) []int {
	most := make([]int, 1<<len(list))
	for set := range most {
		for _, team := range teams {
			if team&^set == 0 {
				most[set] = max(most[set], 1+most[set&^team])
			}
		}
	}
	return most
}

func ruledSplit(list []impl.Person) [][]int {
	split, teams := [][]int{}, ruledTeams(list)
	most, rest := mostTeams(list, teams), 1<<len(list)-1
	for left := min(3, most[rest]); left > 0; left-- {
		at := slices.IndexFunc(teams, func(team int) bool { return team&^rest == 0 && most[rest&^team] >= left-1 })
		split = append(split, someOf(list, teams[at]))
		rest &^= teams[at]
	}
	return split
}

// ruledSmallest is empty if there is no team.
func ruledSmallest(list []impl.Person, skills int) []int {
	smallest := []int{}
	for _, set := range ruledTeams(list) {
		team := someOf(list, set)
		if ruledTrips(list, team) < 20 || skills&^ruledSkills(list, team) != 0 {
			continue
		}
		if len(smallest) == 0 || len(team) < len(smallest) {
			smallest = team
		}
	}
	return smallest
}

// spoiltPeople are invalid: the zero Person, and others in one field each.
func spoiltPeople() []impl.Person {
	list := []impl.Person{{}}
	for _, id := range []int{0, -1, 100, math.MaxInt, math.MinInt} {
		list = append(list, impl.Person{Id: id, Name: "spoilt", Skills: 3, Trips: 30})
	}
	for _, name := range badNames {
		list = append(list, impl.Person{Id: 50, Name: name, Skills: 3, Trips: 30})
	}
	for _, skills := range []int{-1, 16, 17, math.MaxInt, math.MinInt} {
		list = append(list, impl.Person{Id: 50, Name: "spoilt", Skills: skills, Trips: 30})
	}
	for _, trips := range []int{-1, 501, 502, math.MaxInt, math.MinInt} {
		list = append(list, impl.Person{Id: 50, Name: "spoilt", Skills: 3, Trips: trips})
	}
	return list
}

var badNames = []string{
	"", " ", "abcdefghijk", "a b", " ab", "ab ", "ab\n", "Ab", "aB", "ABC", "a`", "a{", "a1", "0", "a-b", "a_", "a.", "a\x00", "\x00",
	"\xff", "a\x80", "\u00e9", "\u00e4b", "\uff41", "abcdefghi\u00e9", "abcdefghijA", strings.Repeat("a", 266), strings.Repeat("z", 5000),
}

// spoiltLists are lists that are no people: too long, out of order, with an Id or a Name twice,
// and with one invalid person beside valid ones or alone.
func spoiltLists() [][]impl.Person {
	house := fullHouse(3)
	lists := [][]impl.Person{append(slices.Clone(house), impl.Person{Id: 11, Name: "k"}), {house[1], house[0]}, {house[0], house[2], house[1]}}
	for i := 1; i < len(house); i++ {
		twice, named, first := slices.Clone(house), slices.Clone(house), slices.Clone(house)
		twice[i].Id, named[i].Name, first[0].Name = twice[i-1].Id, named[i-1].Name, first[i].Name
		lists = append(lists, twice, named, first)
	}
	for _, x := range spoiltPeople() {
		lists = append(lists, []impl.Person{x}, []impl.Person{house[0], house[1], x}, []impl.Person{house[0], x, {Id: 99, Name: "last"}})
	}
	for i := range house {
		list := slices.Clone(house)
		list[i].Name = "Z"
		lists = append(lists, list)
	}
	return lists
}

func TestTeamConstants(t *testing.T) {
	if impl.MaxPeople != 10 || impl.SkillBook != 1 || impl.SkillTape != 2 || impl.SkillRope != 4 || impl.SkillWater != 8 {
		t.Error("constants", impl.MaxPeople, impl.SkillBook, impl.SkillTape, impl.SkillRope, impl.SkillWater)
	}
}

func TestArePeopleAtTheLimits(t *testing.T) {
	lists := [][]impl.Person{
		nil, {}, peopleWith(0), fullHouse(0), fullHouse(15),
		{{Id: 1, Name: "a"}}, {{Id: 99, Name: "a"}}, {{Id: 1, Name: "a"}, {Id: 99, Name: "b"}},
		{{Id: 5, Name: "a"}}, {{Id: 5, Name: "z"}}, {{Id: 5, Name: "abcdefghij"}}, {{Id: 5, Name: "zzzzzzzzzz"}},
		{{Id: 5, Name: "qrstuvwxyz"}}, {{Id: 5, Name: "klmnop"}}, {{Id: 5, Name: "a", Skills: 15}}, {{Id: 5, Name: "a", Trips: 500}},
		// Names need not ascend, and one may begin with another one.
		{{Id: 1, Name: "b"}, {Id: 2, Name: "a"}}, {{Id: 1, Name: "a"}, {Id: 2, Name: "aa"}, {Id: 3, Name: "aaaaaaaaaa"}},
	}
	for _, list := range lists {
		if !impl.ArePeople(list) || !ruledPeople(list) {
			t.Errorf("ArePeople(%v) is not true", list)
		}
	}
	if impl.ArePeople(append(fullHouse(0), impl.Person{Id: 11, Name: "k"})) {
		t.Error("eleven people")
	}
	for skills := -3; skills < 20; skills++ {
		if impl.ArePeople([]impl.Person{{Id: 5, Name: "a", Skills: skills}}) != (skills >= 0 && skills <= 15) {
			t.Error("Skills", skills)
		}
	}
}

func TestArePeopleRefuses(t *testing.T) {
	for _, list := range spoiltLists() {
		if impl.ArePeople(list) || ruledPeople(list) {
			t.Errorf("ArePeople(%v)", list)
		}
	}
}

func TestNamesHaveTheLettersAToZ(t *testing.T) {
	for c := range 256 {
		for _, name := range []string{string([]byte{byte(c)}), "ab" + string([]byte{byte(c)}), string([]byte{byte(c)}) + "ab", "abcd" + string([]byte{byte(c)}) + "efghi"} {
			if impl.ArePeople([]impl.Person{{Id: 5, Name: name}}) != (c >= 'a' && c <= 'z') {
				t.Errorf("a person with the Name %q", name)
			}
		}
	}
	for length := range 30 {
		if impl.ArePeople([]impl.Person{{Id: 5, Name: strings.Repeat("m", length)}}) != (length >= 1 && length <= 10) {
			t.Error("a Name of letters:", length)
		}
	}
}

// TestListsThatAreNoPeopleAreRefused asks for Ids that could be a team of valid people.
func TestListsThatAreNoPeopleAreRefused(t *testing.T) {
	for _, list := range spoiltLists() {
		for _, team := range [][]int{{1, 2}, {9, 10}, {}} {
			checkNoTeam(t, list, team)
			if yes, ok := impl.IsTeam(list, team); yes || ok {
				t.Errorf("IsTeam(%v, %v) = %v, %v", list, team, yes, ok)
			}
		}
		if ids, ok := impl.WithSkills(list, 0); ok || len(ids) != 0 {
			t.Errorf("WithSkills(%v, 0) = %v, %v", list, ids, ok)
		}
		if ids, ok := impl.SmallestTeam(list, 0); ok || len(ids) != 0 {
			t.Errorf("SmallestTeam(%v, 0) = %v, %v", list, ids, ok)
		}
		if n, m, ok := impl.CountTeams(list); ok || n != 0 || m != 0 {
			t.Errorf("CountTeams(%v) = %d, %d, %v", list, n, m, ok)
		}
		if teams, ok := impl.SplitTeams(list); ok || len(teams) != 0 {
			t.Errorf("SplitTeams(%v) = %v, %v", list, teams, ok)
		}
	}
}

// checkNoTeam checks that the functions that take a team only refuse the Ids.
func checkNoTeam(t *testing.T, list []impl.Person, team []int) {
	t.Helper()
	if n, ok := impl.SkillsOf(list, team); ok || n != 0 {
		t.Errorf("SkillsOf(%v, %v) = %d, %v", list, team, n, ok)
	}
	if people, ok := impl.GoOnTrip(list, team); ok || len(people) != 0 {
		t.Errorf("GoOnTrip(%v, %v) = %v, %v", list, team, people, ok)
	}
	if n, ok := impl.MissingSkills(list, team, 15); ok || n != 0 {
		t.Errorf("MissingSkills(%v, %v, 15) = %d, %v", list, team, n, ok)
	}
}

func TestIsTeamAtKnownTeams(t *testing.T) {
	cases := []struct {
		skills []int
		want   bool
	}{
		{[]int{1, 2}, true}, {[]int{2, 1}, true}, {[]int{5, 10}, true}, {[]int{13, 14}, true},
		// A member with both skills, beside one with neither, with one of them, and with both.
		{[]int{3, 0}, false}, {[]int{0, 3}, false}, {[]int{15, 12}, false}, {[]int{12, 15}, false}, {[]int{3, 4}, false}, {[]int{8, 3}, false},
		{[]int{3, 1}, true}, {[]int{3, 2}, true}, {[]int{1, 3}, true}, {[]int{2, 3}, true}, {[]int{3, 3}, true}, {[]int{15, 15}, true},
		{[]int{3, 0, 0}, false}, {[]int{0, 12, 15, 8, 4}, false}, {[]int{3, 0, 1}, true}, {[]int{0, 3, 2}, true}, {[]int{3, 0, 0, 0, 3}, true},
		// One of the skills, or none of them.
		{[]int{1, 1}, false}, {[]int{2, 2}, false}, {[]int{1, 0}, false}, {[]int{0, 2}, false}, {[]int{0, 0}, false}, {[]int{4, 8}, false}, {[]int{12, 12}, false},
		{[]int{1, 5, 9, 13}, false}, {[]int{2, 6, 10, 14, 2}, false}, {[]int{13, 13}, false}, {[]int{14, 14}, false},
		// The sizes.
		{[]int{}, false}, {[]int{0}, false}, {[]int{1}, false}, {[]int{3}, false}, {[]int{15}, false}, {[]int{1, 2, 0}, true}, {[]int{1, 2, 3, 0}, true},
		{[]int{1, 2, 3, 1, 2}, true}, {[]int{0, 0, 0, 1, 2}, true}, {[]int{3, 3, 3, 3, 3}, true}, {[]int{1, 2, 3, 1, 2, 3}, false},
		{[]int{0, 0, 0, 0, 1, 2}, false}, {[]int{3, 3, 3, 3, 3, 3}, false}, {[]int{3, 3, 3, 3, 3, 3, 3}, false}, {[]int{3, 3, 3, 3, 3, 3, 3, 3, 3, 3}, false},
	}
	for _, c := range cases {
		list := peopleWith(c.skills...)
		team := someOf(list, 1<<len(list)-1)
		if yes, ok := impl.IsTeam(list, team); !ok || yes != c.want {
			t.Errorf("IsTeam of the Skills %v = %v, %v", c.skills, yes, ok)
		}
		if !c.want {
			checkNoTeam(t, list, team)
		}
	}
}

// TestIsTeamCountsMembersOnly: those who stay at home have all the skills.
func TestIsTeamCountsMembersOnly(t *testing.T) {
	list := peopleWith(15, 1, 1, 2, 15, 0)
	cases := []struct {
		team []int
		want bool
	}{{[]int{2, 3}, false}, {[]int{2, 4}, true}, {[]int{3, 4}, true}, {[]int{4, 6}, false}, {[]int{2, 6}, false}, {[]int{2, 3, 6}, false}, {[]int{1, 6}, false}, {[]int{1, 5}, true}}
	for _, c := range cases {
		if yes, ok := impl.IsTeam(list, c.team); !ok || yes != c.want {
			t.Errorf("IsTeam of %v = %v, %v", c.team, yes, ok)
		}
	}
}

// badIds are no strictly ascending lists of Ids of people with the Ids 1, 2, 3 and so on to 8.
var badIds = [][]int{
	{2, 1}, {1, 3, 2}, {3, 2, 1}, {8, 1}, {1, 1}, {1, 2, 2}, {1, 1, 2}, {1, 2, 1}, {2, 2, 2, 2, 2}, {1, 9}, {0, 1}, {1, 2, 9}, {0, 1, 2}, {-1, 1, 2},
	{1, 2, 99}, {1, 2, 100}, {9}, {0}, {-1}, {9, 10}, {1, 2, 3, 4, 5, 6, 7, 8, 9}, {1, 2, math.MaxInt}, {math.MinInt, 1, 2}, {math.MinInt, math.MaxInt}, make([]int, 3000),
	{8, 7, 6, 5, 4, 3, 2, 1}, {1, 2, 3, 4, 5, 6, 7, 8, 8},
}

func TestIdsThatAreNoListOfPeopleAreRefused(t *testing.T) {
	for _, team := range badIds {
		for _, list := range [][]impl.Person{peopleWith(3, 3, 3, 3, 3, 3, 3, 3), peopleWith(1, 2, 1, 2, 1, 2, 1, 2)} {
			if yes, ok := impl.IsTeam(list, team); yes || ok {
				t.Errorf("IsTeam(%v, %v) = %v, %v", list, team, yes, ok)
			}
			checkNoTeam(t, list, team)
		}
	}
	for _, team := range [][]int{{1}, {1, 2}, {0}} {
		if yes, ok := impl.IsTeam(nil, team); yes || ok {
			t.Errorf("IsTeam of nobody, %v = %v, %v", team, yes, ok)
		}
	}
	for _, list := range [][]impl.Person{nil, peopleWith(3), fullHouse(3)} {
		if yes, ok := impl.IsTeam(list, nil); yes || !ok {
			t.Errorf("IsTeam(%v, nil) = %v, %v", list, yes, ok)
		}
	}
}

// checkIds checks all functions that take Ids against the document's words.
func checkIds(t *testing.T, list []impl.Person, team []int, skills int) {
	t.Helper()
	want, valid := ruledTeam(list, team)
	if yes, ok := impl.IsTeam(list, team); ok != valid || yes != want {
		t.Fatalf("IsTeam(%v, %v) = %v, %v", list, team, yes, ok)
	}
	if !want {
		checkNoTeam(t, list, team)
		return
	}
	had := ruledSkills(list, team)
	if n, ok := impl.SkillsOf(list, team); !ok || n != had {
		t.Fatalf("SkillsOf(%v, %v) = %d, %v, not %d", list, team, n, ok, had)
	}
	bounded := skills >= 0 && skills <= 15
	if n, ok := impl.MissingSkills(list, team, skills); ok != bounded || n&had != 0 || ok && n|had != skills|had || !ok && n != 0 {
		t.Fatalf("MissingSkills(%v, %v, %d) = %d, %v", list, team, skills, n, ok)
	}
	checkTrip(t, list, team)
}

func TestAllListsOfIdsOfManyPeople(t *testing.T) {
	n := numbers{11}
	for i := range 60 {
		list := n.people(i % 11)
		for set := range 1 << len(list) {
			checkIds(t, list, someOf(list, set), n.next(16))
		}
	}
}

// allLists calls use for lists of count people with the Skills 0, 1, 2 and 3 in all ways.
func allLists(count int, use func(list []impl.Person)) {
	skills := make([]int, count)
	for way := range 1 << (2 * count) {
		for i := range skills {
			skills[i] = way >> (2 * i) & 3
		}
		use(peopleWith(skills...))
	}
}

func TestIsTeamForAllSkills(t *testing.T) {
	for count := range 6 {
		allLists(count, func(list []impl.Person) {
			for set := range 1 << count {
				checkIds(t, list, someOf(list, set), set%16)
			}
		})
	}
}

func TestSkillsOfAndMissingSkillsAtKnownTeams(t *testing.T) {
	list := peopleWith(1, 2, 3, 4, 8, 15)
	cases := []struct {
		team            []int
		had             int
		skills, missing int
	}{
		{[]int{1, 2}, 3, 15, 12}, {[]int{1, 2}, 3, 3, 0}, {[]int{1, 2}, 3, 0, 0}, {[]int{1, 2}, 3, 4, 4}, {[]int{1, 2}, 3, 9, 8},
		{[]int{1, 2, 4}, 7, 15, 8}, {[]int{1, 2, 4}, 7, 12, 8}, {[]int{1, 3, 5}, 11, 15, 4}, {[]int{1, 3, 5}, 11, 5, 4},
		{[]int{2, 3, 4, 5}, 15, 15, 0}, {[]int{1, 2, 3, 4, 5}, 15, 15, 0}, {[]int{2, 6}, 15, 15, 0}, {[]int{1, 3}, 3, 1, 0},
	}
	for _, c := range cases {
		if n, ok := impl.SkillsOf(list, c.team); !ok || n != c.had {
			t.Errorf("SkillsOf %v = %d, %v", c.team, n, ok)
		}
		if n, ok := impl.MissingSkills(list, c.team, c.skills); !ok || n != c.missing {
			t.Errorf("MissingSkills of %v, %d = %d, %v", c.team, c.skills, n, ok)
		}
	}
}

// badSkills are no sums of the constants.
var badSkills = []int{-1, -15, 16, 17, 31, 1 << 20, math.MaxInt, math.MinInt, math.MinInt + 3}

func TestSkillsOutOfBoundsAreRefused(t *testing.T) {
	list := fullHouse(15)
	for _, skills := range badSkills {
		if n, ok := impl.MissingSkills(list, []int{1, 2}, skills); ok || n != 0 {
			t.Errorf("MissingSkills with %d = %d, %v", skills, n, ok)
		}
		if ids, ok := impl.WithSkills(list, skills); ok || len(ids) != 0 {
			t.Errorf("WithSkills with %d = %v, %v", skills, ids, ok)
		}
		if ids, ok := impl.SmallestTeam(list, skills); ok || len(ids) != 0 {
			t.Errorf("SmallestTeam with %d = %v, %v", skills, ids, ok)
		}
	}
}

func TestWithSkillsAtKnownPeople(t *testing.T) {
	list := []impl.Person{{Id: 3, Name: "c", Skills: 1}, {Id: 5, Name: "b", Skills: 3}, {Id: 40, Name: "a"}, {Id: 98, Name: "d", Skills: 7}, {Id: 99, Name: "e", Skills: 6}}
	cases := []struct {
		list   []impl.Person
		skills int
		want   []int
	}{
		{list, 0, []int{3, 5, 40, 98, 99}}, {list, 1, []int{3, 5, 98}}, {list, 2, []int{5, 98, 99}}, {list, 3, []int{5, 98}},
		{list, 4, []int{98, 99}}, {list, 5, []int{98}}, {list, 6, []int{98, 99}}, {list, 7, []int{98}},
		// Skills that nobody has, or that nobody has all of.
		{list, 8, nil}, {list, 9, nil}, {list, 12, nil}, {list, 15, nil}, {nil, 0, nil}, {nil, 15, nil}, {fullHouse(0), 1, nil}, {fullHouse(14), 1, nil},
		{fullHouse(15), 15, []int{1, 2, 3, 4, 5, 6, 7, 8, 9, 10}}, {fullHouse(0), 0, []int{1, 2, 3, 4, 5, 6, 7, 8, 9, 10}}, {peopleWith(15, 14, 15), 15, []int{1, 3}},
	}
	for _, c := range cases {
		if ids, ok := impl.WithSkills(c.list, c.skills); !ok || !slices.Equal(ids, c.want) {
			t.Errorf("WithSkills(%v, %d) = %v, %v, not %v", c.list, c.skills, ids, ok, c.want)
		}
	}
}

func TestWithSkillsOfEachPerson(t *testing.T) {
	for had := range 16 {
		for skills := range 16 {
			ids, ok := impl.WithSkills([]impl.Person{{Id: 7, Name: "a", Skills: had}}, skills)
			if !ok || slices.Equal(ids, []int{7}) != (had|skills == had) || len(ids) > 1 {
				t.Errorf("WithSkills of one with %d, %d = %v, %v", had, skills, ids, ok)
			}
		}
	}
}

func TestSmallestTeamAtKnownPeople(t *testing.T) {
	cases := []struct {
		list   []impl.Person
		skills int
		want   []int
	}{
		// A smaller team that is not experienced beside a larger one that is; 19 and 20 Trips.
		{withTrips(peopleWith(1, 2), 10, 10), 0, []int{1, 2}}, {withTrips(peopleWith(1, 2), 10, 9), 0, nil}, {withTrips(peopleWith(1, 2), 0, 20), 3, []int{1, 2}},
		{withTrips(peopleWith(1, 2), 19, 0), 0, nil}, {withTrips(peopleWith(1, 2, 0), 5, 5, 10), 0, []int{1, 2, 3}}, {withTrips(peopleWith(1, 2, 0), 5, 5, 9), 0, nil},
		{withTrips(peopleWith(1, 0, 2, 0), 1, 18, 0, 19), 0, []int{1, 3, 4}}, {withTrips(peopleWith(1, 0, 2, 0), 1, 18, 0, 1), 0, []int{1, 2, 3, 4}},
		{withTrips(fullHouse(3), 4, 4, 4, 4, 4, 4, 4, 4, 4, 4), 0, []int{1, 2, 3, 4, 5}}, {withTrips(fullHouse(3), 3, 3, 3, 3, 3, 3, 3, 3, 3, 3), 0, nil},
		{withTrips(fullHouse(3), 3, 3, 3, 3, 3, 3, 3, 3, 3, 8), 0, []int{1, 2, 3, 4, 10}}, {withTrips(fullHouse(3), 500, 500, 0, 0), 0, []int{1, 2}},
		// Of several smallest ones the lexicographically smallest, which may come behind larger ones.
		{withTrips(peopleWith(1, 2, 2), 20, 0, 0), 0, []int{1, 2}}, {withTrips(peopleWith(1, 2, 2), 15, 4, 5), 0, []int{1, 3}}, {fullHouse(3), 0, []int{1, 2}},
		{withTrips(peopleWith(1, 0, 2), 10, 50, 10), 0, []int{1, 3}}, {withTrips(peopleWith(0, 0, 0, 2, 1), 9, 9, 9, 10, 10), 0, []int{4, 5}},
		{withTrips(peopleWith(1, 2, 1, 2), 5, 5, 9, 11), 0, []int{3, 4}}, {withTrips(peopleWith(1, 2, 1, 2), 9, 11, 9, 11), 0, []int{1, 2}},
		// Skills that the smallest team of all does not have.
		{peopleWith(1, 2, 4), 4, []int{1, 2, 3}}, {peopleWith(1, 4, 2), 4, []int{1, 2, 3}}, {peopleWith(1, 2, 4, 8), 12, []int{1, 2, 3, 4}}, {peopleWith(1, 2, 4, 8, 12), 12, []int{1, 2, 5}},
		{peopleWith(1, 2, 6), 4, []int{1, 3}}, {peopleWith(1, 2, 4, 11), 4, []int{1, 2, 3}}, {peopleWith(1, 2, 9, 10), 8, []int{1, 4}}, {peopleWith(5, 10), 15, []int{1, 2}},
		// No team at all, and none with the Skills.
		{nil, 0, nil}, {peopleWith(3), 0, nil}, {fullHouse(1), 0, nil}, {fullHouse(14), 0, nil}, {peopleWith(3, 0, 12, 8), 0, nil}, {fullHouse(7), 8, nil}, {fullHouse(3), 15, nil},
	}
	for _, c := range cases {
		checkSmallest(t, c.list, c.skills, c.want)
		checkSmallest(t, c.list, c.skills, ruledSmallest(c.list, c.skills))
	}
}

// checkSmallest checks that SmallestTeam tells just this team, or fails if it is empty.
func checkSmallest(t *testing.T, list []impl.Person, skills int, want []int) {
	t.Helper()
	if ids, ok := impl.SmallestTeam(list, skills); ok != (len(want) > 0) || !slices.Equal(ids, want) {
		t.Errorf("SmallestTeam(%v, %d) = %v, %v, not %v", list, skills, ids, ok, want)
	}
}

func TestSmallestTeamOfManyPeople(t *testing.T) {
	n := numbers{12}
	for i := range 400 {
		list := n.people(i % 11)
		for _, skills := range []int{0, 3, n.next(16), 15} {
			checkSmallest(t, list, skills, ruledSmallest(list, skills))
		}
	}
}

func checkCount(t *testing.T, list []impl.Person, teams, experienced int) {
	t.Helper()
	if n, m, ok := impl.CountTeams(list); !ok || n != teams || m != experienced {
		t.Errorf("CountTeams(%v) = %d, %d, %v, not %d, %d", list, n, m, ok, teams, experienced)
	}
}

func TestCountTeamsAtKnownPeople(t *testing.T) {
	cases := []struct {
		list               []impl.Person
		teams, experienced int
	}{
		{nil, 0, 0}, {[]impl.Person{}, 0, 0}, {peopleWith(3), 0, 0}, {peopleWith(3, 0, 12), 0, 0}, {peopleWith(1, 1, 5, 13), 0, 0}, {fullHouse(0), 0, 0}, {fullHouse(2), 0, 0},
		{peopleWith(1, 2), 1, 1}, {withTrips(peopleWith(1, 2), 10, 9), 1, 0}, {peopleWith(3, 3), 1, 1}, {peopleWith(1, 2, 0), 2, 2}, {withTrips(peopleWith(1, 2, 0), 9, 10, 1), 2, 1},
		{peopleWith(3, 3, 3), 4, 4}, {peopleWith(1, 1, 2), 3, 3}, {peopleWith(1, 2, 0, 0, 0, 0, 0), 26, 26},
		// All lists of 2, 3, 4 and 5 Ids of ten are teams: 45 + 120 + 210 + 252.
		{fullHouse(3), 627, 627}, {fullHouse(15), 627, 627}, {withTrips(fullHouse(3), 0, 0, 0, 0, 0, 0, 0, 0, 0, 0), 627, 0},
		{withTrips(fullHouse(3), 4, 4, 4, 4, 4, 4, 4, 4, 4, 4), 627, 252}, {withTrips(fullHouse(3), 5, 5, 5, 5, 5, 5, 5, 5, 5, 5), 627, 462},
		{withTrips(fullHouse(3), 20, 0, 0, 0, 0, 0, 0, 0, 0, 0), 627, 9 + 36 + 84 + 126}, {withTrips(fullHouse(3), 19, 0, 0, 0, 0, 0, 0, 0, 0, 0), 627, 0},
	}
	for _, c := range cases {
		checkCount(t, c.list, c.teams, c.experienced)
	}
}

func TestCountTeamsOfManyPeople(t *testing.T) {
	n := numbers{13}
	for i := range 400 {
		list := n.people(i % 11)
		teams, experienced := ruledTeams(list), 0
		for _, set := range teams {
			if ruledTrips(list, someOf(list, set)) >= 20 {
				experienced++
			}
		}
		checkCount(t, list, len(teams), experienced)
	}
}

// checkTrip checks that all members of a team, and nobody else, have one Trip more, or that the
// trip fails because a member would have too many.
func checkTrip(t *testing.T, list []impl.Person, team []int) {
	t.Helper()
	want := slices.Clone(list)
	for i := range want {
		if slices.Contains(team, want[i].Id) {
			want[i].Trips++
		}
	}
	possible := ruledPeople(want)
	if !possible {
		want = nil
	}
	if people, ok := impl.GoOnTrip(list, team); ok != possible || !slices.Equal(people, want) {
		t.Errorf("GoOnTrip(%v, %v) = %v, %v", list, team, people, ok)
	}
}

func TestGoOnTripAtTheMostTrips(t *testing.T) {
	house := fullHouse(3)
	for i := range house {
		for _, team := range [][]int{{1, 2}, {1, 3, 5, 7, 9}, {2, 4, 6, 8, 10}, {9, 10}, {4, 5, 6}} {
			list := slices.Clone(house)
			list[i].Trips = 499
			checkTrip(t, list, team)
			list[i].Trips = 500
			if !slices.Contains(team, i+1) {
				checkTrip(t, list, team)
			} else if people, ok := impl.GoOnTrip(list, team); ok || len(people) != 0 {
				t.Errorf("GoOnTrip(%v, %v) = %v, %v", list, team, people, ok)
			}
		}
	}
	checkTrip(t, withTrips(peopleWith(1, 2, 15), 499, 0, 500), []int{1, 2})
	if people, ok := impl.GoOnTrip(withTrips(peopleWith(1, 2), 500, 500), []int{1, 2}); ok || len(people) != 0 {
		t.Error("GoOnTrip of two with 500 Trips", people, ok)
	}
}

// TestGoOnTripAgainAndAgain goes from no Trips to the most, until it fails.
func TestGoOnTripAgainAndAgain(t *testing.T) {
	list := withTrips(peopleWith(1, 4, 2), 0, 77, 0)
	for range 500 {
		checkTrip(t, list, []int{1, 3})
		list, _ = impl.GoOnTrip(list, []int{1, 3})
	}
	if !slices.Equal(list, withTrips(peopleWith(1, 4, 2), 500, 77, 500)) {
		t.Error("after 500 trips", list)
	}
	checkIds(t, list, []int{1, 2}, 15)
	if people, ok := impl.GoOnTrip(list, []int{1, 3}); ok || len(people) != 0 {
		t.Error("the trip 501", people, ok)
	}
}

func equalTeams(a, b [][]int) bool { return slices.EqualFunc(a, b, slices.Equal[[]int]) }

// checkSplit checks the teams against the document's words, and that they are teams, which share
// nobody and are as many as possible.
func checkSplit(t *testing.T, list []impl.Person) {
	t.Helper()
	teams, ok := impl.SplitTeams(list)
	if want := ruledSplit(list); !ok || !equalTeams(teams, want) {
		t.Fatalf("SplitTeams(%v) = %v, %v, not %v", list, teams, ok, want)
	}
	gone := map[int]bool{}
	for _, team := range teams {
		if yes, fine := impl.IsTeam(list, team); !fine || !yes {
			t.Errorf("SplitTeams(%v) = %v, where %v is no team", list, teams, team)
		}
		for _, id := range team {
			if gone[id] {
				t.Errorf("SplitTeams(%v) = %v, where %d goes twice", list, teams, id)
			}
			gone[id] = true
		}
	}
	most := mostTeams(list, ruledTeams(list))
	if len(teams) != min(3, most[len(most)-1]) {
		t.Errorf("SplitTeams(%v) = %v, but %d are possible", list, teams, most[len(most)-1])
	}
}

func TestSplitTeamsAtKnownPeople(t *testing.T) {
	cases := []struct {
		skills []int
		want   [][]int
	}{
		// No team.
		{nil, nil}, {[]int{3}, nil}, {[]int{3, 0}, nil}, {[]int{1, 1, 1}, nil}, {[]int{2, 2, 14, 6}, nil}, {[]int{0, 15, 12, 4, 8}, nil}, {slices.Repeat([]int{1}, 10), nil},
		// One, and perhaps people with nothing to do before or behind it.
		{[]int{1, 2}, [][]int{{1, 2}}}, {[]int{3, 3}, [][]int{{1, 2}}}, {[]int{1, 2, 3}, [][]int{{1, 2}}}, {[]int{1, 2, 0}, [][]int{{1, 2}}}, {[]int{1, 0, 2}, [][]int{{1, 2, 3}}},
		{[]int{0, 1, 2}, [][]int{{1, 2, 3}}}, {[]int{0, 0, 0, 1, 2}, [][]int{{1, 2, 3, 4, 5}}}, {[]int{0, 0, 0, 0, 1, 2}, [][]int{{1, 2, 3, 5, 6}}},
		{[]int{1, 0, 0, 0, 0, 2}, [][]int{{1, 2, 3, 4, 6}}}, {[]int{1, 1, 1, 1, 1, 1, 2}, [][]int{{1, 2, 3, 4, 7}}}, {[]int{3, 0, 0, 0, 0, 3, 0, 0, 0, 0}, [][]int{{1, 2, 3, 4, 6}}},
		// Two: the first one must leave enough for the second one.
		{[]int{1, 1, 2, 2}, [][]int{{1, 3}, {2, 4}}}, {[]int{1, 2, 1, 2}, [][]int{{1, 2}, {3, 4}}}, {[]int{3, 3, 1, 2}, [][]int{{1, 2}, {3, 4}}}, {[]int{3, 1, 1, 2}, [][]int{{1, 2}, {3, 4}}},
		{[]int{3, 2, 1, 1}, [][]int{{1, 3}, {2, 4}}}, {[]int{3, 3, 1, 1}, [][]int{{1, 3}, {2, 4}}}, {[]int{3, 3, 3, 3}, [][]int{{1, 2}, {3, 4}}}, {[]int{3, 3, 3, 3, 3}, [][]int{{1, 2}, {3, 4}}},
		{[]int{0, 1, 2, 1, 2}, [][]int{{1, 2, 3}, {4, 5}}}, {[]int{1, 2, 0, 1, 2}, [][]int{{1, 2}, {3, 4, 5}}}, {[]int{1, 1, 2, 2, 0}, [][]int{{1, 3}, {2, 4}}},
		{[]int{1, 1, 1, 2, 2}, [][]int{{1, 2, 4}, {3, 5}}}, {[]int{1, 1, 1, 1, 1, 1, 2, 2}, [][]int{{1, 2, 3, 4, 7}, {5, 6, 8}}},
		// Three, exactly or of more that were possible.
		{[]int{1, 1, 1, 2, 2, 2}, [][]int{{1, 4}, {2, 5}, {3, 6}}}, {[]int{3, 3, 3, 3, 3, 3}, [][]int{{1, 2}, {3, 4}, {5, 6}}}, {[]int{3, 3, 3, 1, 1, 1}, [][]int{{1, 4}, {2, 5}, {3, 6}}},
		{[]int{0, 1, 2, 3, 3, 1, 2}, [][]int{{1, 2, 3}, {4, 5}, {6, 7}}}, {[]int{3, 3, 3, 3, 3, 3, 3, 3}, [][]int{{1, 2}, {3, 4}, {5, 6}}}, {slices.Repeat([]int{3}, 10), [][]int{{1, 2}, {3, 4}, {5, 6}}},
		{[]int{1, 1, 1, 1, 2, 2, 2, 2}, [][]int{{1, 2, 5}, {3, 6}, {4, 7}}}, {[]int{1, 1, 1, 1, 1, 2, 2, 2, 2, 2}, [][]int{{1, 2, 3, 6}, {4, 7}, {5, 8}}},
	}
	for _, c := range cases {
		list := peopleWith(c.skills...)
		if teams, ok := impl.SplitTeams(list); !ok || !equalTeams(teams, c.want) {
			t.Errorf("SplitTeams of the Skills %v = %v, %v, not %v", c.skills, teams, ok, c.want)
		}
		checkSplit(t, list)
	}
}

func TestSplitTeamsForAllSkills(t *testing.T) {
	for count := range 7 {
		allLists(count, func(list []impl.Person) { checkSplit(t, list) })
	}
}

func TestSplitTeamsOfManyPeople(t *testing.T) {
	n := numbers{14}
	for i := range 240 {
		list := n.people(7 + i%4)
		// Few with both skills make it harder to leave enough for the other teams.
		for j := range list {
			if i%3 > 0 && list[j].Skills%4 == 3 {
				list[j].Skills -= n.within(1, 3)
			}
		}
		checkSplit(t, list)
	}
}

// oddPeople are people at, around and far beyond the limits of the fields.
func oddPeople() []impl.Person {
	list := []impl.Person{}
	for _, id := range []int{math.MinInt, 0, 1, 99, 100, math.MaxInt} {
		for _, name := range []string{"", "b", "abcdefghij", "abcdefghijk", "B", "\xff", strings.Repeat("b", 100000)} {
			for _, skills := range []int{math.MinInt, -1, 0, 1, 2, 3, 15, 16, math.MaxInt} {
				for _, trips := range []int{math.MinInt, -1, 0, 10, 499, 500, 501, math.MaxInt} {
					list = append(list, impl.Person{Id: id, Name: name, Skills: skills, Trips: trips})
				}
			}
		}
	}
	return list
}

func TestTeamFunctionsReturnForAllArguments(t *testing.T) {
	oddNumbers := []int{math.MinInt, -1, 0, 1, 2, 3, 15, 16, math.MaxInt}
	for i, x := range oddPeople() {
		list := []impl.Person{x, {Id: 50, Name: "a", Skills: 3, Trips: 15}, {Id: 99, Name: "c"}}[:2+i%2]
		valid, skills := ruledPeople(list), oddNumbers[i%len(oddNumbers)]
		fine := valid && skills >= 0 && skills <= 15
		if impl.ArePeople(list) != valid {
			t.Errorf("ArePeople(%v) is not %v", list, valid)
		}
		for _, team := range [][]int{nil, {x.Id, 50}, {50, x.Id}, {x.Id, x.Id}, {x.Id, 50, 99}, {50, 99}, oddNumbers} {
			checkIds(t, list, team, skills)
		}
		if ids, ok := impl.WithSkills(list, skills); ok != fine || !ok && len(ids) != 0 {
			t.Errorf("WithSkills(%v, %d) = %v, %v", list, skills, ids, ok)
		}
		if fine {
			checkSmallest(t, list, skills, ruledSmallest(list, skills))
		} else {
			checkSmallest(t, list, skills, nil)
		}
		if n, m, ok := impl.CountTeams(list); ok != valid || !ok && (n != 0 || m != 0) {
			t.Errorf("CountTeams(%v) = %d, %d, %v", list, n, m, ok)
		}
		if teams, ok := impl.SplitTeams(list); ok != valid || !ok && len(teams) != 0 {
			t.Errorf("SplitTeams(%v) = %v, %v", list, teams, ok)
		}
	}
}

func TestTeamFunctionsLeaveTheirLists(t *testing.T) {
	// Behind the length of a list there is something that is neither read nor written.
	list := append(peopleWith(1, 1, 6, 3, 0, 2), impl.Person{Id: -7, Name: "7", Skills: 77, Trips: -777})[:6]
	team := append([]int{1, 3, 5}, 6, -7)[:3]
	listBefore, teamBefore := slices.Clone(list[:7]), slices.Clone(team[:5])
	if !impl.ArePeople(list) {
		t.Error("ArePeople reads behind the length")
	}
	checkIds(t, list, team, 15)
	checkSmallest(t, list, 4, []int{1, 3})
	// Of the 15 + 20 + 15 + 6 lists of Ids, 5 have one skilled member only, 2 no tape and 2 no book.
	checkCount(t, list, 47, 47)
	checkSplit(t, list)
	if ids, ok := impl.WithSkills(list, 2); !ok || !slices.Equal(ids, []int{3, 4, 6}) {
		t.Error("WithSkills", ids, ok)
	}
	if !slices.Equal(list[:7], listBefore) || !slices.Equal(team[:5], teamBefore) {
		t.Error("a list was modified", list[:7], team[:5])
	}
}

// TestResultsOfTeamFunctionsAreTheirOwn writes to all results and behind their lengths.
func TestResultsOfTeamFunctionsAreTheirOwn(t *testing.T) {
	list := fullHouse(3)
	team, before := []int{1, 2}, slices.Clone(list)
	for range 2 {
		ids, one := impl.WithSkills(list, 3)
		smallest, two := impl.SmallestTeam(list, 3)
		people, three := impl.GoOnTrip(list, team)
		teams, four := impl.SplitTeams(list)
		if !one || len(ids) != 10 || ids[0] != 1 || !two || !slices.Equal(smallest, team) || !three || people[0].Trips != 11 || people[9] != list[9] {
			t.Error(ids, one, smallest, two, people, three)
		}
		for i := range teams {
			if !four || !slices.Equal(teams[i], []int{2*i + 1, 2*i + 2}) {
				t.Error("SplitTeams", teams, four)
			}
			teams[i][0], teams[i][1], teams[i] = -1, -2, append(teams[i], -3, -4, -5)
		}
		ids[0], smallest[0], people[0], people[9] = -1, -2, impl.Person{}, impl.Person{}
		if !slices.Equal(list, before) || !slices.Equal(team, []int{1, 2}) {
			t.Error("a result shares memory with an argument", list, team)
		}
	}
}
