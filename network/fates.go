package network

// The letters of the fates; those from soonest to latest say how many ticks later a message arrives.
const (
	lost    = 'x'
	doubled = 'd'
	soonest = '1'
	latest  = '9'
	usual   = soonest // the fate of a message for which none waits
)

// longest is the most ticks that a message is on its way.
const longest = latest - '0'

// areFates tells whether there are letters, and each of them is a fate.
func areFates(letters string) bool {
	for _, letter := range letters {
		if !isFate(letter) {
			return false
		}
	}
	return letters != ""
}

func isFate(letter rune) bool {
	return letter == lost || letter == doubled || soonest <= letter && letter <= latest
}

// delays are, of each copy of a message with this fate, the ticks until it arrives.
func delays(fate rune) []int {
	switch fate {
	case lost:
		return nil
	case doubled:
		return []int{1, 2}
	}
	return []int{int(fate - '0')}
}
