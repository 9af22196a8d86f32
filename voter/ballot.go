package voter

import "almoner/api"

// Above tells whether a ballot is above another one; whether they are legal isn't asked.
func Above(a, b api.Ballot) bool {
	if a.Round != b.Round {
		return a.Round > b.Round
	}
	return a.Node > b.Node
}

// Half is more than half of n; 0, if n is below 1.
func Half(n int) int {
	if n < 1 {
		return 0
	}
	return n/2 + 1
}

// isLegal tells whether a ballot is; that of none isn't.
func isLegal(b api.Ballot) bool {
	return b.Round >= 1 && b.Round <= api.MaxTime && isNumber(b.Node)
}

func isNone(b api.Ballot) bool { return b == api.Ballot{} }

// isNumber tells whether a number may be a voter's.
func isNumber(n int) bool { return n >= 0 && n < api.MaxWidth }
