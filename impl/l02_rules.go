package impl

// Limits of rules, and kinds of captures and slams.
const (
	MinPits     = 2
	MaxPits     = 8
	MaxStart    = 6
	CapNone     = 0
	CapTwoThree = 1
	CapCross    = 2
	CapEven     = 3
	SlamTake    = 0
	SlamForbid  = 1
	SlamNothing = 2
)

// Rules are the rules of a game.
type Rules struct {
	Pits    int64
	Seeds   int64
	Stores  bool
	Skip    bool
	Relay   bool
	Feed    bool
	Again   bool
	Capture int64
	Slam    int64
}

// boardSize returns the number of pits of both players.
func (r Rules) boardSize() int64 {
	return 2 * r.Pits
}

// checkPit returns the error of the functions that receive rules and a pit.
func (r Rules) checkPit(pit int64) int64 {
	if !ValidRules(r) {
		return ErrInvalid
	}
	if pit < 0 || pit >= r.boardSize() {
		return ErrRange
	}
	return OK
}

// checkMove returns the error of the functions that receive rules, a player and a move.
func (r Rules) checkMove(player, move int64) int64 {
	if !ValidRules(r) {
		return ErrInvalid
	}
	if !isPlayer(player) || move < 0 || move >= r.Pits {
		return ErrRange
	}
	return OK
}

// owns reports whether a place is a pit of a player; r is valid.
func (r Rules) owns(player, place int64) bool {
	return place >= player*r.Pits && place < (player+1)*r.Pits
}

func isPlayer(n int64) bool {
	return n == 0 || n == 1
}

// ValidRules reports whether r is valid.
func ValidRules(r Rules) bool {
	return r.Pits >= MinPits && r.Pits <= MaxPits &&
		r.Seeds >= 1 && r.Seeds <= MaxStart &&
		r.Capture >= CapNone && r.Capture <= CapEven &&
		r.Slam >= SlamTake && r.Slam <= SlamNothing &&
		(r.Stores || !r.Again)
}

// StandardNames returns the names of the games that are given.
func StandardNames() []string {
	return []string{"kalah", "mini", "oware", "relay"}
}

// StandardRules returns the rules of a game that is given.
func StandardRules(name string) (Rules, int64) {
	switch name {
	case "kalah":
		return Rules{Pits: 6, Seeds: 4, Stores: true, Again: true, Capture: CapCross}, OK
	case "mini":
		return Rules{Pits: 3, Seeds: 2, Feed: true, Capture: CapTwoThree}, OK
	case "oware":
		return Rules{Pits: 6, Seeds: 4, Skip: true, Feed: true, Capture: CapTwoThree, Slam: SlamNothing}, OK
	case "relay":
		return Rules{Pits: 4, Seeds: 2, Relay: true, Capture: CapCross}, OK
	}
	return Rules{}, ErrNotFound
}

// StandardName returns the name of rules that are given.
func StandardName(r Rules) (string, int64) {
	for _, name := range StandardNames() {
		standard, code := StandardRules(name)
		if code == OK && standard == r {
			return name, OK
		}
	}
	return "", ErrNotFound
}

// TotalSeeds returns the number of seeds of a game.
func TotalSeeds(r Rules) (int64, int64) {
	if !ValidRules(r) {
		return 0, ErrInvalid
	}
	return r.boardSize() * r.Seeds, OK
}

// OwnerOf returns the player to whom a pit belongs.
func OwnerOf(r Rules, pit int64) (int64, int64) {
	if code := r.checkPit(pit); code != OK {
		return 0, code
	}
	return pit / r.Pits, OK
}

// NextPit returns the pit behind a pit.
func NextPit(r Rules, pit int64) (int64, int64) {
	if code := r.checkPit(pit); code != OK {
		return 0, code
	}
	return (pit + 1) % r.boardSize(), OK
}

// OppositePit returns the pit on the other side of a pit.
func OppositePit(r Rules, pit int64) (int64, int64) {
	if code := r.checkPit(pit); code != OK {
		return 0, code
	}
	return r.boardSize() - 1 - pit, OK
}

// PitOfMove returns the pit of a move of a player.
func PitOfMove(r Rules, player, move int64) (int64, int64) {
	if code := r.checkMove(player, move); code != OK {
		return 0, code
	}
	return player*r.Pits + move, OK
}

// MoveOfPit returns the move of the owner of a pit.
func MoveOfPit(r Rules, pit int64) (int64, int64) {
	if code := r.checkPit(pit); code != OK {
		return 0, code
	}
	return pit % r.Pits, OK
}
