package impl

const OK = 0
const ErrForm = 1
const ErrMany = 2
const ErrRange = 3
const ErrNone = 4
const ErrText = 5
const ErrState = 6
const MaxBytes = 400
const TabStop = 4

type IntResult struct {
	Code  int64
	Value int64
}
type IntsResult struct {
	Code int64
	List []int64
}
type BytesResult struct {
	Code  int64
	Bytes []byte
}
type TextResult struct {
	Code int64
	Text string
}
type CharResult struct {
	Code int64
	Char int64
	Used int64
}
type Cell struct {
	Char int64
	From int64
	Size int64
}
type CellsResult struct {
	Code  int64
	Cells []Cell
}

const maxCells = 2000
const hexDigits = "0123456789ABCDEF"
const unreadable = "no character begins here"

// A character is unsigned, and 16 bits hold every one: once a number has passed
// isCharacter nothing that is done with it can leave the bounds.
type character uint16

func DecodeAt(data []byte, at int64) (answer CharResult) {
	if at < 0 || at >= int64(len(data)) {
		return CharResult{Code: ErrRange}
	}
	defer func() {
		if recover() != nil {
			answer = CharResult{Code: ErrText}
		}
	}()
	char, used := readCharacter(data[at:])
	return CharResult{Char: int64(char), Used: used}
}

func EncodeChar(char int64) BytesResult {
	if !isCharacter(char) {
		return BytesResult{Code: ErrRange}
	}
	return BytesResult{Bytes: appendCharacter(nil, character(char))}
}

func CellsOf(line []byte) CellsResult {
	if len(line) > MaxBytes {
		return CellsResult{Code: ErrMany}
	}
	var cells []Cell
	for at := int64(0); at < int64(len(line)); {
		shown, size := shownAt(line, at, len(cells))
		for _, char := range shown {
			cells = append(cells, Cell{Char: int64(char), From: at, Size: size})
		}
		at += size
	}
	return CellsResult{Cells: cells}
}

func WidthOf(line []byte) IntResult {
	found := CellsOf(line)
	return IntResult{Code: found.Code, Value: int64(len(found.Cells))}
}

func CellsText(cells []Cell) TextResult {
	if code := CellsFault(cells); code != OK {
		return TextResult{Code: code}
	}
	var text []byte
	for _, cell := range cells {
		text = appendCharacter(text, character(cell.Char))
	}
	return TextResult{Text: string(text)}
}

func CellsFault(cells []Cell) int64 {
	if len(cells) > maxCells {
		return ErrMany
	}
	for _, cell := range cells {
		if !isShown(cell.Char) || cell.From < 0 || cell.From > MaxBytes || cell.Size < 1 || cell.Size > 3 {
			return ErrRange
		}
	}
	return OK
}

func isCharacter(number int64) bool {
	return number >= 0 && number <= 65535 && !isGap(number)
}

// The numbers of the gap would have three bytes like their neighbours, but stand for nothing.
func isGap(number int64) bool {
	return number >= 55296 && number <= 57343
}

// isShown tells whether a cell can show the number as it is: not so what would steer a screen.
func isShown(number int64) bool {
	return isCharacter(number) && number >= 32 && number != 127
}

func appendCharacter(to []byte, char character) []byte {
	switch {
	case char < 128:
		return append(to, byte(char))
	case char < 2048:
		return append(to, byte(192|char>>6), byte(128|char&63))
	}
	return append(to, byte(224|char>>12), byte(128|char>>6&63), byte(128|char&63))
}

// readCharacter needs at least one byte; it panics where the bytes begin no character.
func readCharacter(data []byte) (character, int64) {
	lead := character(data[0])
	switch {
	case lead < 128:
		return lead, 1
	case lead >= 192 && lead < 224:
		return checked(lead&31<<6|sixBits(data, 1), 128), 2
	case lead >= 224 && lead < 240:
		return checked(lead&15<<12|sixBits(data, 1)<<6|sixBits(data, 2), 2048), 3
	}
	panic(unreadable)
}

func sixBits(data []byte, at int) character {
	if at >= len(data) || data[at]&192 != 128 {
		panic(unreadable)
	}
	return character(data[at] & 63)
}

// checked refuses the gap, and what fewer bytes would tell as well: a character has one way to be written.
func checked(char character, least character) character {
	if char < least || isGap(int64(char)) {
		panic(unreadable)
	}
	return char
}

// shownAt answers what is seen of the bytes that begin at a place, and how many bytes these are.
func shownAt(line []byte, at int64, column int) ([]character, int64) {
	lead := character(line[at])
	switch {
	case lead == '\t':
		return blanksToStop(column), 1
	case lead < 32 || lead == 127:
		return []character{'^', lead ^ 64}, 1
	}
	read := DecodeAt(line, at)
	if read.Code != OK {
		return []character{'<', hexDigit(lead >> 4), hexDigit(lead & 15), '>'}, 1
	}
	return []character{character(read.Char)}, read.Used
}

func blanksToStop(column int) []character {
	blanks := []character{' '}
	for (column+len(blanks))%TabStop != 0 {
		blanks = append(blanks, ' ')
	}
	return blanks
}

func hexDigit(value character) character {
	return character(hexDigits[value])
}
