package lockbox

import (
	"slices"

	"arrears/api"
	"arrears/calendar"
)

// hashModulus keeps the sum of the loan numbers within its field.
const hashModulus = 10_000_000_000

// hasFile tells whether there is a file that says this batch.
func hasFile(b api.Batch) bool {
	if !upTo(b.Day, api.MaxDay) || !upTo(b.Number, api.MaxBatch) || !upTo(len(b.Items), api.MaxItems) {
		return false
	}
	for _, item := range b.Items {
		if !upTo(item.Loan, api.MaxLoan) || !upTo(item.Amount, api.MaxItem) {
			return false
		}
	}
	return true
}

// upTo tells whether a number is from 1 to the most it may be.
func upTo[T int | int64](number, most T) bool { return 1 <= number && number <= most }

// tellBatch tells a batch that has a file as this file.
func tellBatch(b api.Batch) []byte {
	date, _ := calendar.Civil(b.Day)
	file := appendLine(nil, header, int64(date.Year), int64(date.Month), int64(date.Day), int64(b.Number))
	for i, item := range b.Items {
		digit, _ := CheckDigit(item.Loan)
		file = appendLine(file, detail, int64(i+1), int64(item.Loan), int64(digit), item.Amount)
	}
	return appendLine(file, trailer, totals(b.Items)...)
}

// totals are the numbers of the trailer behind items: how many they are, the sum of their amounts, the hash total.
func totals(items []api.Item) []int64 {
	sum, hash := int64(0), int64(0)
	for _, item := range items {
		sum += item.Amount
		hash += int64(item.Loan)
	}
	return []int64{int64(len(items)), sum, hash % hashModulus}
}

// readBatch reads a file; in its error there is a fault.
func readBatch(file []byte) (api.Batch, error) {
	day, number, rest, err := readHeader(file)
	if err != nil {
		return api.Batch{}, inPart{"header", err}
	}
	items, rest, err := readDetails(rest)
	if err != nil {
		return api.Batch{}, inPart{"details", err}
	}
	if err := readTrailer(rest, items); err != nil {
		return api.Batch{}, inPart{"trailer", err}
	}
	return api.Batch{Day: day, Number: number, Items: items}, nil
}

// readHeader reads the header: the day, the batch's number, and what stands behind the line.
func readHeader(file []byte) (int, int, []byte, error) {
	numbers, rest, ok := readLine(file, header)
	if !ok {
		return 0, 0, nil, fault{api.ErrForm, 0}
	}
	date := api.Date{Year: int(numbers[0]), Month: int(numbers[1]), Day: int(numbers[2])}
	day, ok := calendar.Number(date)
	number := int(numbers[3])
	if !ok || number == 0 {
		return 0, 0, nil, fault{api.ErrForm, 0}
	}
	return day, number, rest, nil
}

// readDetails reads the details, up to the trailer or to as many as there may be, and tells what stands behind them.
func readDetails(rest []byte) ([]api.Item, []byte, error) {
	var items []api.Item
	for i := range api.MaxItems {
		// No file is without details: a trailer in the place of the first is a detail that has not its form.
		if i > 0 && begins(rest, trailer) {
			break
		}
		item, behind, err := readDetail(rest, i+1)
		if err != nil {
			return nil, nil, err
		}
		items, rest = append(items, item), behind
	}
	return items, rest, nil
}

// readDetail reads the detail of a line: its item, and what stands behind the line.
func readDetail(rest []byte, line int) (api.Item, []byte, error) {
	numbers, behind, ok := readLine(rest, detail)
	if !ok {
		return api.Item{}, nil, fault{api.ErrForm, line}
	}
	sequence, digit := int(numbers[0]), int(numbers[2])
	item := api.Item{Loan: int(numbers[1]), Amount: numbers[3]}
	if item.Loan == 0 || item.Amount == 0 {
		return api.Item{}, nil, fault{api.ErrForm, line}
	}
	if right, _ := CheckDigit(item.Loan); digit != right {
		return api.Item{}, nil, fault{api.ErrDigit, line}
	}
	if sequence != line {
		return api.Item{}, nil, fault{api.ErrOrder, line}
	}
	return item, behind, nil
}

// readTrailer reads the trailer behind these items, with which the file must end.
func readTrailer(rest []byte, items []api.Item) error {
	line := len(items) + 1
	numbers, behind, ok := readLine(rest, trailer)
	if !ok {
		return fault{api.ErrForm, line}
	}
	if !slices.Equal(numbers, totals(items)) {
		return fault{api.ErrTotal, line}
	}
	if len(behind) > 0 {
		return fault{api.ErrForm, line + 1}
	}
	return nil
}
