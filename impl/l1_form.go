package impl

import (
	"slices"
	"strconv"
	"strings"
)

// How many pots and arguments a form has, and limits.
const (
	FrmPots = 3
	FrmArgs = 2
	FrmMax  = 10000000
	ValMax  = 10000
	ArgMax  = 9
)

// textMax is how many bytes a text may have that is read.
const textMax = 120

// FrmForm is a sum: so many times each pot, so many times each argument, and a number.
type FrmForm struct {
	C []int
	D []int
	K int
}

// FrmOk says whether a form is ok.
func FrmOk(f FrmForm) bool {
	return f.ok()
}

// ValOk says whether what pots have is ok.
func ValOk(vals []int) bool {
	return len(vals) == FrmPots && allWithin(ValMax, vals...)
}

// ArgOk says whether arguments are ok.
func ArgOk(args []int) bool {
	return len(args) == FrmArgs && allWithin(ArgMax, args...)
}

// FrmZero is the form that is 0.
func FrmZero() FrmForm {
	return sumOfForms()
}

// FrmPot is the form that is one pot.
func FrmPot(v int) FrmForm {
	if !isPlace(v, FrmPots) {
		return FrmForm{}
	}
	f := FrmZero()
	f.C[v] = 1
	return f
}

// FrmAdd is the sum of two forms.
func FrmAdd(a FrmForm, b FrmForm) FrmForm {
	if !allFormsOk(a, b) {
		return FrmForm{}
	}
	return sumOfForms(a, b).orNothing()
}

// FrmTimes is so many times a form.
func FrmTimes(a FrmForm, n int) FrmForm {
	if !a.ok() || !allWithin(FrmMax, n) {
		return FrmForm{}
	}
	return a.times(n).orNothing()
}

// FrmAt is what a form is, by what the pots have, and arguments.
func FrmAt(f FrmForm, vals []int, args []int) (int, bool) {
	if !f.ok() || !ValOk(vals) || !ArgOk(args) {
		return 0, false
	}
	return f.at(vals, args), true
}

// FrmInto is a form in which each pot is a form itself.
func FrmInto(f FrmForm, pots []FrmForm) FrmForm {
	if len(pots) != FrmPots || !f.ok() || !allFormsOk(pots...) {
		return FrmForm{}
	}
	terms := []FrmForm{f.withoutPots()}
	for i, pot := range pots {
		terms = append(terms, pot.times(f.C[i]))
	}
	return sumOfForms(terms...).orNothing()
}

// FrmText writes a form.
func FrmText(f FrmForm) string {
	if !f.ok() {
		return ""
	}
	return f.text()
}

// FrmRead reads a form.
func FrmRead(s string) (FrmForm, bool) {
	if len(s) > textMax {
		return FrmForm{}, false
	}
	f, ok := formOfWords(strings.Split(s, " "))
	// Each form has just one text: needless zeros, a wrong order and numbers beyond the limits all fail here.
	if !ok || FrmText(f) != s {
		return FrmForm{}, false
	}
	return f, true
}

func (f FrmForm) ok() bool {
	return len(f.C) == FrmPots && len(f.D) == FrmArgs &&
		allWithin(FrmMax, f.C...) && allWithin(FrmMax, f.D...) && allWithin(FrmMax, f.K)
}

// orNothing is for forms made anew: it hands on the lists of f.
func (f FrmForm) orNothing() FrmForm {
	if !f.ok() {
		return FrmForm{}
	}
	return f
}

// times asks for no limit, as a term of a sum may be beyond it where the sum is not.
func (f FrmForm) times(n int) FrmForm {
	return FrmForm{C: timesEach(f.C, n), D: timesEach(f.D, n), K: n * f.K}
}

func (f FrmForm) withoutPots() FrmForm {
	return FrmForm{C: make([]int, FrmPots), D: f.D, K: f.K}
}

func (f FrmForm) at(vals []int, args []int) int {
	return productSum(f.C, vals) + productSum(f.D, args) + f.K
}

func (f FrmForm) text() string {
	words := append(wordsOfTimes(f.C, "x"), wordsOfTimes(f.D, "a")...)
	words = append(words, strconv.Itoa(f.K))
	return strings.Join(words, " ")
}

// sumOfForms is of forms that have as many of all as they must; like times it asks for no limit.
func sumOfForms(forms ...FrmForm) FrmForm {
	sum := FrmForm{C: make([]int, FrmPots), D: make([]int, FrmArgs)}
	for _, f := range forms {
		addEach(sum.C, f.C)
		addEach(sum.D, f.D)
		sum.K += f.K
	}
	return sum
}

func allFormsOk(forms ...FrmForm) bool {
	for _, f := range forms {
		if !f.ok() {
			return false
		}
	}
	return true
}

func allWithin(limit int, numbers ...int) bool {
	return allBetween(-limit, limit, numbers...)
}

func allBetween(least int, most int, numbers ...int) bool {
	for _, n := range numbers {
		if n < least || n > most {
			return false
		}
	}
	return true
}

func isPlace(at int, size int) bool {
	return at >= 0 && at < size
}

func addEach(sums []int, more []int) {
	for i, n := range more {
		sums[i] += n
	}
}

func sumOfNumbers(a []int, b []int) []int {
	sums := slices.Clone(a)
	addEach(sums, b)
	return sums
}

func timesEach(numbers []int, n int) []int {
	products := make([]int, len(numbers))
	for i, m := range numbers {
		products[i] = n * m
	}
	return products
}

func productSum(a []int, b []int) int {
	sum := 0
	for i, n := range a {
		sum += n * b[i]
	}
	return sum
}

func wordsOfTimes(numbers []int, letter string) []string {
	var words []string
	for i, n := range numbers {
		if n != 0 {
			words = append(words, strconv.Itoa(n)+letter+strconv.Itoa(i))
		}
	}
	return words
}

// formOfWords takes more than FrmText writes; the caller holds the text against it.
func formOfWords(words []string) (FrmForm, bool) {
	f := FrmZero()
	last := len(words) - 1
	for _, word := range words[:last] {
		if !readTimes(word, "x", f.C) && !readTimes(word, "a", f.D) {
			return FrmForm{}, false
		}
	}
	k, err := strconv.Atoi(words[last])
	if err != nil {
		return FrmForm{}, false
	}
	f.K = k
	return f, true
}

func readTimes(word string, letter string, numbers []int) bool {
	many, which, found := strings.Cut(word, letter)
	n, manyErr := strconv.Atoi(many)
	place, placeErr := strconv.Atoi(which)
	if !found || manyErr != nil || placeErr != nil || !isPlace(place, len(numbers)) {
		return false
	}
	numbers[place] = n
	return true
}
