package side

import "sync"

// made by a worker, of a number.
type made[T any] struct {
	at     int
	answer T
	err    error
}

// each number below many is worked on by one of the workers. The answers stand
// by their numbers; the error, and its number, are those of the first number
// that has one, whichever was done first.
func each[T any](many, workers int, work func(at int) (T, error)) ([]T, int, error) {
	numbers, done := make(chan int), make(chan made[T])
	var group sync.WaitGroup
	for range workers {
		group.Add(1)
		go func() {
			defer group.Done()
			serve(numbers, done, work)
		}()
	}
	all := exchange(many, numbers, done)
	group.Wait()
	return inOrder(all)
}

// serve as a worker, until there are no more numbers.
func serve[T any](numbers <-chan int, done chan<- made[T], work func(at int) (T, error)) {
	for at := range numbers {
		answer, err := work(at)
		done <- made[T]{at, answer, err}
	}
}

// exchange numbers for what is made of them. Both go on in one select, because
// a worker that has something takes no further number until it is rid of it.
func exchange[T any](many int, numbers chan<- int, done <-chan made[T]) []made[T] {
	all := make([]made[T], many)
	next, open := 0, numbers
	for got := 0; got < many; {
		if next == many {
			open = nil // which is never ready
		}
		select {
		case open <- next:
			next++
		case m := <-done:
			all[m.at] = m
			got++
		}
	}
	close(numbers)
	return all
}

// inOrder: the answers of all, or the first error and its number.
func inOrder[T any](all []made[T]) ([]T, int, error) {
	l := make([]T, len(all))
	for i, m := range all {
		if m.err != nil {
			return nil, i, m.err
		}
		l[i] = m.answer
	}
	return l, 0, nil
}
