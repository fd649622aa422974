package stores

// link is the last element of a list, and leads to those before it; the nil one is that of an empty list. Stores share what their lists have in common, so links are never changed. A slice would have to be copied for each new element: a ledger has up to 65536, and a log can have more.
type link[T any] struct {
	element T
	count   int // of the elements up to this one
	before  *link[T]
}

// with returns the list with one more element behind the others.
func (l *link[T]) with(element T) *link[T] { return &link[T]{element, l.size() + 1, l} }

// size returns the number of elements.
func (l *link[T]) size() int {
	if l == nil {
		return 0
	}
	return l.count
}

// last returns the last element, or the zero one if there is none.
func (l *link[T]) last() T {
	if l == nil {
		var none T
		return none
	}
	return l.element
}

// all returns all elements, in order.
func (l *link[T]) all() []T {
	if l == nil {
		return nil
	}
	elements := make([]T, l.count)
	for x := l; x != nil; x = x.before {
		elements[x.count-1] = x.element
	}
	return elements
}
