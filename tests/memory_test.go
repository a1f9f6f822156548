package tests

import (
	"reflect"
	"slices"
	"testing"
)

// These helpers look at the memory of arguments and results of any type: numbers, texts, and slices and structs of them.

// memoryList has the memory of all slices of some arguments, each with filled memory in front of it and behind it.
type memoryList struct {
	all []reflect.Value
}

const (
	filledInFront = 2
	filledBehind  = 3
)

// filler is a value that the functions do not use by themselves, with memory of its own.
func filler(of reflect.Type) reflect.Value {
	value := reflect.New(of).Elem()
	switch of.Kind() {
	case reflect.Int64:
		value.SetInt(-4321)
	case reflect.String:
		value.SetString("filler")
	case reflect.Slice:
		value.Set(reflect.Append(value, filler(of.Elem())))
	case reflect.Struct:
		for i := range value.NumField() {
			value.Field(i).Set(filler(of.Field(i).Type))
		}
	}
	return value
}

// guarded returns a deep copy of a value, in which each slice has memory in front of it and unused capacity behind it.
func (m *memoryList) guarded(value reflect.Value) reflect.Value {
	switch {
	case value.Kind() == reflect.Slice && !value.IsNil():
		elem := value.Type().Elem()
		size := value.Len() + filledInFront + filledBehind
		memory := reflect.MakeSlice(value.Type(), size, size)
		for i := range size {
			memory.Index(i).Set(filler(elem))
		}
		for i := range value.Len() {
			memory.Index(i + filledInFront).Set(m.guarded(value.Index(i)))
		}
		m.all = append(m.all, memory)
		return memory.Slice(filledInFront, filledInFront+value.Len())
	case value.Kind() == reflect.Struct:
		copied := reflect.New(value.Type()).Elem()
		for i := range value.NumField() {
			copied.Field(i).Set(m.guarded(value.Field(i)))
		}
		return copied
	}
	return value
}

func deepCopy(value reflect.Value) reflect.Value {
	copied := reflect.New(value.Type()).Elem()
	switch {
	case value.Kind() == reflect.Slice && !value.IsNil():
		copied.Set(reflect.MakeSlice(value.Type(), value.Len(), value.Len()))
		for i := range value.Len() {
			copied.Index(i).Set(deepCopy(value.Index(i)))
		}
	case value.Kind() == reflect.Struct:
		for i := range value.NumField() {
			copied.Field(i).Set(deepCopy(value.Field(i)))
		}
	default:
		copied.Set(value)
	}
	return copied
}

func (m *memoryList) copied() []any {
	copies := []any{}
	for _, memory := range m.all {
		copies = append(copies, deepCopy(memory).Interface())
	}
	return copies
}

func (m *memoryList) equal(before []any) bool {
	for i, memory := range m.all {
		if !reflect.DeepEqual(memory.Interface(), before[i]) {
			return false
		}
	}
	return true
}

// block is a part of memory, from its first byte to just behind its last one.
type block struct {
	from, to uintptr
}

func blockOf(slice reflect.Value) block {
	from := slice.Pointer()
	return block{from, from + uintptr(slice.Cap())*slice.Type().Elem().Size()}
}

func (m *memoryList) blocks() []block {
	blocks := []block{}
	for _, memory := range m.all {
		blocks = append(blocks, blockOf(memory))
	}
	return blocks
}

// blocksOf returns the memory of all slices of a result, one block for each of them.
func blocksOf(value reflect.Value) []block {
	blocks := []block{}
	switch value.Kind() {
	case reflect.Slice:
		if value.Cap() > 0 {
			blocks = append(blocks, blockOf(value))
		}
		for i := range value.Len() {
			blocks = append(blocks, blocksOf(value.Index(i))...)
		}
	case reflect.Struct:
		for i := range value.NumField() {
			blocks = append(blocks, blocksOf(value.Field(i))...)
		}
	}
	return blocks
}

// shared reports whether two of some blocks have a byte in common.
func shared(blocks []block) bool {
	slices.SortFunc(blocks, func(a, b block) int {
		switch {
		case a.from < b.from:
			return -1
		case a.from > b.from:
			return 1
		}
		return 0
	})
	for i := 1; i < len(blocks); i++ {
		if blocks[i].from < blocks[i-1].to {
			return true
		}
	}
	return false
}

// scribble writes over all memory of a result, also over unused capacity.
func scribble(value reflect.Value) {
	switch value.Kind() {
	case reflect.Slice:
		whole := value.Slice(0, value.Cap())
		for i := range whole.Len() {
			scribble(whole.Index(i))
			whole.Index(i).Set(filler(whole.Type().Elem()))
		}
	case reflect.Struct:
		for i := range value.NumField() {
			scribble(value.Field(i))
		}
	}
}

func TestMemoryHelpersSeeWhatIsShared(t *testing.T) {
	rows := [][]int64{{1, 2}, {3, 4}}
	if shared(blocksOf(reflect.ValueOf(rows))) {
		t.Error("rows of their own are taken for shared ones")
	}
	rows[1] = rows[0][1:]
	if !shared(blocksOf(reflect.ValueOf(rows))) {
		t.Error("a row within another one is not seen")
	}
	memories := &memoryList{}
	view := memories.guarded(reflect.ValueOf([][]int64{{1, 2}})).Interface().([][]int64)
	before := memories.copied()
	if !memories.equal(before) {
		t.Error("an argument has not changed")
	}
	_ = append(view[0], 5)
	if memories.equal(before) {
		t.Error("a change of the unused capacity is not seen")
	}
}
