package gen

// Op: what an instruction does.
type Op int

// What instructions do. They work on a stack of words, the last ones on top: numbers, truths (0, 1), pointers (of NIL 0) and addresses of words. What is taken from it is told ahead of the arrow, what is put on it behind.
const (
	Push     Op = iota // -> the number A
	Variable           // -> the address of a module's variable, the Part
	Own                // -> the address of the call's own word A
	Load               // address -> what lies there
	Store              // address, word -> ; it lies there then
	Copy               // address, another one -> ; A words from there lie here then
	Offset             // address -> that of A words behind it
	Place              // address, number -> the address of that place of an array with A places of B words each; or TrapPlace
	Point              // pointer -> the address of what it points to; or TrapNil
	Guard              // address -> the same, if the pointer there points to what extends the record Part; or TrapNil, TrapGuard
	Is                 // pointer -> does it point to what extends the record Part?
	New                // address -> ; the pointer there points to a new record Part then; or TrapFull
	Not                // truth -> the other one
	Negate             // number -> what it lacks to 0
	Add                // number, number -> number; likewise all up to AtLeast, as signs tells
	Subtract
	Multiply
	Divide // or TrapDiv
	Modulo // or TrapDiv
	Equal
	Unequal
	Less
	AtMost
	Greater
	AtLeast
	And    // truth -> the same, and on at A, if it is FALSE; else -> nothing
	Or     // truth -> the same, and on at A, if it is TRUE; else -> nothing
	Jump   // on at A
	Unless // truth -> ; on at A, if it is FALSE
	Tick   // a tick is used; or TrapTicks
	Call   // arguments, the last one on top -> the result, if there is one; the procedure Part is called; or TrapTicks, TrapCalls
	Return // the call, or the module's acts, end; a result is on top
	Lack   // TrapResult
	Out    // number -> ; it is put out
	Get    // address -> ; the next number to be read lies there then
	Assert // truth -> ; or TrapAssert
	Ops    // how many there are
)

// signs of operators, from Add on.
var signs = [...]string{"+", "-", "*", "DIV", "MOD", "=", "#", "<", "<=", ">", ">="}

// Sign of the operator that an instruction is; empty: it is none.
func (o Op) Sign() string {
	if o < Add || o > AtLeast {
		return ""
	}
	return signs[o-Add]
}

// operator is the instruction of a sign.
func operator(sign string) Op {
	op := Add
	for op < AtLeast && op.Sign() != sign {
		op++
	}
	return op
}

// Instruction of a module's code.
type Instruction struct {
	Op   Op
	A, B int
}

// Part is what an instruction names of a module, where it does.
func (i Instruction) Part() Part { return Part{i.A, i.B} }
