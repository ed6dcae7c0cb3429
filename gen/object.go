package gen

// Object: what the text of a module comes to. Of other modules it has what their faces tell, alone: their names, keys, and numbers in the order in which they show things.
type Object struct {
	Name       string
	Key        int         // of its face
	Leans      []Lean      // in the order of their names
	Words      int         // of its variables
	Points     []int       // those of them at which pointers lie
	Records    []Record    // that it declares, in order
	Procedures []Procedure // those that are exported, in order; then the others
	Code       []Instruction
	Start      int // of the module's acts
}

// Lean: a module that another one leans on, with the key of the face that it had when that one was made.
type Lean struct {
	Name string
	Key  int
}

// Part: something of a module: 0 is the module itself, 1 the first that it leans on, and so on.
type Part struct {
	Module, Number int
}

// Record: what is to be known of a record when it is made, held against others, or gone through.
type Record struct {
	Words  int
	Points []int // words at which pointers lie
	Base   Part  // that it extends; of the number None: nothing
}

// None is the number of no record.
const None = -1

// Procedure: where its code begins, and what a call must have.
type Procedure struct {
	Name       string // empty, unless it is exported
	Parameters int
	Results    int // 0 or 1
	Words      int // of its parameters, one each, and of its variables
	Start      int
}

// over lets an object go over a tape, part by part.
func (o *Object) over(t tape) {
	t.text(&o.Name)
	t.number(&o.Key)
	each(t, &o.Leans, (*Lean).over)
	t.number(&o.Words)
	each(t, &o.Points, number)
	each(t, &o.Records, (*Record).over)
	each(t, &o.Procedures, (*Procedure).over)
	each(t, &o.Code, (*Instruction).over)
	t.number(&o.Start)
}

func number(x *int, t tape) { t.number(x) }

func (x *Lean) over(t tape) {
	t.text(&x.Name)
	t.number(&x.Key)
}

func (r *Record) over(t tape) {
	t.number(&r.Words)
	each(t, &r.Points, number)
	t.number(&r.Base.Module)
	t.number(&r.Base.Number)
}

func (p *Procedure) over(t tape) {
	t.text(&p.Name)
	t.number(&p.Parameters)
	t.number(&p.Results)
	t.number(&p.Words)
	t.number(&p.Start)
}

func (i *Instruction) over(t tape) {
	op := int(i.Op)
	t.number(&op)
	i.Op = Op(op)
	t.number(&i.A)
	t.number(&i.B)
}
