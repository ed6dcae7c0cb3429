/- The document's reader, as a function of a state, reads what the grammar says; and what is wrong once stays so. -/
import Derived.Test.YtbphiiaoncakfaaGreatDoorG04
import Derived.Test.YtbphiiaoncakfaaGreatDoorG03
namespace Go.Proofs.YtbphiiaoncakfaaGreatDoor

def SimAt {α : Type} (x : α × QS) (r : Except (Int × Int) (α × Nat)) : Prop := match r with
  | .ok (a, j) => x = (a, (j, none))
  | .error e => ∃ a j, x = (a, (j, some e))
/-- What is wrong already stays, and so does the place. -/
def Stays {α : Type} (q : Q α) : Prop := ∀ i e, ∃ a, q (i, some e) = (a, (i, some e))
def Sim {α : Type} (q : Q α) (p : P α) : Prop := (∀ i, SimAt (q (i, none)) (p i)) ∧ Stays q

theorem Stays.bind {α β : Type} {q : Q α} {k : α → Q β} (hq : Stays q) (hk : ∀ a, Stays (k a)) : Stays (q.bind k) := by
  intro i e; obtain ⟨a, ha⟩ := hq i e; obtain ⟨b, hb⟩ := hk a i e
  exact ⟨b, by unfold Q.bind; rw [ha]; exact hb⟩
theorem Stays.ret {α : Type} (a : α) : Stays (Q.ret a) := fun _ _ => ⟨a, rfl⟩
theorem Stays.at {α : Type} {f : Nat → Q α} (h : ∀ i, Stays (f i)) : Stays (atQ f) := fun i e => h i i e
theorem Stays.ite {α : Type} {c : Prop} [Decidable c] {q1 q2 : Q α} (h1 : Stays q1) (h2 : Stays q2) : Stays (if c then q1 else q2) := by
  split
  · exact h1
  · exact h2

theorem SimAt.bind {α β : Type} {q : Q α} {p : P α} {kq : α → Q β} {kp : α → P β} {i : Nat} (h : SimAt (q (i, none)) (p i)) (hk : ∀ a j, p i = .ok (a, j) → SimAt (kq a (j, none)) (kp a j)) (hs : ∀ a, Stays (kq a)) :
    SimAt ((q.bind kq) (i, none)) ((p.bind kp) i) := by
  unfold Q.bind P.bind
  cases hp : p i with
  | error e =>
    rw [hp] at h; obtain ⟨a, j, h⟩ := h; rw [h]; obtain ⟨b, hb⟩ := hs a j e
    exact ⟨b, j, hb⟩
  | ok x =>
    obtain ⟨a, j⟩ := x; rw [hp] at h; have h' : q (i, none) = (a, (j, none)) := h; rw [h']
    exact hk a j hp
theorem Sim.bind {α β : Type} {q : Q α} {p : P α} {kq : α → Q β} {kp : α → P β} (h : Sim q p) (hk : ∀ a, Sim (kq a) (kp a)) : Sim (q.bind kq) (p.bind kp) :=
  ⟨fun i => SimAt.bind (h.1 i) (fun a j _ => (hk a).1 j) (fun a => (hk a).2), h.2.bind fun a => (hk a).2⟩
theorem Sim.ret {α : Type} (a : α) : Sim (Q.ret a) (P.ret a) := ⟨fun _ => rfl, Stays.ret a⟩
theorem Sim.at {α : Type} {f : Nat → Q α} {g : Nat → P α} (h : ∀ i, Sim (f i) (g i)) : Sim (atQ f) (atP g) := ⟨fun i => (h i).1 i, fun i e => (h i).2 i e⟩
theorem Sim.ite {α : Type} {c : Prop} [Decidable c] {q1 q2 : Q α} {p1 p2 : P α} (h1 : Sim q1 p1) (h2 : Sim q2 p2) : Sim (if c then q1 else q2) (if c then p1 else p2) := by
  split
  · exact h1
  · exact h2
theorem Sim.stuck {α : Type} (a : α) : Sim (stuckQ a) (fun _ => .error (0, 0)) := ⟨fun i => ⟨a, i, rfl⟩, fun _ _ => ⟨a, rfl⟩⟩

section
variable (L : List Tok)
theorem stays_stop (e : Int) : Stays (stopQ L e) := fun _ _ => ⟨(), rfl⟩
theorem stays_other : Stays (otherQ L) := fun _ _ => ⟨(), rfl⟩
theorem other_at (i : Nat) : otherQ L (i, none) = ((), (i, some (refuseAt L i))) := by unfold otherQ stopQ refuseAt; rfl
theorem sim_is (x : List UInt8) : Sim (isQ L x) (hasP L x) := by
  refine ⟨fun i => ?_, fun i e => ⟨false, ?_⟩⟩
  · unfold isQ hasP
    by_cases h : wd L i = x
    · rw [if_pos ⟨rfl, h⟩, if_pos h]; rfl
    · rw [if_neg (fun hh => h hh.2), if_neg h]; rfl
  · unfold isQ
    rw [if_neg (fun hh => by cases hh.1)]
theorem sim_need (x : List UInt8) : Sim (needQ L x) (wantP L x) := by
  refine ⟨fun i => ?_, Stays.bind (sim_is L x).2 fun b => Stays.ite (Stays.ret _) (stays_other L)⟩
  unfold needQ wantP isQ Q.bind
  by_cases h : wd L i = x
  · simp only [h, and_self, if_true]; rfl
  · simp only [h, and_false, if_false]
    exact ⟨(), i, other_at L i⟩
theorem sim_name : Sim (nameQ L) (nameP L) := by
  refine ⟨fun i => ?_, fun i e => ⟨[], ?_⟩⟩
  · unfold nameQ nameP
    by_cases h : nameB (wd L i) = true
    · rw [if_pos ⟨rfl, h⟩, if_pos h]; rfl
    · rw [if_neg (fun hh => h hh.2), if_neg h]
      exact ⟨[], i, by rw [other_at]⟩
  · unfold nameQ
    rw [if_neg (fun hh => by cases hh.1)]
    rfl
theorem sim_value : Sim (valueQ L) (numP L) := by
  refine ⟨fun i => ?_, fun i e => ⟨0, rfl⟩⟩
  unfold valueQ numP
  cases h : numOf (wd L i) with
  | some n => simp only; exact rfl
  | none => simp only; exact ⟨0, i, by rw [other_at]⟩
theorem sim_limit (k : Int) : Sim (limitQ L k) (limitP L) := ⟨fun i => ⟨_, i, rfl⟩, fun _ _ => ⟨_, rfl⟩⟩
theorem sim_named (k : Int) : Sim (namedQ L k) (namedP L k) := Sim.at fun _ => (sim_name L).bind fun _ => Sim.ret _
theorem sim_star (t : T) : Sim (starQ L t) (starP L t) := (sim_is L _).bind fun _ => Sim.ret _
theorem sim_marked (k : Int) : Sim (markedQ L k) (markedP L k) := (sim_named L k).bind fun t => sim_star L t
theorem sim_typeName : Sim (typeNameQ L) (typeNameP L) := (sim_named L _).bind fun _ => (sim_is L _).bind fun _ => Sim.ite ((sim_name L).bind fun _ => Sim.ret _) (Sim.ret _)
theorem sim_typed (t : T) : Sim (typedQ L t) (typedP L t) := (sim_need L _).bind fun _ => (sim_typeName L).bind fun _ => Sim.ret _
theorem sim_several {q : Q T} {p : P T} (h : Sim q p) (sep : List UInt8) : ∀ (f : Nat) (acc : List T), Sim (severalQ L q sep f acc) (p.bind fun t => severalLoop L p sep f (acc ++ [t]))
  | 0, _ => h.bind fun _ => Sim.stuck _
  | f + 1, _ => h.bind fun _ => (sim_is L _).bind fun _ => Sim.ite (sim_several h sep f _) (Sim.ret _)

/-- What stands in brackets, if a bracket is next. -/
def givenP (E : P T) : P (List T) := fun i => if wd L i = s_lp then bracketedP L E s_comma i else .ok ([], i)
theorem sim_given {E : Q T} {E' : P T} (h : Sim E E') : Sim (givenQ L E) (givenP L E') := by
  have hb : ∀ b : Bool, Stays (if b = true then (isQ L s_rp).bind fun b2 => if b2 = true then Q.ret [] else (severalQ L E s_comma L.length []).bind fun l => (needQ L s_rp).bind fun _ => Q.ret l else Q.ret []) := fun b =>
    Stays.ite (Stays.bind (sim_is L _).2 fun b2 => Stays.ite (Stays.ret _) (Stays.bind (sim_several L h _ _ _).2 fun l => Stays.bind (sim_need L _).2 fun _ => Stays.ret _)) (Stays.ret _)
  refine ⟨fun i => ?_, Stays.bind (sim_is L _).2 hb⟩
  unfold givenP
  by_cases hw : wd L i = s_lp
  · rw [if_pos hw]
    have e1 : givenQ L E (i, none) = ((isQ L s_rp).bind fun b2 => if b2 = true then Q.ret [] else (severalQ L E s_comma L.length []).bind fun l => (needQ L s_rp).bind fun _ => Q.ret l) (i + 1, none) := by
      unfold givenQ
      rw [Q.bind]; simp only [isQ, hw, and_self, if_true]
    have e2 : bracketedP L E' s_comma i = ((hasP L s_rp).bind fun b => if b = true then P.ret [] else (severalP L E' s_comma).bind fun l => (wantP L s_rp).bind fun _ => P.ret l) (i + 1) := by
      unfold bracketedP
      exact P.bind_ok (by unfold wantP; rw [if_pos hw])
    rw [e1, e2]
    exact ((sim_is L _).bind fun b => Sim.ite (Sim.ret _) (Sim.bind (sim_several L h _ _ _) fun l => (sim_need L _).bind fun _ => Sim.ret _)).1 (i + 1)
  · rw [if_neg hw]
    have e1 : givenQ L E (i, none) = ([], (i, none)) := by
      unfold givenQ
      rw [Q.bind]; simp only [isQ, hw, and_false, if_false]
      rfl
    rw [e1]
    exact rfl

theorem is_no {x : List UInt8} {i : Nat} (h : wd L i ≠ x) : isQ L x (i, none) = (false, (i, none)) := by
  unfold isQ
  rw [if_neg (fun hh => h hh.2)]
theorem is_yes {x : List UInt8} {i : Nat} (h : wd L i = x) : isQ L x (i, none) = (true, (i + 1, none)) := by
  unfold isQ
  rw [if_pos ⟨rfl, h⟩]
theorem Q.bind_eq {α β : Type} {q : Q α} {k : α → Q β} {s s' : QS} {a : α} (h : q s = (a, s')) : Q.bind q k s = k a s' := by unfold Q.bind; rw [h]

theorem stays_desigLoop (E : Q T) : ∀ (f : Nat) (d : T), Stays (desigLoopQ L E f d)
  | 0, d => (stays_stop L 3).bind fun _ => Stays.ret d
  | f + 1, d => fun i e => ⟨d, by rw [desigLoopQ]; exact if_neg (by intro hh; cases hh)⟩
theorem desigLoop_step (E : Q T) (f : Nat) (d : T) (i : Nat) : desigLoopQ L E (f + 1) d (i, none) = desigStepQ L E (desigLoopQ L E f) d (i, none) := by rw [desigLoopQ]; exact if_pos rfl
theorem desigLoop_dot (E : Q T) (f : Nat) (d : T) {i : Nat} (h : wd L i = s_dot) : desigLoopQ L E (f + 1) d (i, none) = ((nameQ L).bind fun x => desigLoopQ L E f (.mk 25 x 0 d.at' [d])) (i + 1, none) := by
  rw [desigLoop_step, desigStepQ, Q.bind_eq (is_yes L h), if_pos rfl]
theorem desigLoop_lb (E : Q T) (f : Nat) (d : T) {i : Nat} (h : wd L i = s_lb) : desigLoopQ L E (f + 1) d (i, none) = (E.bind fun e => (needQ L s_rb).bind fun _ => desigLoopQ L E f (.mk 26 [] 0 d.at' [d, e])) (i + 1, none) := by
  rw [desigLoop_step, desigStepQ, Q.bind_eq (is_no L (by rw [h]; decide)), if_neg (by decide), Q.bind_eq (is_yes L h), if_pos rfl]
theorem desigLoop_hat (E : Q T) (f : Nat) (d : T) {i : Nat} (h : wd L i = s_hat) : desigLoopQ L E (f + 1) d (i, none) = desigLoopQ L E f (.mk 27 [] 0 d.at' [d]) (i + 1, none) := by
  rw [desigLoop_step, desigStepQ, Q.bind_eq (is_no L (by rw [h]; decide)), if_neg (by decide), Q.bind_eq (is_no L (by rw [h]; decide)), if_neg (by decide), Q.bind_eq (is_yes L h), if_pos rfl]
theorem desigLoop_lc (E : Q T) (f : Nat) (d : T) {i : Nat} (h : wd L i = s_lc) : desigLoopQ L E (f + 1) d (i, none) = ((typeNameQ L).bind fun y => (needQ L s_rc).bind fun _ => desigLoopQ L E f (.mk 28 [] 0 d.at' [d, y])) (i + 1, none) := by
  rw [desigLoop_step, desigStepQ, Q.bind_eq (is_no L (by rw [h]; decide)), if_neg (by decide), Q.bind_eq (is_no L (by rw [h]; decide)), if_neg (by decide), Q.bind_eq (is_no L (by rw [h]; decide)), if_neg (by decide), Q.bind_eq (is_yes L h), if_pos rfl]
theorem desigLoop_no (E : Q T) (f : Nat) (d : T) {i : Nat} (h1 : wd L i ≠ s_dot) (h2 : wd L i ≠ s_lb) (h3 : wd L i ≠ s_hat) (h4 : wd L i ≠ s_lc) : desigLoopQ L E (f + 1) d (i, none) = (d, (i, none)) := by
  rw [desigLoop_step, desigStepQ, Q.bind_eq (is_no L h1), if_neg (by decide), Q.bind_eq (is_no L h2), if_neg (by decide), Q.bind_eq (is_no L h3), if_neg (by decide), Q.bind_eq (is_no L h4), if_neg (by decide)]
  rfl
theorem P.bind_assoc {α β γ : Type} (p : P α) (k : α → P β) (m : β → P γ) : (p.bind k).bind m = p.bind fun a => (k a).bind m := by
  funext i
  unfold P.bind
  cases p i <;> rfl
theorem P.ret_bind {α β : Type} (a : α) (k : α → P β) : (P.ret a).bind k = k a := rfl

/-- One part more of a designator, and what comes behind it. -/
theorem sim_part {E : Q T} {E' : P T} (h : Sim E E') {f : Nat} {K : T → P T} (hk : ∀ d, Sim (desigLoopQ L E f d) (K d)) (d : T) (i : Nat) (hp : partIsNext (wd L i) = true) : SimAt (desigLoopQ L E (f + 1) d (i, none)) ((partP L E' d).bind K i) := by
  unfold partIsNext at hp
  simp only [Bool.or_eq_true, beq_iff_eq] at hp
  by_cases h1 : wd L i = s_dot
  · rw [desigLoop_dot L E f d h1]
    have e : (partP L E' d).bind K i = ((nameP L).bind fun x => K (.mk 25 x 0 d.at' [d])) (i + 1) := by
      rw [P.bind, partP, if_pos h1, ← P.bind, P.bind_assoc]
      rfl
    rw [e]
    exact ((sim_name L).bind fun _ => hk _).1 (i + 1)
  by_cases h2 : wd L i = s_lb
  · rw [desigLoop_lb L E f d h2]
    have e : (partP L E' d).bind K i = (E'.bind fun e => (wantP L s_rb).bind fun _ => K (.mk 26 [] 0 d.at' [d, e])) (i + 1) := by
      rw [P.bind, partP, if_neg h1, if_pos h2, ← P.bind, P.bind_assoc]; simp only [P.bind_assoc]
      rfl
    rw [e]
    exact (h.bind fun _ => (sim_need L _).bind fun _ => hk _).1 (i + 1)
  by_cases h3 : wd L i = s_hat
  · rw [desigLoop_hat L E f d h3]
    have e : (partP L E' d).bind K i = K (.mk 27 [] 0 d.at' [d]) (i + 1) := by
      rw [P.bind, partP, if_neg h1, if_neg h2, if_pos h3]
    rw [e]
    exact (hk _).1 (i + 1)
  have h4 : wd L i = s_lc := by rcases hp with ((hp | hp) | hp) | hp <;> first | exact hp | exact absurd hp (by assumption)
  rw [desigLoop_lc L E f d h4]
  have e : (partP L E' d).bind K i = ((typeNameP L).bind fun y => (wantP L s_rc).bind fun _ => K (.mk 28 [] 0 d.at' [d, y])) (i + 1) := by
    rw [P.bind, partP, if_neg h1, if_neg h2, if_neg h3, ← P.bind, P.bind_assoc]; simp only [P.bind_assoc]
    rfl
  rw [e]
  exact ((sim_typeName L).bind fun _ => (sim_need L _).bind fun _ => hk _).1 (i + 1)
theorem sim_desigEnd (E : Q T) {d : T} {i : Nat} {f : Nat} (hp : ¬ partIsNext (wd L i) = true) : SimAt (desigLoopQ L E (f + 1) d (i, none)) (.ok (d, i)) := by
  unfold partIsNext at hp
  simp only [Bool.or_eq_true, beq_iff_eq] at hp; rw [desigLoop_no L E f d (fun e => hp (.inl (.inl (.inl e)))) (fun e => hp (.inl (.inl (.inr e)))) (fun e => hp (.inl (.inr e))) (fun e => hp (.inr e))]
  exact rfl
theorem sim_desigLoop {E : Q T} {E' : P T} (h : Sim E E') : ∀ (f : Nat) (d : T), Sim (desigLoopQ L E (f + 1) d) (designatorLoop L E' f d)
  | 0, d => by
    refine ⟨fun i => ?_, stays_desigLoop L E _ _⟩; rw [designatorLoop]
    dsimp only
    by_cases hp : partIsNext (wd L i) = true
    · rw [if_pos hp]
      refine sim_part L h (K := fun _ => limitP L) (fun d => ⟨fun j => ⟨d, j, rfl⟩, stays_desigLoop L E _ _⟩) d i hp
    · rw [if_neg hp]
      exact sim_desigEnd L E hp
  | f + 1, d => by
    refine ⟨fun i => ?_, stays_desigLoop L E _ _⟩; rw [designatorLoop]
    dsimp only
    by_cases hp : partIsNext (wd L i) = true
    · rw [if_pos hp]
      exact sim_part L h (sim_desigLoop h f) d i hp
    · rw [if_neg hp]
      exact sim_desigEnd L E hp
theorem sim_desig {E : Q T} {E' : P T} (h : Sim E E') : Sim (desigQ L E) (designatorP L E') := (sim_named L _).bind fun d => sim_desigLoop L h 20 d
theorem sim_chain (joins : List UInt8 → Bool) {q : Q T} {p : P T} (h : Sim q p) : ∀ (f : Nat) (t : T), Sim (chainQ L joins q f t) (chainP L joins p f t)
  | 0, t => by
    refine ⟨fun i => ?_, fun i e => ⟨t, by rw [chainQ]; exact if_neg (by intro hh; cases hh.1)⟩⟩; rw [chainQ, chainP]
    dsimp only
    by_cases hj : joins (wd L i) = true
    · rw [if_pos ⟨rfl, hj⟩, if_pos hj]
      obtain ⟨r, hr⟩ := h.2 (i + 1) (3, pos L (i + 1)); refine ⟨opT (wd L i) t r, i + 1, ?_⟩; rw [Q.bind_eq (show stopQ L 3 (i + 1, none) = ((), (i + 1, some (3, pos L (i + 1)))) from rfl), Q.bind_eq hr]
      rfl
    · rw [if_neg (fun hh => hj hh.2), if_neg hj]
      exact rfl
  | f + 1, t => by
    refine ⟨fun i => ?_, fun i e => ⟨t, by rw [chainQ]; exact if_neg (by intro hh; cases hh.1)⟩⟩; rw [chainQ, chainP]
    dsimp only
    by_cases hj : joins (wd L i) = true
    · rw [if_pos ⟨rfl, hj⟩, if_pos hj]
      exact (h.bind fun r => sim_chain joins h f (opT (wd L i) t r)).1 (i + 1)
    · rw [if_neg (fun hh => hj hh.2), if_neg hj]
      exact rfl
theorem sim_call {E : Q T} {E' : P T} (h : Sim E E') : Sim (callQ L E) (designatorOrCallP L E') := by
  refine (sim_desig L h).bind fun n => ⟨fun i => ?_, fun i e => ⟨n, if_neg (by intro hh; cases hh.1)⟩⟩
  dsimp only
  by_cases hw : wd L i = s_lp
  · rw [if_pos ⟨rfl, hw⟩, if_pos hw]
    have e : argumentsP L E' i = givenP L E' i := by unfold argumentsP givenP; rw [if_pos hw]
    have hh := ((sim_given L h).bind fun l => Sim.ret (T.mk 33 [] 0 n.at' (n :: l))).1 i; rw [P.bind, ← e, ← P.bind] at hh
    exact hh
  · rw [if_neg (fun hh => hw hh.2), if_neg hw]
    exact rfl

/-- What holds of the words: what begins with a digit is a number, and no name; kept words are none. -/
structure GoodW : Prop where
  num : ∀ i n, numOf (wd L i) = some n → nameB (wd L i) = false
  kEND : nameB kEND = false

theorem sim_factor (G : GoodW L) {E F : Q T} {E' F' : P T} (h : Sim E E') (hf : Sim F F') : Sim (factorQ L E F) (factorP L E' F') := by
  refine ⟨fun i => ?_, fun i e => ⟨_, by rw [factorQ]; exact if_neg (by intro hh; cases hh)⟩⟩; rw [factorQ, factorP]
  dsimp only
  rw [if_pos rfl]
  by_cases h1 : wd L i = kTRUE
  · rw [if_pos h1, if_pos h1]; exact rfl
  rw [if_neg h1, if_neg h1]
  by_cases h2 : wd L i = kFALSE
  · rw [if_pos h2, if_pos h2]; exact rfl
  rw [if_neg h2, if_neg h2]
  by_cases h3 : wd L i = kNIL
  · rw [if_pos h3, if_pos h3]; exact rfl
  rw [if_neg h3, if_neg h3]
  by_cases h4 : wd L i = s_tilde
  · rw [if_pos h4, if_pos h4]
    exact (hf.bind fun _ => Sim.ret _).1 (i + 1)
  rw [if_neg h4, if_neg h4]
  by_cases h5 : wd L i = s_lp
  · rw [if_pos h5, if_pos h5]
    exact (h.bind fun _ => (sim_need L _).bind fun _ => Sim.ret _).1 (i + 1)
  rw [if_neg h5, if_neg h5]; cases hn : numOf (wd L i) with
  | some n =>
    rw [if_neg (by rw [G.num i n hn]; decide)]; rw [P.bind_ok (a := n) (j := i + 1) (by unfold numP; rw [hn])]
    exact rfl
  | none =>
    dsimp only
    by_cases h6 : nameB (wd L i) = true
    · rw [if_pos h6]
      exact (sim_call L h).1 i
    · rw [if_neg h6, P.bind_err (e := refuseAt L i) (by unfold numP; rw [hn])]
      have hh := (sim_call L h).1 i
      have e2 : designatorOrCallP L E' i = .error (refuseAt L i) := by
        unfold designatorOrCallP designatorP namedP atP
        refine P.bind_err (P.bind_err (P.bind_err ?_))
        unfold nameP
        rw [if_neg h6]
      rw [e2] at hh
      exact hh
theorem sim_product (G : GoodW L) {E F : Q T} {E' F' : P T} (h : Sim E E') (hf : Sim F F') : Sim (productQ L E F) (productP L E' F') := (sim_factor L G h hf).bind fun _ => sim_chain L _ (sim_factor L G h hf) _ _
theorem sim_sum (G : GoodW L) {E F : Q T} {E' F' : P T} (h : Sim E E') (hf : Sim F F') : Sim (sumQ L E F) (sumP L E' F') := Sim.at fun _ => (sim_is L _).bind fun _ => (sim_product L G h hf).bind fun _ => sim_chain L _ (sim_product L G h hf) _ _
theorem sim_relation (G : GoodW L) {E F : Q T} {E' F' : P T} (h : Sim E E') (hf : Sim F F') : Sim (relationQ L E F) (relationP L E' F') := by
  refine (sim_sum L G h hf).bind fun a => ⟨fun i => ?_, fun i e => ⟨a, if_neg (by intro hh; cases hh)⟩⟩
  dsimp only
  rw [if_pos rfl]
  by_cases h1 : wd L i = kIS
  · rw [if_pos h1, if_pos h1]
    exact ((sim_typeName L).bind fun _ => Sim.ret _).1 (i + 1)
  rw [if_neg h1, if_neg h1]
  by_cases h2 : comparesB (wd L i) = true
  · rw [if_pos h2, if_pos h2]
    exact ((sim_sum L G h hf).bind fun _ => Sim.ret _).1 (i + 1)
  rw [if_neg h2, if_neg h2]
  exact rfl
theorem sim_exprFactor (G : GoodW L) : ∀ n, Sim (exprQ L n) (exprP L n) ∧ Sim (deepFactorQ L n) (deepFactorP L n)
  | 0 => ⟨sim_limit L 0, sim_limit L 0⟩
  | n + 1 => ⟨sim_relation L G (sim_exprFactor G n).1 (sim_exprFactor G n).2, sim_factor L G (sim_exprFactor G n).1 (sim_exprFactor G n).2⟩
theorem sim_expr (G : GoodW L) (n : Nat) : Sim (exprQ L n) (exprP L n) := (sim_exprFactor L G n).1

section
variable {E A : Q T} {E' A' : P T}
theorem sim_branch (h : Sim E E') (ha : Sim A A') : Sim (branchQ L E A) (branchP L E' A') := h.bind fun _ => (sim_need L _).bind fun _ => ha.bind fun _ => Sim.ret _
theorem sim_choiceLoop (h : Sim E E') (ha : Sim A A') : ∀ (f : Nat) (acc : List T), Sim (choiceLoopQ L E A f acc) (choiceLoop L E' A' f acc)
  | 0, _ => Sim.stuck _
  | f + 1, _ => (sim_is L _).bind fun _ => Sim.ite ((sim_branch L h ha).bind fun _ => sim_choiceLoop h ha f _) (Sim.ret _)
theorem sim_choice (h : Sim E E') (ha : Sim A A') : Sim (choiceQ L E A) (choiceP L E' A') := Sim.at fun _ => (sim_need L _).bind fun _ => (sim_branch L h ha).bind fun _ => (sim_choiceLoop L h ha _ _).bind fun _ => (sim_is L _).bind fun _ =>
  Sim.ite (ha.bind fun _ => (sim_need L _).bind fun _ => Sim.ret _) ((sim_need L _).bind fun _ => Sim.ret _)
theorem sim_while (h : Sim E E') (ha : Sim A A') : Sim (whileQ L E A) (whileP L E' A') := Sim.at fun _ => (sim_need L _).bind fun _ => h.bind fun _ => (sim_need L _).bind fun _ => ha.bind fun _ => (sim_need L _).bind fun _ => Sim.ret _
theorem sim_repeat (h : Sim E E') (ha : Sim A A') : Sim (repeatQ L E A) (repeatP L E' A') := Sim.at fun _ => (sim_need L _).bind fun _ => ha.bind fun _ => (sim_need L _).bind fun _ => h.bind fun _ => Sim.ret _
theorem sim_builtIn (h : Sim E E') (kind : Int) (k : List UInt8) : Sim (builtInQ L kind k E) (builtInP L kind k E') := Sim.at fun _ => (sim_need L _).bind fun _ => (sim_need L _).bind fun _ => h.bind fun _ => (sim_need L _).bind fun _ => Sim.ret _
theorem sim_return (h : Sim E E') : Sim (returnQ L E) (returnP L E') := by
  refine Sim.at fun i => (sim_need L _).bind fun _ => ⟨fun j => ?_, fun j e => ?_⟩
  · dsimp only
    by_cases hn : nothingB (wd L j) = true
    · rw [if_pos hn, if_pos hn]; exact rfl
    · rw [if_neg hn, if_neg hn]
      exact (h.bind fun _ => Sim.ret _).1 j
  · by_cases hn : nothingB (wd L j) = true
    · exact ⟨_, if_pos hn⟩
    · dsimp only
      rw [if_neg hn]
      exact Stays.bind h.2 (fun _ => Stays.ret _) j e
theorem sim_assign (h : Sim E E') : Sim (assignQ L E) (assignP L E') := by
  refine Sim.at fun i => (sim_desig L h).bind fun d => ⟨fun j => ?_, Stays.bind (sim_is L _).2 fun _ => Stays.ite (Stays.bind h.2 fun _ => Stays.ret _) (Stays.bind (sim_given L h).2 fun _ => Stays.ret _)⟩
  dsimp only
  by_cases h1 : wd L j = s_becomes
  · rw [Q.bind_eq (is_yes L h1), if_pos rfl, if_pos h1]
    exact (h.bind fun _ => Sim.ret _).1 (j + 1)
  rw [Q.bind_eq (is_no L h1), if_neg (by decide), if_neg h1]; have hh := ((sim_given L h).bind fun l => Sim.ret (T.mk 15 [] 0 (pos L i) (d :: l))).1 j
  by_cases h2 : wd L j = s_lp
  · rw [if_pos h2]
    have e : argumentsP L E' j = givenP L E' j := by unfold argumentsP givenP; rw [if_pos h2]
    rw [P.bind, ← e, ← P.bind] at hh
    exact hh
  · rw [if_neg h2]
    rw [P.bind_ok (a := []) (j := j) (by unfold givenP; rw [if_neg h2])] at hh
    exact hh
theorem sim_act (h : Sim E E') (ha : Sim A A') (i : Nat) : SimAt (actQ L E A (i, none)) (actP L E' A' i) := by
  unfold actQ actP
  by_cases h1 : wd L i = kIF
  · rw [if_pos h1, if_pos h1]; exact (sim_choice L h ha).1 i
  rw [if_neg h1, if_neg h1]
  by_cases h1 : wd L i = kWHILE
  · rw [if_pos h1, if_pos h1]; exact (sim_while L h ha).1 i
  rw [if_neg h1, if_neg h1]
  by_cases h1 : wd L i = kREPEAT
  · rw [if_pos h1, if_pos h1]; exact (sim_repeat L h ha).1 i
  rw [if_neg h1, if_neg h1]
  by_cases h1 : wd L i = kRETURN
  · rw [if_pos h1, if_pos h1]; exact (sim_return L h).1 i
  rw [if_neg h1, if_neg h1]
  by_cases h1 : wd L i = kNEW
  · rw [if_pos h1, if_pos h1]; exact (sim_builtIn L (sim_desig L h) _ _).1 i
  rw [if_neg h1, if_neg h1]
  by_cases h1 : wd L i = kOUT
  · rw [if_pos h1, if_pos h1]; exact (sim_builtIn L h _ _).1 i
  rw [if_neg h1, if_neg h1]
  by_cases h1 : wd L i = kGET
  · rw [if_pos h1, if_pos h1]; exact (sim_builtIn L (sim_desig L h) _ _).1 i
  rw [if_neg h1, if_neg h1]
  by_cases h1 : wd L i = kASSERT
  · rw [if_pos h1, if_pos h1]; exact (sim_builtIn L h _ _).1 i
  rw [if_neg h1, if_neg h1]
  exact (sim_assign L h).1 i
theorem sim_actLoop (h : Sim E E') (ha : Sim A A') : ∀ (f : Nat) (acc : List T), Sim (actLoopQ L E A f acc) (actLoop L E' A' f acc)
  | 0, _ => Sim.stuck _
  | f + 1, acc => by
    refine ⟨fun i => ?_, fun i e => ⟨acc, by rw [actLoopQ]; exact if_neg (by intro hh; cases hh)⟩⟩; rw [actLoopQ, actLoop]
    dsimp only
    rw [if_pos rfl]
    have hk : ∀ acc : List T, Sim ((isQ L s_semi).bind fun b => if b = true then actLoopQ L E A f acc else Q.ret acc) ((hasP L s_semi).bind fun b => if b = true then actLoop L E' A' f acc else P.ret acc) :=
      fun acc => (sim_is L _).bind fun _ => Sim.ite (sim_actLoop h ha f _) (Sim.ret _)
    refine SimAt.bind ?_ (fun a j _ => (hk a).1 j) (fun a => (hk a).2)
    by_cases hn : nothingB (wd L i) = true
    · rw [if_pos hn, if_pos hn]; exact rfl
    · rw [if_neg hn, if_neg hn]
      exact SimAt.bind (sim_act L h ha i) (fun _ _ _ => rfl) (fun _ => Stays.ret _)
theorem sim_actList (h : Sim E E') (ha : Sim A A') : Sim (actListQ L E A) (actListP L E' A') := Sim.at fun _ => (sim_actLoop L h ha _ _).bind fun _ => Sim.ret _
end
theorem sim_acts (G : GoodW L) : ∀ n, Sim (actsQ L n) (actsP L n)
  | 0 => sim_limit L 1
  | n + 1 => sim_actList L (sim_expr L G n) (sim_acts G n)

theorem sim_declLoop {q : Q T} {p : P T} (h : Sim q p) : ∀ (f : Nat) (acc : List T), Sim (declLoopQ L q f acc) (declLoop L p f acc)
  | 0, _ => Sim.stuck _
  | f + 1, acc => by
    refine ⟨fun i => ?_, fun i e => ⟨acc, by rw [declLoopQ]; exact if_neg (by intro hh; cases hh.1)⟩⟩; rw [declLoopQ, declLoop]
    dsimp only
    by_cases hn : nameB (wd L i) = true
    · rw [if_pos ⟨rfl, hn⟩, if_pos hn]
      exact (h.bind fun _ => (sim_need L _).bind fun _ => sim_declLoop h f _).1 i
    · rw [if_neg (fun hh => hn hh.2), if_neg hn]
      exact rfl
theorem sim_section {q : Q T} {p : P T} (h : Sim q p) (k : List UInt8) : Sim (sectionQ L k q) (sectionP L k p) := Sim.at fun _ => (sim_is L _).bind fun _ => Sim.ite ((sim_declLoop L h _ _).bind fun _ => Sim.ret _) (Sim.ret _)
theorem sim_constant (G : GoodW L) : Sim (constantQ L) (constantP L) := (sim_marked L _).bind fun _ => (sim_need L _).bind fun _ => (sim_expr L G _).bind fun _ => Sim.ret _
theorem sim_variable : Sim (variableQ L) (variableP L) := (sim_marked L _).bind fun _ => sim_typed L _
theorem sim_field : Sim (fieldQ L) (fieldP L) := (sim_marked L _).bind fun _ => sim_typed L _
theorem sim_local : Sim (localQ L) (localP L) := (sim_named L _).bind fun _ => sim_typed L _
theorem sim_base : Sim (baseQ L) (baseP L) := Sim.at fun _ => (sim_is L _).bind fun _ => Sim.ite ((sim_typeName L).bind fun _ => (sim_need L _).bind fun _ => Sim.ret _) (Sim.ret _)
theorem field_err {i : Nat} (h : ¬ nameB (wd L i) = true) : fieldP L i = .error (refuseAt L i) := by
  unfold fieldP markedP namedP atP
  refine P.bind_err (P.bind_err (P.bind_err ?_))
  unfold nameP
  rw [if_neg h]
theorem stays_recLoop : ∀ (f : Nat) (acc : List T), Stays (recLoopQ L f acc)
  | 0, acc => (Sim.stuck acc).2
  | f + 1, acc => fun i e => ⟨acc, by rw [recLoopQ]; exact if_neg (by intro hh; cases hh)⟩
theorem sim_recLoop (G : GoodW L) : ∀ (f : Nat) (y : T) (acc : List T), Sim (recLoopQ L f (y :: acc)) ((declLoop L (fieldP L) f acc).bind fun l => (wantP L kEND).bind fun _ => P.ret (y :: l))
  | 0, y, acc => ⟨fun i => ⟨_, i, rfl⟩, stays_recLoop L _ _⟩
  | f + 1, y, acc => by
    refine ⟨fun i => ?_, stays_recLoop L _ _⟩; rw [recLoopQ]
    dsimp only
    rw [if_pos rfl]
    by_cases h1 : wd L i = kEND
    · rw [Q.bind_eq (is_yes L h1), if_pos rfl]
      have e2 : declLoop L (fieldP L) (f + 1) acc i = .ok (acc, i) := by rw [declLoop]; exact if_neg (by rw [h1, G.kEND]; decide)
      rw [P.bind_ok e2, P.bind_ok (a := ()) (j := i + 1) (by unfold wantP; rw [if_pos h1])]
      exact rfl
    rw [Q.bind_eq (is_no L h1), if_neg (by decide)]
    have hs : ∀ t, Stays ((needQ L s_semi).bind fun _ => recLoopQ L f (y :: acc ++ [t])) := fun t => Stays.bind (sim_need L _).2 fun _ => stays_recLoop L _ _
    by_cases hn : nameB (wd L i) = true
    · have e2 : declLoop L (fieldP L) (f + 1) acc i = ((fieldP L).bind fun t => (wantP L s_semi).bind fun _ => declLoop L (fieldP L) f (acc ++ [t])) i := by rw [declLoop]; exact if_pos hn
      rw [P.bind, e2, ← P.bind, P.bind_assoc]; simp only [P.bind_assoc]
      exact ((sim_field L).bind fun t => (sim_need L _).bind fun _ => sim_recLoop G f y (acc ++ [t])).1 i
    · have e2 : declLoop L (fieldP L) (f + 1) acc i = .ok (acc, i) := by rw [declLoop]; exact if_neg hn
      rw [P.bind_ok e2, P.bind_err (e := refuseAt L i) (by unfold wantP; rw [if_neg h1])]; have h3 := SimAt.bind ((sim_field L).1 i) (kp := fun t => (wantP L s_semi).bind fun _ => limitP L) (kq := fun t => (needQ L s_semi).bind fun _ => recLoopQ L f (y :: acc ++ [t])) (fun a j hj => by rw [field_err L hn] at hj; cases hj) hs; rw [P.bind_err (field_err L hn)] at h3
      exact h3
theorem sim_kind (G : GoodW L) : Sim (kindQ L) (typeItselfP L) := by
  have S1 : ∀ i, Sim ((valueQ L).bind fun n => (needQ L kOF).bind fun _ => (typeNameQ L).bind fun y => Q.ret (T.mk 9 [] n (pos L i) [y])) ((numP L).bind fun n => (wantP L kOF).bind fun _ => (typeNameP L).bind fun y => P.ret (T.mk 9 [] n (pos L i) [y])) :=
    fun i => (sim_value L).bind fun _ => (sim_need L _).bind fun _ => (sim_typeName L).bind fun _ => Sim.ret _
  have S2 : ∀ i, Sim ((needQ L kTO).bind fun _ => (typeNameQ L).bind fun y => Q.ret (T.mk 12 [] 0 (pos L i) [y])) ((wantP L kTO).bind fun _ => (typeNameP L).bind fun y => P.ret (T.mk 12 [] 0 (pos L i) [y])) :=
    fun i => (sim_need L _).bind fun _ => (sim_typeName L).bind fun _ => Sim.ret _
  have S3 : ∀ i, Sim ((needQ L kRECORD).bind fun _ => (baseQ L).bind fun y => (recLoopQ L (L.length + 1) [y]).bind fun l => Q.ret (T.mk 10 [] 0 (pos L i) l)) ((wantP L kRECORD).bind fun _ => (baseP L).bind fun y => ((declLoop L (fieldP L) (L.length + 1) []).bind fun l => (wantP L kEND).bind fun _ => P.ret (y :: l)).bind fun l => P.ret (T.mk 10 [] 0 (pos L i) l)) :=
    fun i => (sim_need L _).bind fun _ => (sim_base L).bind fun y => (sim_recLoop L G _ y []).bind fun _ => Sim.ret _
  refine ⟨fun i => ?_, Stays.at fun i => Stays.bind (sim_is L _).2 fun _ => Stays.ite (S1 i).2 (Stays.bind (sim_is L _).2 fun _ => Stays.ite (S2 i).2 (S3 i).2)⟩
  unfold kindQ atQ typeItselfP
  dsimp only
  by_cases h1 : wd L i = kARRAY
  · rw [Q.bind_eq (is_yes L h1), if_pos rfl, if_pos h1, arrayP, atP, P.bind_ok (a := ()) (j := i + 1) (by unfold wantP; rw [if_pos h1])]
    exact (S1 i).1 (i + 1)
  rw [Q.bind_eq (is_no L h1), if_neg (by decide), if_neg h1]
  by_cases h2 : wd L i = kPOINTER
  · rw [Q.bind_eq (is_yes L h2), if_pos rfl, if_neg (by rw [h2]; decide), if_pos h2, pointerP, atP, P.bind_ok (a := ()) (j := i + 1) (by unfold wantP; rw [if_pos h2])]
    exact (S2 i).1 (i + 1)
  rw [Q.bind_eq (is_no L h2), if_neg (by decide), if_neg h2]; have h3 := (S3 i).1 i
  by_cases h4 : wd L i = kRECORD
  · rw [if_pos h4, recordP, atP]
    simp only [P.bind_assoc] at h3
    exact h3
  · rw [if_neg h4]
    rw [P.bind_err (e := refuseAt L i) (by unfold wantP; rw [if_neg h4])] at h3
    exact h3
theorem sim_typeDecl (G : GoodW L) : Sim (typeDeclQ L) (typeDeclP L) := (sim_marked L _).bind fun _ => (sim_need L _).bind fun _ => (sim_kind L G).bind fun _ => Sim.ret _
theorem sim_parameter : Sim (parameterQ L) (parameterP L) := Sim.at fun _ => (sim_is L _).bind fun _ => (sim_name L).bind fun _ => sim_typed L _
theorem sim_parameters : Sim (parametersQ L) (parametersP L) := by
  have S1 : ∀ i, Sim ((isQ L s_rp).bind fun b2 => if b2 = true then Q.ret (T.mk 1 [] 0 (pos L i) []) else (severalQ L (parameterQ L) s_semi L.length []).bind fun l => (needQ L s_rp).bind fun _ => Q.ret (T.mk 1 [] 0 (pos L i) l))
      ((hasP L s_rp).bind fun b2 => if b2 = true then P.ret (T.mk 1 [] 0 (pos L i) []) else (severalP L (parameterP L) s_semi).bind fun l => (wantP L s_rp).bind fun _ => P.ret (T.mk 1 [] 0 (pos L i) l)) :=
    fun i => (sim_is L _).bind fun _ => Sim.ite (Sim.ret _) (Sim.bind (sim_several L (sim_parameter L) _ _ _) fun _ => (sim_need L _).bind fun _ => Sim.ret _)
  refine ⟨fun i => ?_, Stays.at fun i => Stays.bind (sim_is L _).2 fun _ => Stays.ite (S1 i).2 (Stays.ret _)⟩
  unfold parametersQ atQ parametersP
  dsimp only
  by_cases h1 : wd L i = s_lp
  · rw [Q.bind_eq (is_yes L h1), if_pos rfl, if_pos h1]
    have h3 := (S1 i).1 (i + 1)
    have e : ((bracketedP L (parameterP L) s_semi).bind fun l => P.ret (T.mk 1 [] 0 (pos L i) l)) i = ((hasP L s_rp).bind fun b2 => if b2 = true then P.ret (T.mk 1 [] 0 (pos L i) []) else (severalP L (parameterP L) s_semi).bind fun l => (wantP L s_rp).bind fun _ => P.ret (T.mk 1 [] 0 (pos L i) l)) (i + 1) := by
      rw [bracketedP, P.bind_assoc, P.bind_ok (a := ()) (j := i + 1) (by unfold wantP; rw [if_pos h1]), P.bind_assoc]
      congr 1
      funext b
      split
      · rfl
      · rw [P.bind_assoc]
        simp only [P.bind_assoc]
        rfl
    rw [e]
    exact h3
  · rw [Q.bind_eq (is_no L h1), if_neg (by decide), if_neg h1]
    exact rfl
theorem sim_result : Sim (resultQ L) (resultP L) := Sim.at fun _ => (sim_is L _).bind fun _ => Sim.ite (sim_typeName L) (Sim.ret _)
theorem sim_ending (x : List UInt8) : Sim (endingQ L x) (endingP L x) := (sim_need L _).bind fun _ => sim_need L _
theorem sim_procedure (G : GoodW L) : Sim (procedureQ L) (procedureP L) := Sim.at fun _ => (sim_need L _).bind fun _ => (sim_marked L _).bind fun h => (sim_parameters L).bind fun _ => (sim_result L).bind fun _ => (sim_need L _).bind fun _ =>
  (sim_section L (sim_local L) _).bind fun _ => (sim_need L _).bind fun _ => (sim_acts L G _).bind fun _ => match h with | .mk _ _ _ _ _ => (sim_ending L _).bind fun _ => Sim.ret _
theorem sim_procLoop (G : GoodW L) : ∀ (f : Nat) (acc : List T), Sim (procLoopQ L f acc) (procLoop L f acc)
  | 0, _ => Sim.stuck _
  | f + 1, acc => by
    refine ⟨fun i => ?_, fun i e => ⟨acc, by rw [procLoopQ]; exact if_neg (by intro hh; cases hh.1)⟩⟩; rw [procLoopQ, procLoop]
    dsimp only
    by_cases hn : wd L i = kPROCEDURE
    · rw [if_pos ⟨rfl, hn⟩, if_pos hn]
      exact ((sim_procedure L G).bind fun _ => (sim_need L _).bind fun _ => sim_procLoop G f _).1 i
    · rw [if_neg (fun hh => hn hh.2), if_neg hn]
      exact rfl
theorem sim_procedures (G : GoodW L) : Sim (proceduresQ L) (proceduresP L) := Sim.at fun _ => (sim_procLoop L G _ _).bind fun _ => Sim.ret _
theorem sim_imports : Sim (importsQ L) (importsP L) := Sim.at fun _ => (sim_is L _).bind fun _ => Sim.ite (Sim.bind (sim_several L (sim_named L _) _ _ _) fun _ => (sim_need L _).bind fun _ => Sim.ret _) (Sim.ret _)
theorem sim_body (G : GoodW L) : Sim (bodyQ L) (bodyP L) := Sim.at fun _ => (sim_is L _).bind fun _ => Sim.ite (sim_acts L G _) (Sim.ret _)
theorem sim_module (G : GoodW L) : Sim (moduleQ L) (moduleP L) := Sim.at fun _ => (sim_need L _).bind fun _ => (sim_name L).bind fun _ => (sim_need L _).bind fun _ => (sim_imports L).bind fun _ => (sim_section L (sim_constant L G) _).bind fun _ =>
  (sim_section L (sim_typeDecl L G) _).bind fun _ => (sim_section L (sim_variable L) _).bind fun _ => (sim_procedures L G).bind fun _ => (sim_body L G).bind fun _ => (sim_ending L _).bind fun _ => (sim_need L _).bind fun _ => Sim.ret _
end
end Go.Proofs.YtbphiiaoncakfaaGreatDoor

/- The document's kept words and names. -/
namespace Go.Proofs.YtbphiiaoncakfaaGreatDoor
open Go.RowKit

/-- The list of kept words, as it lies in the document's answer: where it begins, and what room it has. -/
structure Kept33 (w : World) (a : Addr) (cap : Nat) : Prop where
  lt : a.block < w.heap.size
  head : w.cell? ⟨3, 0, none⟩ = some (.slice (some a) 33 cap)
  room : 33 ≤ cap ∧ cap ≤ maxLen
  cell : ∀ (k : Nat) (h : k < 33), w.cell? (a.add k) = some (.string ⟨(keptL[k]'(by rw [kept_len]; exact h)).toArray⟩)

theorem mem_take_succ {l : List (List UInt8)} {x : List UInt8} {k : Nat} (h : k < l.length) (h1 : x ∉ l.take k) (h2 : l[k] ≠ x) : x ∉ l.take (k + 1) := by
  rw [List.take_succ_eq_append_getElem h]; intro hm
  rcases List.mem_append.1 hm with hm | hm
  · exact h1 hm
  · simp at hm; exact h2 hm.symm

set_option maxRecDepth 1000000 in
set_option maxHeartbeats 1000000 in
theorem in_any (s : ByteArray) (a : Addr) (cap : Nat) (w : World) (hk : Kept33 w a cap) :
    Calls Tryz.prog 101 #[.string s, .slice (some a) 33 cap] w fun e w' => e = .returned (.bool (keptB s.data.toList)) ∧ w' = w := by
  have hr := hk.room; have HC := hide hk.cell; clear hk
  unfold maxLen at hr
  go_enter Tryz.func101, Tryz.ntmps101
  go_wp2
  go_loop [5] (fun i => ∃ k : Nat, k ≤ 33 ∧ i = .int .i64 k ∧ Hid (s.data.toList ∉ keptL.take k)) (fun i => 33 - (intOf i).toNat)
  case atStart => exact ⟨0, by omega, rfl, by show _ ∉ _; simp⟩
  case round =>
    obtain ⟨k, hk, rfl, HB⟩ := hrel
    by_cases hlt : k < 33
    · have hls : k < keptL.length := by rw [kept_len]; exact hlt
      have hc := HC.out k hlt; cases he : (keptL[k]'hls == s.toList)
      · have HN : Hid (s.data.toList ∉ keptL.take (k + 1)) := mem_take_succ hls HB.out (fun h => by rw [h, bs_toList] at he; simp at he)
        go_wp2
        exact ⟨⟨k + 1, by omega, by go_num, HN⟩, by simp [intOf]; omega⟩
      · have HN : Hid (keptB s.data.toList = true) := by
          have e : keptL[k]'hls = s.data.toList := by rw [← bs_toList]; simpa using he
          show keptL.contains _ = true
          rw [List.contains_iff_mem, ← e]
          exact List.getElem_mem hls
        go_wp2
        go_ret
        exact ⟨by rw [HN.out]; rfl, rfl⟩
    · have hc : Hid (keptB s.data.toList = false) := by
        have e : keptL.take k = keptL := List.take_of_length_le (by rw [kept_len]; omega); have := HB.out; rw [e] at this
        show keptL.contains _ = false
        rw [Bool.eq_false_iff, ne_eq, List.contains_iff_mem]
        exact this
      go_wp2
      go_ret
      exact ⟨by rw [hc.out]; rfl, rfl⟩

theorem keptRef_any (s : ByteArray) (a : Addr) (cap : Nat) (w : World) (hk : Kept33 w a cap) :
    Calls Tryz.prog 67 #[.string s] w fun e w' => e = .returned (.bool (keptB s.data.toList)) ∧ w' = w := by
  have c0 := hk.head; have HK := hide hk; clear hk
  go_enter Tryz.func67, Tryz.ntmps67
  go_wp2_with (go_at_call 101; refine (in_any s a cap _ HK.out).mono ?_; rintro e w' ⟨rfl, rfl⟩)
  go_ret
  exact ⟨rfl, rfl⟩

set_option maxRecDepth 1000000 in
set_option maxHeartbeats 1000000 in
theorem nameRef_any (s : ByteArray) (a : Addr) (cap : Nat) (w : World) (hs : s.size ≤ maxLen) (hk : Kept33 w a cap) :
    Calls Tryz.prog 41 #[.string s] w fun e w' => e = .returned (.bool (nameB s.data.toList)) ∧ w' = w := by
  have HK := hide hk; clear hk
  unfold maxLen at hs
  by_cases h0 : s.size = 0
  · have hemp : s.toList.isEmpty = true := by rw [empty_form]; simp [h0]
    have HN := hide (shape_empty s h0); clear h0
    go_enter Tryz.func41, Tryz.ntmps41
    go_wp2
    go_ret
    exact ⟨by rw [HN.out]; rfl, rfl⟩
  · have hemp : s.toList.isEmpty = false := by rw [empty_form]; simp [h0]
    by_cases h12 : 12 < s.size
    · have HN := hide (shape_long s h12)
      clear h0
      go_enter Tryz.func41, Tryz.ntmps41
      go_wp2
      go_ret
      exact ⟨by rw [HN.out]; rfl, rfl⟩
    · have h1 : 0 < s.size := by omega
      have h13 : s.size ≤ 12 := by omega
      clear h0 h12; cases hkp : keptB s.data.toList
      · cases hl : isLetter (s[0]'h1).toNat
        · have HN := hide (shape_not_letter s h1 hl)
          go_enter Tryz.func41, Tryz.ntmps41
          go_wp2_with (first | (go_at_call 67; refine (keptRef_any s a cap _ HK.out).mono ?_; rintro e w' ⟨rfl, rfl⟩; simp only [hkp]) | (go_at_call 22; refine (rLetter_any _ _).mono ?_; rintro e w' ⟨rfl, rfl⟩; simp only [hl]))
          go_ret
          exact ⟨by rw [HN.out]; rfl, rfl⟩
        · have HN := fun ha => hide (shape_yes s h1 h13 hl ha)
          go_enter Tryz.func41, Tryz.ntmps41
          go_wp2_with (first | (go_at_call 67; refine (keptRef_any s a cap _ HK.out).mono ?_; rintro e w' ⟨rfl, rfl⟩; simp only [hkp]) | (go_at_call 22; refine (rLetter_any _ _).mono ?_; rintro e w' ⟨rfl, rfl⟩; simp only [hl]))
          clear hl
          go_loop [3] (fun i => ∃ k : Nat, k ≤ s.size ∧ i = .int .i64 k ∧ Hid (∀ (j : Nat) (h : j < s.size), j < k → lod (s[j]'h).toNat = true)) (fun i => s.size - (intOf i).toNat)
          case atStart => exact ⟨0, by omega, rfl, fun j h hj => by omega⟩
          case round =>
            obtain ⟨k, hk, rfl, HB⟩ := hrel
            by_cases hlt : k < s.size
            · cases hl : isLetter (s[k]'hlt).toNat
              · cases hd : isDigit (s[k]'hlt).toNat
                · have HF := hide (shape_not_lod s k hlt (by simp [lod, hl, hd]))
                  go_wp2_with (first | (go_at_call 22; refine (rLetter_any _ _).mono ?_; rintro e w' ⟨rfl, rfl⟩; simp only [hl]) | (go_at_call 23; refine (rDigit_any _ _).mono ?_; rintro e w' ⟨rfl, rfl⟩; simp only [hd]))
                  go_ret
                  exact ⟨by rw [HF.out]; rfl, rfl⟩
                · have HY : Hid (lod (s[k]'hlt).toNat = true) := by unfold lod; rw [hl, hd]; rfl
                  go_wp2_with (first | (go_at_call 22; refine (rLetter_any _ _).mono ?_; rintro e w' ⟨rfl, rfl⟩; simp only [hl]) | (go_at_call 23; refine (rDigit_any _ _).mono ?_; rintro e w' ⟨rfl, rfl⟩; simp only [hd]))
                  exact ⟨⟨k + 1, by omega, by go_num, fun j h hj => by
                    rcases Nat.lt_or_ge j k with h1 | h1
                    · exact HB.out j h h1
                    · obtain rfl : j = k := by omega
                      exact HY.out⟩, by simp [intOf]; omega⟩
              · have HY : Hid (lod (s[k]'hlt).toNat = true) := by unfold lod; rw [hl]; rfl
                go_wp2_with (first | (go_at_call 22; refine (rLetter_any _ _).mono ?_; rintro e w' ⟨rfl, rfl⟩; simp only [hl]))
                exact ⟨⟨k + 1, by omega, by go_num, fun j h hj => by
                  rcases Nat.lt_or_ge j k with h1 | h1
                  · exact HB.out j h h1
                  · obtain rfl : j = k := by omega
                    exact HY.out⟩, by simp [intOf]; omega⟩
            · have HY := HN (fun j h => HB.out j h (by omega))
              go_wp2
              go_ret
              exact ⟨by rw [HY.out, hkp]; rfl, rfl⟩
      · have HN : Hid (nameB s.data.toList = false) := by unfold nameB; rw [hkp]; simp [Hid]
        go_enter Tryz.func41, Tryz.ntmps41
        go_wp2_with (first | (go_at_call 67; refine (keptRef_any s a cap _ HK.out).mono ?_; rintro e w' ⟨rfl, rfl⟩; simp only [hkp]))
        go_ret
        exact ⟨by rw [HN.out]; rfl, rfl⟩
end Go.Proofs.YtbphiiaoncakfaaGreatDoor
