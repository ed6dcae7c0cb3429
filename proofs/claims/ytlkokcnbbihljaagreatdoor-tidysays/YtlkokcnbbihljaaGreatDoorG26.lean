/- What a rule puts down are the nodes right below, all of them: so nodes are counted. -/
import Derived.Test.YtlkokcnbbihljaaGreatDoorG03
namespace Go.Proofs.YtlkokcnbbihljaaGreatDoor

theorem zip_fst : ∀ (ts : List T) (rs : List Rule), ts.length = rs.length → (zipR ts rs).map (·.1) = ts
  | [], [], _ => rfl
  | [], _ :: _, h => by simp at h
  | _ :: _, [], h => by simp at h
  | t :: ts, r :: rs, h => by simp only [zipR, List.map_cons, zip_fst ts rs (by simpa using h)]
theorem each_fst (ts : List T) (r : Rule) : (eachR ts r).map (·.1) = ts := by unfold eachR; rw [List.map_map]; exact List.map_id _
theorem turn_fst : ∀ ts : List T, (turnR ts).map (·.1) = ts
  | [] => rfl
  | [_] => rfl
  | _ :: _ :: ts => by simp only [turnR, List.map_cons, turn_fst ts]
theorem first_fst {t : T} {r q : Rule} : (firstR t r q).map (·.1) = t.subs := by
  unfold firstR
  cases h : t.subs with
  | nil => rfl
  | cons u ts => simp only [List.map_cons, each_fst]
theorem only_some {c : Bool} {l m : List (T × Rule)} (h : onlyIf c l = some m) : c = true ∧ m = l := by
  unfold onlyIf at h
  split at h
  · rename_i hc; cases h; exact ⟨hc, rfl⟩
  · cases h
theorem head_len' {t : T} {k most : Int} {named : Bool} {n : Nat} (h : headB t k named most n = true) : t.subs.length = n := by
  unfold headB at h
  simp at h
  omega
theorem zip_case {t : T} {k most : Int} {named : Bool} {n : Nat} {rs : List Rule} {m : List (T × Rule)} (hn : n = rs.length) (h : onlyIf (headB t k named most n) (zipR t.subs rs) = some m) : m.map (·.1) = t.subs := by
  obtain ⟨hc, rfl⟩ := only_some h
  exact zip_fst _ _ ((head_len' hc).trans hn)
theorem nil_case {t : T} {k most : Int} {named : Bool} {m : List (T × Rule)} (h : onlyIf (headB t k named most 0) [] = some m) : m.map (·.1) = t.subs := by
  obtain ⟨hc, rfl⟩ := only_some h
  have := head_len' (n := 0) hc
  rw [List.eq_nil_of_length_eq_zero this]
  rfl
theorem desig_fst {t : T} {m : List (T × Rule)} (h : designatorR t = some m) : m.map (·.1) = t.subs := by
  unfold designatorR at h
  repeat' split at h
  · exact nil_case h
  · exact zip_case (n := 1) rfl h
  · exact zip_case (n := 2) rfl h
  · exact zip_case (n := 1) rfl h
  · exact zip_case (n := 2) rfl h
  · cases h
theorem expr_fst {t : T} {m : List (T × Rule)} (h : expressionR t = some m) : m.map (·.1) = t.subs := by
  unfold expressionR at h
  repeat' split at h
  · exact nil_case h
  · exact nil_case h
  · obtain ⟨_, rfl⟩ := only_some h; exact first_fst
  · exact zip_case (n := 1) rfl h
  · exact zip_case (n := 2) rfl h
  · obtain ⟨hc, rfl⟩ := only_some h
    simp at hc
    exact zip_fst _ _ hc.2
  · exact desig_fst h
theorem act_fst {t : T} {m : List (T × Rule)} (h : actR t = some m) : m.map (·.1) = t.subs := by
  unfold actR at h
  repeat' split at h
  · obtain ⟨_, rfl⟩ := only_some h; exact turn_fst _
  · exact zip_case (n := 2) rfl h
  · obtain ⟨_, rfl⟩ := only_some h; exact first_fst
  · exact zip_case (n := 2) rfl h
  · exact zip_case (n := 2) rfl h
  · obtain ⟨_, rfl⟩ := only_some h; exact each_fst _ _
  · exact zip_case (n := 1) rfl h
  · exact zip_case (n := 1) rfl h
  · cases h
theorem typeName_fst {t : T} {m : List (T × Rule)} (h : typeNameR t = some m) : m.map (·.1) = t.subs := by
  obtain ⟨_, rfl⟩ := only_some h; exact each_fst _ _
theorem step_fst {r : Rule} {t : T} {m : List (T × Rule)} (h : stepR r t = some m) : m.map (·.1) = t.subs := by
  cases r with
  | module => exact zip_case (n := 6) rfl h
  | imported => exact nil_case h
  | procedure => exact zip_case (n := 4) rfl h
  | typeItself =>
    simp only [stepR] at h
    repeat' split at h
    · exact zip_case (n := 1) rfl h
    · exact zip_case (n := 1) rfl h
    · obtain ⟨_, rfl⟩ := only_some h; exact first_fst
    · cases h
  | typeName => exact typeName_fst h
  | typeNameOrNone =>
    simp only [stepR] at h
    split at h
    · exact nil_case h
    · exact typeName_fst h
  | ref => exact nil_case h
  | act => exact act_fst h
  | expression => exact expr_fst h
  | designator => exact desig_fst h
  | list r => obtain ⟨_, rfl⟩ := only_some h; exact each_fst _ _
  | declared k m' r => exact zip_case (n := 1) rfl h
theorem countP_append (l m : List (T × Rule)) : countP (l ++ m) = countP l + countP m := by unfold countP; rw [List.map_append, countL_append]
theorem countT_eq (t : T) : countT t = 1 + countL t.subs := by obtain ⟨k, x, n, a, l⟩ := t; rw [countT]; rfl
theorem step_count {r : Rule} {t : T} {l m : List (T × Rule)} (h : stepR r t = some m) : countP (l ++ [(t, r)]) = countP (l ++ m) + 1 := by
  rw [countP_append, countP_append]
  have h1 : countP [(t, r)] = countT t := by unfold countP; simp [countL]
  have h2 : countP m = countL t.subs := by unfold countP; rw [step_fst h]
  rw [h1, h2, countT_eq]
  omega
theorem len_count : ∀ l : List T, l.length ≤ countL l
  | [] => by simp
  | t :: l => by have := len_count l; rw [countL, countT_eq]; simp; omega
theorem len_countP (l : List (T × Rule)) : l.length ≤ countP l := by have := len_count (l.map (·.1)); unfold countP; simpa using this
theorem sub_count (t : T) : t.subs.length + 1 ≤ countT t := by have := len_count t.subs; rw [countT_eq]; omega
end Go.Proofs.YtlkokcnbbihljaaGreatDoor
