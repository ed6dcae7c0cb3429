/- Two trees in memory that are the same but for places: SameTree says so. -/
import Derived.Test.YtfjgelmllcnokaaGreatDoorG10
import Derived.Test.YtfjgelmllcnokaaGreatDoorG04
import Derived.Test.YtfjgelmllcnokaaGreatDoorG05
namespace Go.Proofs.YtfjgelmllcnokaaGreatDoor
open Go.RowKit
set_option maxHeartbeats 1000000
set_option maxRecDepth 100000
theorem SameL.at' {l m : List T} (h : SameL l m) : ∀ (j : Nat) (t : T),l[j]? = some t -> ∃ u,m[j]? = some u /\ Same t u := by
 induction l generalizing m with
 | nil => intro j t d; simp at d
 | cons a l ih =>
  cases h with
  | @cons _ b _ m h hl =>
   intro j t d; cases j with
   | zero => cases d; exact ⟨b,rfl,h⟩
   | succ j => simpa using ih hl j t (by simpa using d)
theorem ah (t v : T) (hs : Same t v) (ih : ∀ u,u ∈ t.subs -> ∀ (v : T),Same u v -> ∀ (w : World) (sv1 sv2 : Value),LR w (fun _ => True) u.subs sv1 -> LR w (fun _ => True) v.subs sv2 -> Calls Tryz.prog 9 #[yl u sv1,yl v sv2] w fun e w' => e = .returned (.bool true) /\ w.grownBy w' none)
    (w : World) (sv1 sv2 : Value) (h1 : LR w (fun _ => True) t.subs sv1) (h2 : LR w (fun _ => True) v.subs sv2) :
    Calls Tryz.prog 9 #[yl t sv1,yl v sv2] w fun e w' => e = .returned (.bool true) /\ w.grownBy w' none := by
  cases hs with
  | @mk k x m a b l l2 hL =>
  simp only [T.subs] at h1 h2 ih; obtain ⟨d,f,rfl⟩ := h1.form; obtain ⟨g,h,rfl⟩ := h2.form; have R := za h1; have L := za h2; have U := za ih; have V := za hL; have i := hL.len
  have B : l.length <= maxLen := by
    cases l with
    | nil => simp
    | cons u us =>
      obtain ⟨_,_,_,_,X,_⟩ := h1.node 0 u rfl
      exact X
  unfold maxLen at B
  clear h1 h2 ih hL
  show Calls Tryz.prog 9 #[.agg #[.int .i64 k,.string ⟨x.toArray⟩,.int .i64 m,.int .i64 a,.slice d l.length f],.agg #[.int .i64 k,.string ⟨x.toArray⟩,.int .i64 m,.int .i64 b,.slice g l2.length h]] w _
  rw [<- i] at L ⊢; clear i
  go_enter Tryz.func9,Tryz.ntmps9
  go_wp2
  go_loopw [5] (fun iv wr => ∃ j : Nat,j <= l.length /\ iv = .int .i64 j /\ NB wr w.heap.size (.int .i64 k) (.string ⟨x.toArray⟩) (.int .i64 m) (.int .i64 a) (.slice d l.length f) /\ NB wr (w.heap.size + 1) (.int .i64 k) (.string ⟨x.toArray⟩) (.int .i64 m) (.int .i64 b) (.slice g l.length h) /\ Hid (w.grownBy wr none)) (fun iv _ => l.length - (intOf iv).toNat)
  case atStart => exact ⟨0,Nat.zero_le _,rfl,(NB.alloc (NB.new' (by simp)) _),(NB.new' (by simp)),zf gan _⟩
  case round =>
    obtain ⟨j,_,rfl,C,D,z⟩ := hrel; have Y := C.lt; have Z := D.lt; have NA := za C; have E := za D; obtain ⟨_,_,_,_,_,_⟩ := id C; obtain ⟨_,_,_,_,_,_⟩ := id D
    by_cases F : j < l.length
    · obtain ⟨u,A⟩ : ∃ u,l[j]? = some u := ⟨_,List.getElem?_eq_getElem F⟩
      have n : u ∈ l := List.mem_of_getElem? A; obtain ⟨v,M,o⟩ := V.out.at' j u A; have r := R.out.kept z.out (fun _ hk => by cases hk); have s := L.out.kept z.out (fun _ hk => by cases hk); obtain ⟨_,_,sv1,e1,_,N,_,_,_,_,_⟩ := r.node j u A; obtain ⟨_,_,sv2,e2,_,O,_,_,_,_,_⟩ := s.node j v M; cases e1
      injection e2 with e3 e4 e5
      subst e3 e5; clear e4
      have y := fun w9 s1 s2 hl1 hl2 => U.out u n v o w9 s1 s2 hl1 hl2
      clear r s A M o; have H := za N; have I := za O; have HI := za y; clear N O y; go_wp2_with fail
      go_region_with (go_at_call 9
                      refine (HI.out _ sv1 sv2 (H.out.kept (zy grn _) (fun _ hk => by cases hk)) (I.out.kept (zy grn _) (fun _ hk => by cases hk))).mono ?_
                      rintro e w9 ⟨rfl,J⟩)
      all_goals
        go_wp2; have K : wr.grownBy w9 none := zb (zy grn _) J
        exact ⟨⟨j + 1,by omega,by go_num,NA.out.kept K (by simp),E.out.kept K (by simp),zb z.out K⟩,by simp [intOf]; omega⟩
    · go_wp2
      go_ret
      exact ⟨rfl,z.out⟩
theorem nI (t v : T) (hs : Same t v) (w : World) (sv1 sv2 : Value) (h1 : LR w (fun _ => True) t.subs sv1) (h2 : LR w (fun _ => True) v.subs sv2) :
  Calls Tryz.prog 9 #[yl t sv1,yl v sv2] w fun e w' => e = .returned (.bool true) /\ w.grownBy w' none :=
 ah t v hs (fun u _hu v hs w sv1 sv2 h1 h2 => nI u v hs w sv1 sv2 h1 h2) w sv1 sv2 h1 h2
 termination_by SizeOf.sizeOf t
 decreasing_by
  obtain ⟨_,_,_,_,l⟩ := t; have h9 := List.sizeOf_lt_of_mem (show u ∈ l from _hu); simp only [T.mk.sizeOf_spec]
  omega
end Go.Proofs.YtfjgelmllcnokaaGreatDoor
