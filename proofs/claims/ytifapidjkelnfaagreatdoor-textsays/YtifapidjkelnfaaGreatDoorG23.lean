/- The document's texts: choices. -/
import Derived.Test.YtifapidjkelnfaaGreatDoorG22
import Derived.Test.YtifapidjkelnfaaGreatDoorG02
namespace Go.Proofs.YtifapidjkelnfaaGreatDoor
open Go.RowKit
set_option maxHeartbeats 4000000
set_option maxRecDepth 1000000
inductive Ch (w : World) (P : Bs) (ex ac : T -> Bs) : List T -> Prop
 | nil : Ch w P ex ac []
 | one (x : T) (h : STx w x (P ++ [32,32]) (ac x)) : Ch w P ex ac [x]
 | more (x y : T) (l : List T) (hx : ETx w x (ex x)) (hy : STx w y (P ++ [32,32]) (ac y)) (h : Ch w P ex ac l) : Ch w P ex ac (x :: y :: l)
def uU (P : Bs) (ex ac : T -> Bs) : Bool -> List T -> Bs
 | b,x :: y :: l => P ++ ((if b then [73,70,32] else [69,76,83,73,70,32]) ++ (ex x ++ ([32,84,72,69,78,10] ++ (ac y ++ uU P ex ac false l))))
 | _,_ => []
theorem iO (P : Bs) (ex ac : T -> Bs) (b : Bool) : uU P ex ac b [] = [] := by cases b <;> rfl
theorem cA (P : Bs) (ex ac : T -> Bs) (b : Bool) (x : T) : uU P ex ac b [x] = [] := by cases b <;> rfl
def kW (P : Bs) (ac : T -> Bs) : List T -> Bs
 | [] => []
 | [x] => P ++ ([69,76,83,69,10] ++ ac x)
 | _ :: _ :: l => kW P ac l
theorem rB (L : Nat) (ex ac : T -> Bs) : ∀ (l : List T),uU (zD L) ex ac false l ++ kW (zD L) ac l = yn ex ac L l
 | [] => rfl
 | [x] => rfl
 | x :: y :: l => by
  have ih := rB L ex ac l
  show (zD L ++ ([69,76,83,73,70,32] ++ (ex x ++ ([32,84,72,69,78,10] ++ (ac y ++ uU (zD L) ex ac false l))))) ++ kW (zD L) ac l = _
  rw [yn,<- ih]; simp only [List.append_assoc]
theorem rh (P : Bs) (ac : T -> Bs) : ∀ (k : Nat) (l : List T),2 * k <= l.length -> kW P ac (l.drop (2 * k)) = kW P ac l
 | 0,l,_ => rfl
 | k + 1,l,h => by
  match l,h with
  | x :: y :: l,h =>
   have := rh P ac k l (by simp at h; omega); rw [show 2 * (k + 1) = 2 * k + 1 + 1 by omega,List.drop_succ_cons,List.drop_succ_cons,this]
   rfl
  | [x],h => simp at h; omega
  | [],h => simp at h
theorem aZ (m p : Int) (u v : T) (us : List T) (P : Bs) (sv : Value) (w : World) (ha : AT w (T.mk 16 [] m p (u :: v :: us)).subs sv) (lP : P.length <= 1000) (ex ac : T -> Bs) (hm : m = (us.length : Int) % 2) (hc : Ch w P ex ac (u :: v :: us)) (hlen : (uU P ex ac true (u :: v :: us)).length <= 4000000) :
  Calls Tryz.prog 71 #[.agg #[.int .i64 16,.string ⟨List.toArray []⟩,.int .i64 m,.int .i64 p,sv],.string ⟨P.toArray⟩] w (Sy w (.string ⟨(uU P ex ac true (u :: v :: us) ++ (kW P ac (u :: v :: us) ++ (P ++ [69,78,68]))).toArray⟩)) := by
 have HA := zb ha; have HC := zb hc; obtain ⟨a,c,rfl,hn,A⟩ := ha.form
 have a8 : c <= 9223372036854775807 := by unfold maxLen at A; omega
 clear A; obtain ⟨g,o,a9,e0,J,-,-⟩ := ha.node 0 u rfl; subst e0; have b1 : g < w.heap.size := zc J.c0; have B0 : Hid (Box (w.alloc (.cells #[.int .i64 16,.string ⟨List.toArray []⟩,.int .i64 m,.int .i64 p,.slice (some ⟨g,o,none⟩) (us.length + 1 + 1) c] 24)) w.heap.size (.mk 16 [] m p (u :: v :: us)) (.slice (some ⟨g,o,none⟩) (us.length + 1 + 1) c)) := Box.new w (.mk 16 [] m p (u :: v :: us)) (.slice (some ⟨g,o,none⟩) (us.length + 1 + 1) c) 24
 have b2 : us.length + 1 + 1 <= c := hn; have HM := zb hm; clear hm; clear ha hc J hn
 change Calls Tryz.prog 71 #[.agg #[.int .i64 16,.string ⟨List.toArray []⟩,.int .i64 m,.int .i64 p,.slice (some ⟨g,o,none⟩) (us.length + 1 + 1) c],.string ⟨P.toArray⟩] w _
 go_enter Tryz.func71,Tryz.ntmps71
 go_wp2_with fail
 go_loopw [7,8] (fun sv iv wr => ∃ (i : Nat) (Y : Bs) (l : List T),i <= us.length + 2 /\ i % 2 = 0 /\ iv = .int .i64 ↑i /\ sv = .string ⟨Y.toArray⟩ /\ Hid (l = (u :: v :: us).drop i) /\ Hid (Y ++ uU P ex ac (i == 0) l = uU P ex ac true (u :: v :: us)) /\ Hid (Ch w P ex ac l) /\ Hid (w.grownBy wr none) /\ Hid (Box wr w.heap.size (.mk 16 [] m p (u :: v :: us)) (.slice (some ⟨g,o,none⟩) (us.length + 1 + 1) c))) (fun _ iv _ => us.length + 2 - (intOf iv).toNat)
 case atStart => exact ⟨0,[],u :: v :: us,by omega,rfl,rfl,rfl,rfl,by show _ = _; rfl,HC,zf grn _,B0⟩
 case round =>
  obtain ⟨i,Y,l,_,K,rfl,rfl,k,B,s,n,L⟩ := hrel; obtain ⟨b0,_,_,_,_⟩ := L.p
  have bl := zc b0
  have d : l.length = us.length + 2 - i := by rw [k.out]; simp
  have hY : Y.length <= 4000000 := by
   have := congrArg List.length B; rw [List.length_append] at this
   omega
  rcases Nat.lt_or_ge (i + 1) (us.length + 2) with a2 | a2
  ·match l,d,k,B,s with
   | [],d,_,_,_ => simp at d; omega
   | [_],d,_,_,_ => simp at d; omega
   | y :: z :: l,d,k,B,s =>
    obtain ⟨hy,C,hl⟩ : ETx w y (ex y) /\ STx w z (P ++ [32,32]) (ac z) /\ Ch w P ex ac l := by cases id s with | more _ _ _ a b c => exact ⟨a,b,c⟩
    have M := zb hl
    have ty : (u :: v :: us)[i]? = some y := by
     have := congrArg (fun q => q[0]?) k
     simpa [List.getElem?_drop] using this.symm
    have N : (u :: v :: us)[i + 1]? = some z := by
     have := congrArg (fun q => q[1]?) k
     simpa [List.getElem?_drop] using this.symm
    have O : Hid (l = (u :: v :: us).drop (i + 2)) := by
     show _ = _
     have := congrArg (fun q => q.drop 2) k
     simpa [List.drop_drop] using this
    obtain ⟨g1,o1,sy,Q,ny,-,ay⟩ := HA.node i y ty; cases Q; obtain ⟨g1,o1,sz,Q,R,-,U⟩ := HA.node (i + 1) z N; cases Q; have D := ny.kept n; have I := R.kept n; have AY := zb ay; have AZ := zb U; have lY := hy.1; have lZ := C.1; have V := zb hy.2; have t := zb (kX C); have b3 := zc D.c0
    have b4 : (i : Int) + 1 < (us.length : Int) + 1 + 1 := by omega
    have b5 : (i : Int) < (us.length : Int) + 1 + 1 := by omega
    have b6 : IntKind.i64.wrap ((i : Int) + 1) = (i : Int) + 1 := by rw [IntKind.wrap_i64]; omega
    have b7 : ¬ ((i : Int) + 1 < 0) := by omega
    clear ty N hy C hl ny R ay U s k
    rcases Nat.eq_zero_or_pos i with x | b8
    ·have X : ((i : Int) == 0) = true := by rw [x]; rfl
     have E : Hid (uU P ex ac (i == 0) (y :: z :: l) = P ++ ([73,70,32] ++ (ex y ++ ([32,84,72,69,78,10] ++ (ac z ++ uU P ex ac false l))))) := by
      show _ = _
      rw [x]; rfl
     have b9 := zb x; clear x
     have a3 := zb K
     go_wp2_with fail; refine wp_region_held_drew (S := (fun w' => w'.cell? ⟨w.heap.size,4,none⟩ = some (.slice (some ⟨g,o,none⟩) (us.length + 1 + 1) c) /\ Node5 w' g (o + i * 5) y sy /\ Node5 w' g (o + (i + 1) * 5) z sz)) (by kernel_rfl) ?_ (fun hHeld => ?_)
     ·exact ⟨zg (ze grn) L.c4,D.kept (ze grn),I.kept (ze grn)⟩
     refine tQ 0 ?_; refine tQ 1 ?_; refine tQ 2 ?_; refine tQ 3 ?_; refine tQ 4 ?_; refine tQ 5 ?_; refine tQ 9 ?_; refine tQ 10 ?_; refine tQ 11 ?_; refine tQ 12 ?_; refine tQ 13 ?_; refine tQ 14 ?_; refine tQ 15 ?_; refine rd 6 rfl fun KK hKK => ?_
     go_simp
     go_at_call 68; refine (V _ _ (ze n) (AY.kept (ze n))).mono ?_; rintro e w1 ⟨rfl,f⟩; have F := za (ze n) f; have Z := L.kept (za (ze grn) f); have G := za (ze grn) f; clear f
     go_simp
     refine hKK _ _ ⟨Z.c4,D.kept G,I.kept G⟩ fun hHeld => ?_
     clear hKK KK; refine tQ 7 ?_; refine tQ 8 ?_; refine rd 16 rfl fun KK hKK => ?_
     go_simp
     go_at_call 42; refine (t _ _ F (AZ.kept F)).mono ?_; rintro e w2 ⟨rfl,j⟩; have G2 := za F j; have B2 := Z.kept (za grn j); have R2 := za G j; clear j
     go_simp
     refine hKK _ _ ⟨B2.c4,D.kept R2,I.kept R2⟩ fun hHeld => ?_
     clear hKK KK; refine tQ 17 ?_; refine tQ 18 ?_; refine wpAnyH_done (by kernel_rfl) ?_ _; clear hHeld; go_wp2_with fail; refine ⟨⟨i + 2,Y ++ P ++ [73,70,32] ++ ex y ++ [32,84,72,69,78,10] ++ ac z,l,by omega,by omega,by go_num,zY (by repeat rw [zC]),O,?_,M,G2,B2⟩,by simp [intOf]; omega⟩
     show _ = _
     rw [show (i + 2 == 0) = false by rw [beq_eq_false_iff_ne]; omega,<- B.out,E.out]; simp only [List.append_assoc]
    ·have X : ((i : Int) == 0) = false := bn (by omega)
     have E : Hid (uU P ex ac (i == 0) (y :: z :: l) = P ++ ([69,76,83,73,70,32] ++ (ex y ++ ([32,84,72,69,78,10] ++ (ac z ++ uU P ex ac false l))))) := by
      show _ = _
      rw [show (i == 0) = false by rw [beq_eq_false_iff_ne]; omega]; rfl
     have a3 := zb K
     go_wp2_with fail; refine wp_region_held_drew (S := (fun w' => w'.cell? ⟨w.heap.size,4,none⟩ = some (.slice (some ⟨g,o,none⟩) (us.length + 1 + 1) c) /\ Node5 w' g (o + i * 5) y sy /\ Node5 w' g (o + (i + 1) * 5) z sz)) (by kernel_rfl) ?_ (fun hHeld => ?_)
     ·exact ⟨zg (ze grn) L.c4,D.kept (ze grn),I.kept (ze grn)⟩
     refine tQ 0 ?_; refine tQ 1 ?_; refine tQ 2 ?_; refine tQ 3 ?_; refine tQ 4 ?_; refine tQ 5 ?_; refine tQ 9 ?_; refine tQ 10 ?_; refine tQ 11 ?_; refine tQ 12 ?_; refine tQ 13 ?_; refine tQ 14 ?_; refine tQ 15 ?_; refine rd 6 rfl fun KK hKK => ?_
     go_simp
     go_at_call 68; refine (V _ _ (ze n) (AY.kept (ze n))).mono ?_; rintro e w1 ⟨rfl,f⟩; have F := za (ze n) f; have Z := L.kept (za (ze grn) f); have G := za (ze grn) f; clear f
     go_simp
     refine hKK _ _ ⟨Z.c4,D.kept G,I.kept G⟩ fun hHeld => ?_
     clear hKK KK; refine tQ 7 ?_; refine tQ 8 ?_; refine rd 16 rfl fun KK hKK => ?_
     go_simp
     go_at_call 42; refine (t _ _ F (AZ.kept F)).mono ?_; rintro e w2 ⟨rfl,j⟩; have G2 := za F j; have B2 := Z.kept (za grn j); have R2 := za G j; clear j
     go_simp
     refine hKK _ _ ⟨B2.c4,D.kept R2,I.kept R2⟩ fun hHeld => ?_
     clear hKK KK; refine tQ 17 ?_; refine tQ 18 ?_; refine wpAnyH_done (by kernel_rfl) ?_ _; clear hHeld; go_wp2_with fail; refine ⟨⟨i + 2,Y ++ P ++ [69,76,83,73,70,32] ++ ex y ++ [32,84,72,69,78,10] ++ ac z,l,by omega,by omega,by go_num,zY (by repeat rw [zC]),O,?_,M,G2,B2⟩,by simp [intOf]; omega⟩
     show _ = _
     rw [show (i + 2 == 0) = false by rw [beq_eq_false_iff_ne]; omega,<- B.out,E.out]; simp only [List.append_assoc]
  ·have c1 : ¬ ((i : Int) + 1 < (us.length : Int) + 1 + 1) := by omega
   have r : Hid (kW P ac (u :: v :: us) = kW P ac l) := by
    show _ = _
    rw [k.out]; have := rh P ac (i / 2) (u :: v :: us) (by simp; omega); rw [show 2 * (i / 2) = i by omega] at this
    exact this.symm
   have a0 : Hid (Y = uU P ex ac true (u :: v :: us)) := by
    have := B
    match l,d with
    | [],_ => rw [iO,List.append_nil] at this; exact this
    | [_],_ => rw [cA,List.append_nil] at this; exact this
    | _ :: _ :: _,d => simp at d; omega
   match l,d,k,s,r with
   | _ :: _ :: _,d,_,_,_ => simp at d; omega
   | [],d,k,s,r =>
    have a7 : (m == 1) = false := by
     rw [HM.out,beq_eq_false_iff_ne]
     simp at d
     omega
    clear B; go_wp2_with fail
    go_ret
    refine ⟨zU ?_,n⟩; rw [show (⟨#[69,78,68]⟩ : ByteArray) = ⟨List.toArray [69,78,68]⟩ from rfl,zC,zC,a0.out,r.out]; simp only [List.append_assoc,kW,List.nil_append]
   | [z],d,k,s,r =>
    have C : STx w z (P ++ [32,32]) (ac z) := by cases id s with | one _ h => exact h
    have H : i = us.length + 1 := by simp at d; omega
    have a7 : (m == 1) = true := by
     rw [HM.out,beq_iff_eq]
     omega
    have N : (u :: v :: us)[us.length + 1]? = some z := by
     have := congrArg (fun q => q[0]?) k; rw [H] at this
     simpa [List.getElem?_drop] using this.symm
    obtain ⟨g1,o1,sz,Q,R,-,U⟩ := HA.node (us.length + 1) z N; cases Q; obtain ⟨_,_,_,_,_⟩ := R.kept n; have AZ := zb U; have lZ := C.1; have t := zb (kX C)
    have c2 := zb H; clear B C N U R H k s; go_wp2_with fail; go_at_call 42; refine (t _ _ n (AZ.kept n)).mono ?_; rintro e w9 ⟨rfl,a1⟩; have G9 := za n a1; clear a1; go_wp2_with fail
    go_ret
    refine ⟨zU ?_,G9⟩; rw [show (⟨#[69,78,68]⟩ : ByteArray) = ⟨List.toArray [69,78,68]⟩ from rfl,show (⟨#[69,76,83,69,10]⟩ : ByteArray) = ⟨List.toArray [69,76,83,69,10]⟩ from rfl]
    repeat rw [zC]
    rw [a0.out,r.out]; simp only [List.append_assoc,kW]
end Go.Proofs.YtifapidjkelnfaaGreatDoor
