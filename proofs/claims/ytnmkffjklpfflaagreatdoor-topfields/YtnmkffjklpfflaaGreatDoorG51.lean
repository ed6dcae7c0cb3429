/- The modules of two texts,of which the first is right. -/
import Derived.Test.YtnmkffjklpfflaaGreatDoorG49
import Derived.Test.YtnmkffjklpfflaaGreatDoorG50
import Derived.Test.YtnmkffjklpfflaaGreatDoorG23
namespace Go.Proofs.YtnmkffjklpfflaaGreatDoor
open Go.RowKit
set_option maxHeartbeats 4000000
set_option maxRecDepth 100000
section
variable {w w' : World}
theorem nO (h : Below w.heap.size w w') : w.grownBy w' none := qU h none
theorem cS {x : TypeId} {y : Value} (hv : ErrV w (.iface x y)) (he : HasErr w) (n : Int) :
  Calls Tryz.prog 27 #[.int .i64 n,.iface x y] w (fun e w' => w.grownBy w' none /\ ∃ q,e = .returned (.iface 103 q)) := by
 have f : Hid (Calls Tryz.prog 41 #[.iface x y] w fun e w' => w.grownBy w' none /\ ∃ a b c,e = .returned (.tuple #[.int .i64 a,.int .i64 b,.int .i64 c])) := by
  rcases hv with h | ⟨q,k,m,h,g,i,j⟩
  ·cases h
   exact (na 3 w he).mono (fun e w' h9 => ⟨nO h9.2,_,_,_,h9.1⟩)
  ·cases h
   exact (ot q m 0 k w he g i j).mono (fun e w' h9 => ⟨nO h9.2,_,_,_,h9.1⟩)
 clear hv he
 go_enter Tryz.func27,Tryz.ntmps27
 go_wp2_with fail; go_at_call 41; refine f.out.mono ?_; rintro e l ⟨d,a,b,c,rfl⟩; have G := zc d; clear d; go_wp2
 go_ret
 exact ⟨za G.out gan,_,rfl⟩
def Mods2 (S1 : KS) (t : List UInt8) (w : World) (e : Ending) (w' : World) : Prop := w.grownBy w' none /\ ((S1.addE t = none /\ ∃ q,e = .returned (.tuple #[.slice none 0 0,.iface 103 q])) \/
 ∃ S2 ρ g2 c2,S1.addE t = some S2 /\ e = .returned (.tuple #[.slice (some ⟨g2,0,none⟩) 2 c2,.nilIface]) /\ (2 <= c2 /\ c2 <= maxLen) /\ w'.cell? ⟨g2,0,none⟩ = some (pq (ρ.md 0)) /\ w'.cell? ⟨g2,1,none⟩ = some (pq (ρ.md 1)) /\ KM ρ w' S2 /\ S2.okB = true)
structure Two2 (s1 s2 : ByteArray) (S1 : KS) (w : World) (g o c : Nat) : Prop where
 n1 : s1.size <= maxLen
 n2 : s2.size <= maxLen
 t1 : s1.data.toList.length <= 4000 -> ∀ l n j,xS s1.data.toList = .ok l -> xE (xG s1.data.toList.length l) 0 = .ok (n,j) -> TextOK ks0 n
 e1 : ks0.addE s1.data.toList = some S1
 m1 : S1.mds.length = 1
 t2 : s2.data.toList.length <= 4000 -> ∀ l n j,xS s2.data.toList = .ok l -> xE (xG s2.data.toList.length l) 0 = .ok (n,j) -> TextOK S1 n
 c1 : w.cell? ⟨g,o,none⟩ = some (.string s1)
 c2 : w.cell? ⟨g,o + 1,none⟩ = some (.string s2)
 h1 : 2 <= c
 h2 : c <= maxLen
 tab : Lib.TabIs Tryz.prog w "strings.asciiSpace" .u8 Lib.asciiSpaceTab
 err : HasErr w
theorem Two2.up {s1 s2 : ByteArray} {S1 : KS} {g o c : Nat} (h : Two2 s1 s2 S1 w g o c) (hg : w.grownBy w' none) : Two2 s1 s2 S1 w' g o c :=
 ⟨h.n1,h.n2,h.t1,h.e1,h.m1,h.t2,ze hg h.c1,ze hg h.c2,h.h1,h.h2,uH h.tab ⟨hg.os,hg.tape,hg.output,hg.size,fun i hi => hg.block i hi (by simp)⟩,h.err.grown hg (fun k e => by cases e)⟩
theorem tw {s1 s2 : ByteArray} {S1 : KS} {g o c : Nat} (h : Two2 s1 s2 S1 w g o c) : Calls Tryz.prog 16 #[.slice (some ⟨g,o,none⟩) 2 c] w (Mods2 S1 s2.data.toList w) := by
 have H := zc h; have a3 : g < w.heap.size := zw h.c1; have a4 := h.h1; have M := h.h2
 unfold maxLen at M
 clear h
 go_enter Tryz.func16,Tryz.ntmps16
 go_wp2_with fail; go_at_call 25; refine (dt).mono ?_; rintro e K ⟨ρ,rfl,km,t,C⟩; have N := zc km; have D := zc t; have L := zc C; clear km t C
 have E : ∀ (ρ2 : Lay) (S : KS) (k : World),Stp False ρ K ks0 ρ2 k S -> w.grownBy k none := fun ρ2 S k st => ((Sm.of_none L.out (fun _ => True)).comp st.sm (fun g hg _ => .inl (D.out g hg))).gb
 have z := zc E; clear E; go_wp2_with fail
 go_loopw [17,5] (fun iv hw5 wr => (iv = .int .i64 0 /\ hw5 = .slice none 0 0 /\ wr = K) \/ (∃ (ρr : Lay) (m : Value),iv = .int .i64 1 /\ hw5 = m /\ Hid (wr.ownsRow 0 51 1 m 1 [pq (ρr.md 0)]) /\ Hid (∀ g,m.ownBlock = some g -> ρr.col g = none /\ w.heap.size <= g) /\ Hid (Stp False ρ K ks0 ρr wr S1)) \/
  (∃ (ρr : Lay) (u : KS) (m : Value),iv = .int .i64 2 /\ hw5 = m /\ Hid (wr.ownsRow 0 51 1 m 2 [pq (ρr.md 0),pq (ρr.md 1)]) /\ Hid (S1.addE s2.data.toList = some u) /\ Hid (w.grownBy wr none /\ KM ρr wr u /\ u.okB = true))) (fun iv _ _ => 2 - (intOf iv).toNat)
 case atStart => exact .inl ⟨rfl,rfl,rfl⟩
 case round =>
  rcases hrel with ⟨rfl,rfl,rfl⟩ | ⟨ρr,m,rfl,A,s,O,B⟩ | ⟨ρr,u,m,rfl,A,s,Q,HK⟩
  ·have d0 := (H.out.up L.out).c1
   have l := zc (ao N.out aW s1 H.out.n1 H.out.t1 (H.out.up L.out).tab); go_wp2_with fail; go_at_call 26; refine l.out.mono ?_; rintro e k (⟨b,-⟩ | ⟨S',b,ρ2,rfl,d⟩)
   ·rw [H.out.e1] at b; cases b
   rw [H.out.e1] at b; cases b; have f := zc d; have n : Hid (k.ownsRow 0 51 1 (.slice none 0 0) 0 []) := World.ownsRow_nil _ _ _ _; rw [show ks0.mds.length = 0 from rfl]; clear d d0; have R : Hid ((k.alloc (.cells #[pq (ρ2.md 0)] 51)).cell? ⟨k.heap.size,0,none⟩ = some (pq (ρ2.md 0))) := Bk.c (vs := [pq (ρ2.md 0)]) (Bk.new k _ _ rfl) 0 _ rfl; have U := zc (zR n.out (Sm.of_none (zh grn (.cells #[pq (ρ2.md 0)] 51)) (fun _ => True)) (fun _ _ => trivial))
   go_wp2_with (at_builtin; refine sx 44 51 Tryz.underlying44 Tryz.infoModuleP rfl _ _ rfl rfl rfl U.out R.out (by omega) ?_; intro V w4 i r j)
   have X := zc i; have Y := zc r; have A4 := zc j; clear i r j
   go_roundw
   case rel =>
    have a5 := (z.out _ _ _ f.out).size; refine .inr (.inl ⟨ρ2,V,rfl,rfl,X.out,fun g hg => ?_,f.out.behind (za gan Y.out)⟩)
    rcases A4.out with b | b
    ·rw [b] at hg; cases hg
    ·rw [b] at hg
     cases hg
     exact ⟨f.out.km.fr _ (by simp),by simp; omega⟩
   case measure => simp [intOf]
  ·replace A := A.symm
   subst A; have Z := zc (z.out _ _ _ B.out); have d1 := (H.out.up Z.out).c2; have v : ρr.wd = ρ.wd := B.out.agr.wd; have l := zc (ao B.out.km B.out.ok s2 H.out.n2 H.out.t2 (H.out.up Z.out).tab); rw [v] at l; clear v; go_wp2_with fail; go_at_call 26; refine l.out.mono ?_; rintro e k (⟨b,x,y,rfl,F,G⟩ | ⟨u,b,ρ2,rfl,d⟩)
   ·have GA : Hid (w.grownBy k none) := ((Sm.of_none Z.out (fun _ => True)).comp G (fun g hg _ => .inl (by rw [B.out.col g (Nat.lt_of_lt_of_le hg L.out.size)]; exact D.out g hg))).gb
    have a0 := zc (cS F (H.out.up GA.out).err 1); clear F G d1; go_wp2_with fail; go_at_call 27; refine a0.out.mono ?_; rintro e w3 ⟨I,q,rfl⟩; have G3 := zc (za GA.out I); clear I; go_wp2
    go_ret2
    exact ⟨G3.out,.inl ⟨b,q,rfl⟩⟩
   have Q := zc b; have f : Hid (Stp False ρ K ks0 ρ2 k u) := B.out.trans d; have e0 : ρ2.md 0 = ρr.md 0 := d.agr.md 0 (by rw [H.out.m1]; exact Nat.zero_lt_one)
   have n : Hid (k.ownsRow 0 51 1 m 1 [pq (ρ2.md 0)]) := by rw [e0]; exact zR s.out d.sm (fun g hg => .inl (O.out g hg).1)
   have a1 : Hid (∀ g,m.ownBlock = some g -> ρ2.col g = none) := fun g hg => (d.col g (qn s.out hg)).trans (O.out g hg).1
   rw [H.out.m1]; clear d d1 b e0; have R : Hid ((k.alloc (.cells #[pq (ρ2.md 1)] 51)).cell? ⟨k.heap.size,0,none⟩ = some (pq (ρ2.md 1))) := Bk.c (vs := [pq (ρ2.md 1)]) (Bk.new k _ _ rfl) 0 _ rfl; have U := zc (zR n.out (Sm.of_none (zh grn (.cells #[pq (ρ2.md 1)] 51)) (fun _ => True)) (fun _ _ => trivial))
   go_wp2_with (at_builtin; refine sx 44 51 Tryz.underlying44 Tryz.infoModuleP rfl _ _ rfl rfl rfl U.out R.out (by omega) ?_; intro V w4 i r j)
   have X := zc i; have Y := zc r; have A4 := zc j; clear i r j
   go_roundw
   case rel =>
    have a2 := za (z.out _ _ _ f.out) (zh grn (.cells #[pq (ρ2.md 1)] 51)); have S4 : Sm (k.alloc (.cells #[pq (ρ2.md 1)] 51)) w4 (fun g => some g ≠ m.ownBlock) := (Sm.refl _ _).gbn Y.out (fun g hg b => b hg.symm); refine .inr (.inr ⟨ρ2,u,V,rfl,rfl,X.out,Q,((Sm.of_none a2 (fun _ => True)).comp S4 (fun g hg _ e => ?_)).gb,(f.out.km.up gan).sm (KS.okIn f.out.ok) S4 (fun g lb hg e => ?_),f.out.ok⟩)
    ·have b := (O.out g e.symm).2
     omega
    ·rw [a1.out g e.symm] at hg
     cases hg
   case measure => simp [intOf]
  ·replace A := A.symm
   subst A; obtain ⟨_,c4,rfl,k1,k2,J⟩ := jt s.out; obtain ⟨g4,rfl,z0⟩ := J 0 _ rfl; obtain ⟨_,e5,z1⟩ := J 1 _ rfl; cases e5; go_wp2
   go_ret2
   exact ⟨HK.out.1,.inr ⟨u,ρr,g4,c4,Q.out,rfl,⟨k1,k2⟩,z0,z1,HK.out.2⟩⟩
end
theorem Tryz.infoInt : (Tryz.prog.info? 3).map (fun i => (i.zero,i.size,i.bytes)) = some (some (.int .i64 0),1,8) := by kernel_rfl
theorem cK {ops : Array Oper} {rest : List Oper} {o : Oper} {a : Act} {w : World} {Q : Exit -> Act -> World -> Prop} (t : TypeId) (ht : Tryz.prog.underlying t = some (.slice 3)) (hgd : o.guard = none) (s x : Operand)
  (ho : o.op = .call { callee := .builtin .append,args := #[s,x],argTypes := #[t,t] }) {g n : Nat} {v : Value} {q : Int} {cs : List Value} (hs : a.eval s = v) (hx : a.eval x = .slice (some ⟨g,0,none⟩) 1 1) (hl : w.ownsRow 0 3 1 v n cs) (hc : w.cell? ⟨g,0,none⟩ = some (.int .i64 q)) (hn : n <= 1000000)
  (k : ∀ v' w',w'.ownsRow 0 3 1 v' (n + 1) (cs ++ [.int .i64 q]) -> w.grownBy w' v.ownBlock -> (v'.ownBlock = v.ownBlock \/ v'.ownBlock = some w.heap.size) -> wpList Tryz.prog ops Q rest (a.put o.dst v') w') : wpList Tryz.prog ops Q (o :: rest) a w := by
 obtain ⟨f,b,c,d,e⟩ := info_parts Tryz.infoInt
 refine wpList_append_own_at w hgd s x t ho 0 3 f _ 1 8 ht b c d e rfl (by decide) v n cs hs hl ⟨g,0,none⟩ 1 1 [.int .i64 q] hx rfl (fun j u hj => by
   match j,hj with
   | 0,hj => simp at hj; subst hj; simpa [Addr.add] using hc) (fun u hu => by simp at hu; subst hu; rfl) (by unfold maxLen; omega) (by omega) (Nat.zero_le _) (fun v' w' h1 h2 _ h3 => k v' w' h1 h2 h3)
def KS.ptsF (S : KS) : Nat -> Nat -> Int -> List Int
 | 0,_,_ => []
 | f + 1,i,a => if (S.ty i).words = 0 then [] else if (S.ty i).form = 5 then [a] else if (S.ty i).form = 4 then (match (S.ty i).of with | none => [] | some q => S.ptsF f q a) ++ (S.ty i).fields.flatMap fun d => S.ptsF f d.ty (a + d.first) else []
def KS.ptB (S : KS) : Nat -> Nat -> Int -> Bool
 | 0,_,_ => false
 | f + 1,i,a => decide (i < S.tys.length) && (decide (0 <= a) && decide (a <= 1000)) && decide ((S.ty i).form ≠ 3) && (decide ((S.ty i).form ≠ 4) || ((match (S.ty i).of with | none => true | some q => S.ptB f q a) && (S.ty i).fields.all fun d => (decide (0 <= d.first) && decide (d.first <= 1000)) && S.ptB f d.ty (a + d.first)))
structure Pt (w0 w : World) (v : Value) (l : List Int) : Prop where
 gb : w0.grownBy w none
 own : w.ownsRow 0 3 1 v l.length (l.map (Value.int .i64))
 new : ∀ g,v.ownBlock = some g -> w0.heap.size <= g
section
variable {ρ : Lay} {w w' w0 : World} {S : KS}
theorem zaa {α : Type} {l : List α} {j : Nat} {v : α} (h : l[j]? = some v) : l.drop j = v :: l.drop (j + 1) := by
 obtain ⟨b,rfl⟩ := List.getElem?_eq_some_iff.1 h
 exact List.drop_eq_getElem_cons b
theorem Pt.alloc {v : Value} {l : List Int} (h : Pt w0 w v l) (o : Obj) : Pt w0 (w.alloc o) v l := ⟨zh h.gb o,zR h.own (Sm.of_none (zh grn o) (fun _ => True)) (fun _ _ => trivial),h.new⟩
theorem nc (h : KM ρ w0 S) : ∀ (f i : Nat) (a : Int) (w : World) (v : Value) (l : List Int),S.ptB f i a = true -> Pt w0 w v l -> l.length + (S.ptsF f i a).length <= 1000 ->
  Calls Tryz.prog 29 #[v,pq (ρ.ty i),.int .i64 a] w (fun e w' => ∃ v',e = .returned v' /\ Pt w0 w' v' (l ++ S.ptsF f i a)) := by
 intro f
 induction f with
 | zero => intro i a w v l N; cases N
 | succ f ih =>
  intro i a w v l N O Q; simp only [KS.ptB,Bool.and_eq_true,Bool.or_eq_true,decide_eq_true_eq] at N; obtain ⟨⟨⟨R,_,_⟩,_⟩,h4⟩ := N; have IH := zc ih; have r := zc O; have HM := zc h; have y0 : w.cell? ⟨ρ.ty i,0,none⟩ = some (.int .i64 (S.ty i).form) := ze O.gb (h.y0 R); have y3 : w.cell? ⟨ρ.ty i,3,none⟩ = some (.int .i64 (S.ty i).words) := ze O.gb (h.y3 R); clear ih O
  by_cases m : (S.ty i).words = 0
  ·rw [show S.ptsF (f + 1) i a = [] by rw [KS.ptsF,if_pos m]]
   rw [m] at y3
   go_enter Tryz.func29,Tryz.ntmps29
   go_wp2
   go_ret
   exact ⟨_,rfl,by rw [List.append_nil]; exact r.out⟩
  by_cases U : (S.ty i).form = 5
  ·rw [show S.ptsF (f + 1) i a = [a] by rw [KS.ptsF,if_neg m,if_pos U]] at Q ⊢
   rw [U] at y0; have C4 : Hid ((w.alloc (.cells #[.int .i64 a] 3)).cell? ⟨w.heap.size,0,none⟩ = some (.int .i64 a)) := Bk.c (vs := [.int .i64 a]) (Bk.new w _ _ rfl) 0 _ rfl; have R4 := zc (r.out.alloc (.cells #[.int .i64 a] 3)); simp only [List.length_cons,List.length_nil] at Q
   go_enter Tryz.func29,Tryz.ntmps29
   go_wp2_with (at_builtin; refine cK 22 Tryz.underlying22 rfl _ _ rfl rfl rfl R4.out.own C4.out (by omega) ?_; intro v4 w4 s C t)
   have O4 := zc s; have G4 := zc C; have A4 := zc t; clear s C t; go_wp2
   go_ret
   refine ⟨v4,rfl,?_,?_,fun g hg => ?_⟩
   ·refine ((Sm.of_none R4.out.gb (fun _ => True)).comp ((Sm.refl _ (fun g => some g ≠ v.ownBlock)).gbn G4.out (fun g hg n => n hg.symm)) (fun g hg _ e => ?_)).gb
    have := r.out.new g e.symm
    omega
   ·rw [List.map_append,List.length_append]
    exact O4.out
   ·rcases A4.out with n | n
    ·exact r.out.new g (n ▸ hg)
    ·rw [n] at hg
     cases hg; have := r.out.gb.size
     simp
     omega
  by_cases V : (S.ty i).form = 4
  ·obtain ⟨hq,hf⟩ : (match (S.ty i).of with | none => true | some q => S.ptB f q a) = true /\ ((S.ty i).fields.all fun d => (decide (0 <= d.first) && decide (d.first <= 1000)) && S.ptB f d.ty (a + d.first)) = true := by
    rcases h4 with n | n
    ·exact absurd V n
    ·exact n
   obtain ⟨B,o⟩ : ∃ z,z = (match (S.ty i).of with | none => [] | some q => S.ptsF f q a) := ⟨_,rfl⟩
   obtain ⟨F,Y⟩ : ∃ z,z = (S.ty i).fields.flatMap fun d => S.ptsF f d.ty (a + d.first) := ⟨_,rfl⟩
   rw [show S.ptsF (f + 1) i a = B ++ F by rw [KS.ptsF,if_neg m,if_neg U,if_pos V,o,Y]] at Q ⊢; rw [V] at y0; rw [List.length_append] at Q; obtain ⟨_,_,f6,_,Z,D⟩ := h.flds R; have a0 := zc D; have F6 := zc f6; have HF := zc hf; have a1 := zc Y
   unfold maxLen at Z
   clear D f6 hf h4 Y; have a2 : Hid (w.cell? ⟨ρ.ty i,5,none⟩ = some (ρ.tyP (S.ty i).of)) := ze r.out.gb (h.y5 R); have y5 := a2.out; clear h; obtain ⟨E,b⟩ : ∃ z,Value.pointer z = ρ.tyP (S.ty i).of := ⟨_,rfl⟩; rw [<- b] at y5; have G := zc b
   have a6 : ((S.ty i).words == 0) = false := by simpa using m
   clear b
   go_enter Tryz.func29,Tryz.ntmps29
   go_upto_if 59 with fail
   go_cut [0] from 60 to 67 (fun s0 wx => Pt w0 wx s0 (l ++ B))
   case first =>
    cases H : (S.ty i).of with
    | none =>
     have b := G.out; rw [H] at b o
     replace o : B = [] := o
     obtain rfl : E = none := by cases b; rfl
     go_wp2_with fail; go_meet
     case rel => rw [o,List.append_nil]; exact r.out
    | some q =>
     have b := G.out; rw [H] at b o hq
     replace o : B = S.ptsF f q a := o
     obtain rfl : E = some ⟨ρ.ty q,0,none⟩ := by cases b; rfl
     have HC := zc (IH.out q a w v l hq r.out (by rw [<- o]; omega)); go_wp2_with fail; go_at_call 29; refine HC.out.mono ?_; rintro e w1 ⟨I,rfl,J⟩; have k := zc J; clear J; go_wp2_with fail; go_meet
     case rel => rw [o]; exact k.out
   case rest =>
    have PC := zc hcut; have f7 := ze hcut.gb F6.out; clear hcut y0 y3 y5; go_wp2_with fail
    go_loopw [72,0] (fun iv pv wr => ∃ (j : Nat) (I : Value) (A : List Int),j <= (S.ty i).fields.length /\ iv = .int .i64 ↑j /\ pv = I /\ Hid (Pt w0 wr I A) /\ Hid (A ++ ((S.ty i).fields.drop j).flatMap (fun d => S.ptsF f d.ty (a + d.first)) = l ++ (B ++ F))) (fun iv _ _ => (S.ty i).fields.length - (intOf iv).toNat)
    case atStart => exact ⟨0,_,l ++ B,Nat.zero_le _,rfl,rfl,PC.out,by show _ = _; rw [a1.out,List.drop_zero,List.append_assoc]⟩
    case round =>
     obtain ⟨j,I,A,_,rfl,e4,k,HE⟩ := hrel
     replace e4 := e4.symm
     subst e4
     by_cases a3 : j < (S.ty i).fields.length
     ·obtain ⟨d,X⟩ : ∃ d,(S.ty i).fields[j]? = some d := ⟨_,List.getElem?_eq_getElem a3⟩
      obtain ⟨g,rfl,d0,d1,d2,d3⟩ := a0.out j d X
      replace d0 := ze k.out.gb d0
      replace d1 := ze k.out.gb d1
      replace d2 := ze k.out.gb d2
      replace d3 := ze k.out.gb d3
      have zg : g < wr.heap.size := zw d0
      obtain ⟨a7,K⟩ : (0 <= d.first /\ d.first <= 1000) /\ S.ptB f d.ty (a + d.first) = true := by
       have n := List.all_eq_true.1 HF.out d (List.mem_of_getElem? X)
       simpa only [Bool.and_eq_true,decide_eq_true_eq] using n
      have x := HE.out; rw [zaa X,List.flatMap_cons] at x
      have a8 : wrap64 (a + d.first) = a + d.first := by unfold wrap64; omega
      have u : A.length + (S.ptsF f d.ty (a + d.first)).length <= 1000 := by
       have n := congrArg List.length x; simp only [List.length_append] at n
       omega
      obtain ⟨w2,L⟩ : ∃ z,z = wr.alloc (.cells #[.string ⟨d.name.toArray⟩,.bool d.exp,pq (ρ.ty d.ty),.int .i64 d.first] 58) := ⟨_,rfl⟩; have HC := zc (IH.out d.ty (a + d.first) w2 I A K (by rw [L]; exact k.out.alloc _) u)
      have a4 : Hid ((A ++ S.ptsF f d.ty (a + d.first)) ++ ((S.ty i).fields.drop (j + 1)).flatMap (fun d => S.ptsF f d.ty (a + d.first)) = l ++ (B ++ F)) := by
       show _ = _
       rw [List.append_assoc]
       exact x
      clear x u K X; go_wp2_with fail; rw [<- L]; go_at_call 29; refine HC.out.mono ?_; rintro e w3 ⟨v3,rfl,M⟩; have a5 := zc M; clear M; go_wp2_with fail
      go_roundw
      case rel => exact ⟨j + 1,v3,_,by omega,by go_num,rfl,a5,a4⟩
      case measure => first | omega | (simp only [intOf]; omega) | (simp; omega)
     ·have x := HE.out
      rw [List.drop_eq_nil_of_le (by omega),List.flatMap_nil,List.append_nil] at x; go_wp2
      go_ret
      exact ⟨_,rfl,x ▸ k.out⟩
  ·rw [show S.ptsF (f + 1) i a = [] by rw [KS.ptsF,if_neg m,if_neg U,if_neg V]]
   go_enter Tryz.func29,Tryz.ntmps29
   go_wp2
   go_ret
   exact ⟨_,rfl,by rw [List.append_nil]; exact r.out⟩
end
set_option maxHeartbeats 1000000
section
variable {ρ : Lay} {w w' : World} {S1 S2 : KS} {s1 s2 : ByteArray} {g o c : Nat}
theorem cZ (h : Two2 s1 s2 S1 w g o c) : Calls Tryz.prog 7 #[.slice (some ⟨g,o,none⟩) 2 c] w (fun e w' => w.grownBy w' none /\ ((S1.addE s2.data.toList = none /\ ∃ q,e = .returned (.iface 103 q)) \/ ((∃ S2,S1.addE s2.data.toList = some S2) /\ e = .returned .nilIface))) := by
 have i := zc (tw h); clear h
 go_enter Tryz.func7,Tryz.ntmps7
 go_wp2_with fail; go_at_call 16; refine i.out.mono ?_; rintro e j ⟨b,⟨d,q,rfl⟩ | ⟨S2,ρ,k,l,d,rfl,-⟩⟩
 ·have f := zc b
  clear b; go_wp2
  go_ret
  exact ⟨f.out,.inl ⟨d,q,rfl⟩⟩
 ·have f := zc b
  clear b; go_wp2
  go_ret
  exact ⟨f.out,.inr ⟨⟨S2,d⟩,rfl⟩⟩
theorem nw (h : Two2 s1 s2 S1 w g o c) (hA : S1.addE s2.data.toList = some S2) {k : Nat} (hk : k < 2) :
  Calls Tryz.prog 20 #[.slice (some ⟨g,o,none⟩) 2 c,.int .i64 k] w (fun e w' => w.grownBy w' none /\ ∃ ρ,e = .returned (.tuple #[pq (ρ.md k),.nilIface]) /\ KM ρ w' S2 /\ S2.okB = true) := by
 have m := zc (tw h); have i := zc hA; clear h hA
 have f : k = 0 \/ k = 1 := by omega
 rcases f with rfl | rfl <;>
 ·go_enter Tryz.func20,Tryz.ntmps20
  go_wp2_with fail; go_at_call 16; refine m.out.mono ?_; rintro e v ⟨b,⟨d,q,rfl⟩ | ⟨x,ρ,z,A,d,rfl,⟨n,r⟩,B,C,j,l⟩⟩
  ·rw [i.out] at d; cases d
  rw [i.out] at d; cases d; have s := zc b; have t := zc j; have u := zc l; clear b j l; go_wp2
  go_ret2
  exact ⟨s.out,ρ,rfl,t.out,u.out⟩
theorem fk (h : Two2 s1 s2 S1 w g o c) (hA : S1.addE s2.data.toList = some S2) {k : Nat} (hk : k < 2) (hm : k < S2.mds.length) (x : Nm) (hx : x.length <= maxLen) {i : Nat} (hi : S2.typeOf k x = some i) :
  Calls Tryz.prog 17 #[.slice (some ⟨g,o,none⟩) 2 c,.int .i64 k,.string ⟨x.toArray⟩] w (fun e w' => w.grownBy w' none /\ ∃ ρ,e = .returned (.tuple #[pq (ρ.ty i),.nilIface]) /\ KM ρ w' S2 /\ S2.okB = true) := by
 have l := zc (nw h hA hk); have m := zc hi; clear h hA hi
 go_enter Tryz.func17,Tryz.ntmps17
 go_wp2_with fail; go_at_call 20; refine l.out.mono ?_; rintro e t ⟨b,ρ,rfl,f,j⟩; have n := zc b; have q := zc f; have r := zc j; have s := zc (jH f (KS.okOk j) hm x hx); clear b f j; go_wp2_with fail; go_at_call 28; refine s.out.mono ?_; rw [m.out,yo]; rintro e u ⟨rfl,d⟩; rw [d]; clear d; go_wp2
 go_ret2
 exact ⟨n.out,ρ,rfl,q.out,r.out⟩
theorem lR (h : KM ρ w S2) {i : Nat} (hp : S2.ptB 9 i 0 = true) (hl : (S2.ptsF 9 i 0).length <= 1000) :
  Calls Tryz.prog 18 #[pq (ρ.ty i)] w (fun e w' => ∃ v,e = .returned v /\ Pt w w' v (S2.ptsF 9 i 0)) := by
 have b := zc (nc h 9 i 0 w (.slice none 0 0) [] hp ⟨zj w none,World.ownsRow_nil _ _ _ _,nofun⟩ (by simpa using hl)); clear h hp hl
 go_enter Tryz.func18,Tryz.ntmps18
 go_wp2_with fail; go_at_call 29; refine b.out.mono ?_; rintro e f ⟨v,rfl,hp⟩; have d := zc hp; clear hp; go_wp2
 go_ret
 exact ⟨v,rfl,d.out⟩
theorem cQ (h : Two2 s1 s2 S1 w g o c) (hA : S1.addE s2.data.toList = some S2) (hT : S2.tysB = true) {k : Nat} (hk : k < 2) (hm : k < S2.mds.length) (x y : Nm) (hx : x.length <= maxLen) {i q : Nat} {d : KFd} (hi : S2.typeOf k x = some i) (hil : i < S2.tys.length) (h4 : (S2.ty i).form = 4) (hf : S2.field i y = some (d,q)) (hdt : d.ty < S2.tys.length) :
  Calls Tryz.prog 10 #[.slice (some ⟨g,o,none⟩) 2 c,.int .i64 k,.string ⟨x.toArray⟩,.string ⟨y.toArray⟩] w (fun e w' => w.grownBy w' none /\ e = .returned (.tuple #[.int .i64 d.first,.int .i64 (S2.ty d.ty).words,.nilIface])) := by
 have m := zc (fk h hA hk hm x hx hi); have n := zc hT; have r := zc hf; clear h hA hi hT hf
 go_enter Tryz.func10,Tryz.ntmps10
 go_wp2_with fail; go_at_call 17; refine m.out.mono ?_; rintro e A ⟨f,ρ,rfl,j,l⟩; have s := zc f; have t := zc j; have u := zc (yU j (KS.tysOk l n.out) hil h4 y); have y0 := j.y0 hil; rw [h4] at y0; clear f j l h4; go_wp2_with fail; go_at_call 19; refine u.out.mono ?_; rw [r.out]; rintro e B ⟨rfl,b⟩; have z := zc (za s.out b); have y3 := ze b (t.out.y3 hdt); have C := zw y3
 unfold Lay.fdP
 clear b y0; go_wp2_with fail
 go_region
 all_goals go_wp2
 all_goals exact bodyPost_ret (v := .tuple #[.int .i64 d.first,.int .i64 (S2.ty d.ty).words,.nilIface]) (by simp [results,Tryz.results10,go_sem]) rfl ⟨(zf (zh z.out _)),rfl⟩
theorem zbf (h : Two2 s1 s2 S1 w g o c) (hA : S1.addE s2.data.toList = some S2) {k : Nat} (hk : k < 2) (hm : k < S2.mds.length) (x : Nm) (hx : x.length <= maxLen) {i : Nat} (hi : S2.typeOf k x = some i) (hil : i < S2.tys.length) (hp : S2.ptB 9 i 0 = true) (hl : (S2.ptsF 9 i 0).length <= 1000) :
  Calls Tryz.prog 8 #[.slice (some ⟨g,o,none⟩) 2 c,.int .i64 k,.string ⟨x.toArray⟩] w (fun e w' => w.grownBy w' none /\ ∃ v,e = .returned (.tuple #[.int .i64 (S2.ty i).words,v,.nilIface]) /\ w'.ownsRow 0 3 1 v (S2.ptsF 9 i 0).length ((S2.ptsF 9 i 0).map (Value.int .i64))) := by
 have m := zc (fk h hA hk hm x hx hi); have n := zc hp; clear h hA hi hp
 go_enter Tryz.func8,Tryz.ntmps8
 go_wp2_with fail; go_at_call 17; refine m.out.mono ?_; rintro e j ⟨d,ρ,rfl,f,q⟩; have r := zc d; have y3 := zc (f.y3 hil); have s := zc (fun w9 (G : j.grownBy w9 none) => lR (f.up G) n.out hl); have u := zw (f.y3 hil); clear d f q; go_wp2_with fail; refine wp_region_held_drew (S := fun w9 => j.grownBy w9 none) (by kernel_rfl) ?_ (fun hHeld => ?_)
 ·exact zf grn
 refine kQ 0 20 (pq (ρ.ty i)) hHeld ?_; refine kQ 1 21 (pq (ρ.ty i)) hHeld ?_; refine kQ 2 22 (.pointer (some ⟨ρ.ty i,3,none⟩)) hHeld ?_; refine dk 3 (some 23) (.int .i64 (S2.ty i).words) rfl rfl (fun w9 hS => by have z := ze hS y3.out; go_simp) hHeld ?_; refine kQ 4 24 (pq (ρ.ty i)) hHeld ?_; simp only [qA,qB,qC,qD]; refine rd 5 rfl fun KK hKK => ?_
 go_simp
 go_at_call 18; refine (s.out _ (zf grn)).mono ?_; rintro e A ⟨v,rfl,b⟩; have t := zc b; have l := zc (za (zf grn) b.gb); clear b
 go_simp
 refine hKK.out _ _ l.out fun hHeld => ?_
 clear hKK KK; refine kQ 6 6 (.int .i64 (S2.ty i).words) hHeld ?_; refine kQ 7 7 v hHeld ?_; refine kQ 8 8 .nilIface hHeld ?_; simp only [qA,qB,qC,qD]; refine wpAnyH_done (by kernel_rfl) ?_ _; clear hHeld; go_wp2
 exact bodyPost_ret (v := .tuple #[.int .i64 (S2.ty i).words,v,.nilIface]) (by simp [results,Tryz.results8,go_sem]) rfl ⟨(za r.out l.out),v,rfl,t.out.own⟩
end
end Go.Proofs.YtnmkffjklpfflaaGreatDoor
