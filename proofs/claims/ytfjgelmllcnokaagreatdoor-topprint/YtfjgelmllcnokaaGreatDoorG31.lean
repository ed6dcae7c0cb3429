/- The program's judge of shapes: formed. -/
import Derived.Test.YtfjgelmllcnokaaGreatDoorG30
import Derived.Test.YtfjgelmllcnokaaGreatDoorG04
import Derived.Laws.EntriesVeiled
namespace Go.Proofs.YtfjgelmllcnokaaGreatDoor
open Go.RowKit Go.Maps Go.WideMaps Go.WideElems
set_option maxHeartbeats 4000000
set_option maxRecDepth 1000000
theorem lS : WellAll [] := fun p hp => by cases hp
theorem zbp (t : T) : Well .module t ↔ WellAll [(t, .module)] := ⟨fun h p hp => by cases List.mem_singleton.1 hp; exact h, fun h => h (t, .module) (List.mem_singleton.2 rfl)⟩
theorem JS.init {w w2 : World} {lb ob : Nat} (hg : w.grownBy w2 none) (hl : IsLex w2 lb) (ho : IsOps w2 ob) :
    JS w w2.heap.size lb ob (w2.alloc (.cells #[.map (some lb), .map (some ob), .slice none 0 0] 86)) [] (.slice none 0 0) := by
  have ga := zf (zl w2 none) (.cells #[.map (some lb), .map (some ob), .slice none 0 0] 86)
  exact {
    gb := zf hg _
    jlo := hg.size
    c0 := by rw [World.cell?_alloc_at _ _ _ _ rfl]; rfl
    c1 := by rw [World.cell?_alloc_at _ _ _ _ rfl]; rfl
    c2 := by rw [World.cell?_alloc_at _ _ _ _ rfl]; rfl
    z2 := World.frozen?_alloc_at _ _ _ _ rfl
    lex := yN hl (ga.block _ (World.ownsMap.lt hl) (by simp))
    ops := yN ho (ga.block _ (World.ownsMap.lt ho) (by simp))
    lne := by have := World.ownsMap.lt hl; omega
    one := by have := World.ownsMap.lt ho; omega
    rne := by simp [Value.ownBlock]
    row := ⟨[], [], rfl, rfl, ⟨rfl, .inl ⟨rfl, rfl⟩⟩, fun i p sv rv h _ _ => by simp at h⟩ }
theorem JS.none {w0 : World} {jb lb ob : Nat} {w : World} {v : Value} (h : JS w0 jb lb ob w [] v) : ∃ a c, v = .slice a 0 c /\ c <= 9223372036854775807 := by
  obtain ⟨_,_,_,_,own,_⟩ := h.row
  rcases own.2 with ⟨rfl, _⟩ | ⟨g, c, _, rfl, _, _, _, hc, _⟩
  · exact ⟨_, _, rfl, by omega⟩
  · unfold maxLen at hc; exact ⟨_, _, rfl, by omega⟩
theorem RV.cut {w : World} {jb : Nat} {v : Value} {r : Rule} {rv u : Value} (h : RV w jb (free jb v) r rv) : RV (w.setCell ⟨jb, 2, .none⟩ u) jb (free jb v) r rv :=
  h.kept ⟨rfl, rfl, rfl, by simp [World.setCell], fun k _ hk => Below.heap_setCell _ _ _ _ (by simpa using hk.1)⟩ (fun _ _ hk => hk)
theorem ch (H : Two) (w0 : World) (jb lb ob : Nat) (w : World) (l : List (T × Rule)) (v : Value) (t : T) (sv : Value) (r : Rule) (g : Nat) (fa ca : Array Value) (h : JS w0 jb lb ob w l v) (hlen : l.length + t.subs.length <= 20000) (hf : Fits t) (ha : AT w0 t.subs sv) (hr : RV w jb (free jb v) r (.func (.func g) fa ca)) :
    Calls Tryz.prog g (fa.push (yl t sv) ++ ca) w (JR w0 jb lb ob l v w r t) := by
  have h9 := aP H w0 jb lb ob w l v t sv r g fa ca h hlen hf ha hr; rwa [show fa ++ #[yl t sv] = fa.push (yl t sv) by simp] at h9
theorem iQ (H : Two) (t : T) (sv : Value) (w : World) (hf : Fits t) (ha : AT w t.subs sv) (hcount : zr t <= 10000) (htab : Lib.TabIs Tryz.prog w "strings.asciiSpace" .u8 Lib.asciiSpaceTab) :
    Calls Tryz.prog 17 #[yl t sv] w fun e w' => w.grownBy w' none /\ ((jY .module t = true /\ e = .returned (.tuple #[.int .i64 (zr t), .bool true])) \/ (jY .module t = false /\ e = .returned (.tuple #[.int .i64 0, .bool false]))) := by
  have HH := za H; have HF := za hf; have HA := za ha; have HT := za htab; obtain ⟨kd,x,m,p,ts⟩ := t; obtain ⟨a,n,c,rfl,_,_,hl⟩ := ha.any
  change ts.length = n at hl
  subst hl; clear H hf ha htab
  change Calls Tryz.prog 17 #[.agg #[.int .i64 kd, .string ⟨x.toArray⟩, .int .i64 m, .int .i64 p, .slice a ts.length c]] w _
  go_enter Tryz.func17, Tryz.ntmps17
  go_wp2_with fail; go_at_call 15; refine (dX _ (ki HT.out (((Below.refl _ _).alloc (Nat.le_refl _) _)))).mono ?_; rintro e w1 ⟨rfl, hx1, hb1⟩; have G1 := za (zb (zf (zl w none) _) (sn hb1 none)); have B1 := za ((Box.new w (.mk kd x m p ts) (.slice a ts.length c) 28).kept (sn hb1 none)); have X1 := za hx1; clear hx1 hb1; go_wp2_with fail; go_at_call 31; refine (gQ _).mono ?_; rintro e w2 ⟨rfl, hx2, hg2⟩; have G2 := za (zb G1.out hg2); have B2 := za (B1.out.kept hg2); have X2 := za hx2
  have L2 : Hid (IsLex w2 (w.heap.size + 1 + 1)) := by
    have h9 := yN X1.out (hg2.block _ (World.ownsMap.lt X1.out) (by simp)); rwa [World.size_alloc] at h9
  obtain ⟨b0,b1,b2,b3,b4⟩ := B2.out; have hbl := ze b0; clear hx2 hg2; go_wp2_with fail; go_at_call 32; refine (kH w w2.heap.size _ _ _ [] (.slice none 0 0) (.mk kd x m p ts) .module _ _ (JS.init G2.out L2.out X2.out) (by simp) HF.out HA.out (.meth .module _ rfl)).mono ?_; rintro e w3 ⟨v3, rfl, j3, -⟩; have J3 := za j3; clear j3 b0 b1 b2 b3 b4
  have hc0 : 0 + xV [((T.mk kd x m p ts), Rule.module)] = zr (T.mk kd x m p ts) := by unfold xV; simp [zu]
  go_wp2_with fail
  go_loopw [2] (fun cv wr => ∃ (cnt : Nat) (l : List (T × Rule)) (v1 : Value), cv = .int .i64 ↑cnt /\ Hid (JS w w2.heap.size (w.heap.size + 1 + 1) w1.heap.size wr l v1) /\ Hid (cnt + xV l = zr (T.mk kd x m p ts)) /\ Hid (Well .module (.mk kd x m p ts) ↔ WellAll l)) (fun cv _ => 10001 - (intOf cv).toNat)
  case atStart => exact ⟨0, _, v3, rfl, J3, hc0, zbp _⟩
  case round =>
    obtain ⟨cnt,l,v1,rfl,J1,C1,W1⟩ := hrel; have d2 := J1.out.c2; have dz := J1.out.z2; have hjl := J1.out.lt
    rcases Nat.eq_zero_or_pos l.length with hl0 | hl0
    · obtain rfl := List.eq_nil_of_length_eq_zero hl0
      obtain ⟨_,_,rfl,_⟩ := J1.out.none; have HW : Hid (jY .module (.mk kd x m p ts) = true) := qx.2 (W1.out.2 lS)
      have HC : Hid (cnt = zr (T.mk kd x m p ts)) := by
        show _ = _
        have := C1.out
        simpa [xV, zu] using this
      go_wp2_with fail
      go_ret2
      exact ⟨J1.out.gb, .inl ⟨HW.out, by rw [HC.out]; rfl⟩⟩
    · obtain ⟨l,⟨u,r⟩,rfl,hl1⟩ := qW l (l.length - 1) (by omega)
      obtain ⟨_,_,_,_,rfl,_,hg2,k0,_,_,_,_,_,fu,au,ru,_,jc,rc⟩ := J1.out.pop; have JC := za jc; clear jc; obtain ⟨_,_,rfl,_,_⟩ := au.form; obtain ⟨gn,fa,ca,rfl⟩ := ru.form; have hent := ly ru; have hlc : cnt + xV (l ++ [(u, r)]) = zr (T.mk kd x m p ts) := C1.out; have hlu := rM (l ++ [(u, r)]); have hsc := aW u
      have hcu : zr u <= xV (l ++ [(u, r)]) := by rw [jQ]; have : xV [(u, r)] = zr u := (by unfold xV; simp [zu]); omega
      have hcl : xV (l ++ [(u, r)]) = xV l + zr u := by rw [jQ]; have : xV [(u, r)] = zr u := (by unfold xV; simp [zu]); omega
      have hll := rM l
      have HLEN : Hid (l.length + u.subs.length <= 20000) := by show _ <= _; omega
      have hcn : cnt + 1 <= 10000 := by omega
      have FU := za fu; have AU := za au; have RC := za rc
      have hl2 : l.length <= 10000 := by omega
      have hgl := ze k0; clear hlc hlu hsc hcu hcl hll fu au ru rc hl0 hl1; simp only [] at *; go_wp2_with fail; refine (ch HH.out w w2.heap.size _ _ _ l _ u _ r gn fa ca (JC.out.grown (zf (zl _ none) _)) HLEN.out FU.out AU.out (RC.out.grown (zf (zl _ none) _))).mono ?_; rintro e w9 (⟨hn9, rfl, g9⟩ | ⟨q, v9, hy9, rfl, j9, -⟩)
      · have HW : Hid (jY .module (.mk kd x m p ts) = false) := by
          show _ = _
          rw [Bool.eq_false_iff, ne_eq, qx, W1.out]
          exact WellAll.stop hn9
        have G9 := za g9; clear hn9 g9; go_wp2_with fail
        go_ret2
        exact ⟨G9.out, .inr ⟨HW.out, rfl⟩⟩
      · have J9 := za j9
        have C9 : Hid (cnt + 1 + xV (l ++ q) = zr (T.mk kd x m p ts)) := by
          show _ = _
          have h8 := C1.out; rw [cS hy9] at h8
          omega
        have W9 : Hid (Well .module (.mk kd x m p ts) ↔ WellAll (l ++ q)) := W1.out.trans (WellAll.step hy9); clear j9 hy9; go_wp2_with fail
        exact ⟨⟨cnt + 1, _, v9, by go_num, J9, C9, W9⟩, by simp [intOf]; omega⟩
end Go.Proofs.YtfjgelmllcnokaaGreatDoor
