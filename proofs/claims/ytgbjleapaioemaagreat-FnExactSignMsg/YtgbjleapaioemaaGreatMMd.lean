import Derived.Test.YtgbjleapaioemaaGreatMMb
import Derived.Test.YtgbjleapaioemaaGreatMMc
import Derived.Test.YtgbjleapaioemaaGreatMSB
import Derived.Test.YtgbjleapaioemaaGreatTS2
import Derived.Deep.Slices
import Derived.ChangeArms
import Derived.ChangeSlices
import Derived.WalkKit
import Derived.ProofKit
set_option linter.unusedVariables false
namespace Go.Proofs.YtgbjleapaioemaaGreat
open Go.RowKit Go.Sort

theorem Sgs.kept {w w' : World} {a : Option Addr} {n : Nat} {xs : List SgP} (h : Sgs w a n xs) (hb : Below w.heap.size w w') : Sgs w' a n xs := by
  refine ⟨h.len, h.max, fun k hk => ?_⟩
  obtain ⟨b, off, a1, n1, c1, ha, hlt, hc, hp, hm⟩ := h.get k hk
  exact ⟨b, off, a1, n1, c1, ha, Nat.lt_of_lt_of_le hlt hb.size, hc.of (fun i => hb.cell (p := ⟨b, i, none⟩) hlt), hp.kept hb, hm⟩
theorem OwnG.beside {B B' n c m s : Nat} {w w' : World} {a : Option Addr} {ps : List Gq} {v : Value} {vs : List Value} (h : OwnG B w a n c ps) (hg : w.grownBy w' v.ownBlock) (ho : w.ownsRow B' 5 s v m vs) (sep : ∀ j l, j < n → (rqv (ps.getD j gq0).1).ownBlock = some l → v.ownBlock = some l → False) : OwnG B w' a n c ps := by
  refine ⟨h.row.kept hg (blocks_apartR h.row ho (by decide)), h.len, fun j hj => ⟨(h.each j hj).row.kept hg ?_, (h.each j hj).byte⟩, h.apart, h.rng⟩
  cases hb : (rqv (ps.getD j gq0).1).ownBlock with
  | none => exact .inl hb
  | some l =>
    right
    intro h2
    have h3 : v.ownBlock = some l := by rw [← h2]; exact hb
    exact sep j l hj hb h3
theorem own_touchP {P : Nat → Prop} {B n c : Nat} {w w' : World} {a : Option Addr} {bs : List Int} (h : Own B w a n c bs) (ht : TouchP P w w') (hn : ∀ j, (Value.slice a n c).ownBlock = some j → ¬ P j) : Own B w' a n c bs := by
  refine ⟨⟨h.row.1, ?_⟩, h.byte⟩
  rcases h.row.2 with h0 | ⟨g', cap, cur, hv, hb, hh, rest⟩
  · exact .inl h0
  · have h1 := hn g' (by rw [hv]; rfl)
    exact .inr ⟨g', cap, cur, hv, hb, (ht.block g' (Array.getElem?_eq_some_iff.1 hh).1 h1).trans hh, rest⟩
/-- The blocks of a row of signers. -/
def BlkG (a : Option Addr) (n cap : Nat) (ps : List Gq) (k : Nat) : Prop := (Value.slice a n cap).ownBlock = some k ∨ ∃ i, i < n ∧ (rqv (ps.getD i gq0).1).ownBlock = some k
theorem blkG_in (a : Option Addr) (n cap : Nat) (ps : List Gq) : InGP (BlkG a n cap ps) a n cap ps := ⟨fun _ h => .inl h, fun i hi _ h => .inr ⟨i, hi, h⟩⟩
def BlkM (a1 : Option Addr) (n1 c1 : Nat) (a2 : Option Addr) (n2 c2 : Nat) (ps : List Gq) (k : Nat) : Prop := (Value.slice a1 n1 c1).ownBlock = some k ∨ BlkG a2 n2 c2 ps k
theorem cells2m {W : World} {g : Nat} {x y : Value} {t : TypeId} (h : W.heap[g]? = some (.cells #[x, y] t (0, 0))) : W.cell? ⟨g, 0, none⟩ = some x ∧ W.cell? ⟨g, 1, none⟩ = some y :=
  ⟨(cell_of_row _ _ 0 _ t (0, 0) h).trans rfl, (cell_of_row _ _ 1 _ t (0, 0) h).trans rfl⟩

set_option maxRecDepth 10000 in
set_option maxHeartbeats 2000000 in
theorem eqMsg_same (a1 : Option Addr) (n1 c1 : Nat) (a2 : Option Addr) (n2 c2 : Nat) (b1 : Option Addr) (d1 : Nat) (b2 : Option Addr) (d2 : Nat) (ct : List Int) (gs : List SgP) (w : World) (h1 : Row w a1 n1 ct) (h2 : Row w b1 n1 ct) (hn : n1 ≤ maxLen) (g1 : Sgs w a2 n2 gs) (g2 : Sgs w b2 n2 gs) :
    Calls Tryz.prog 9 #[.agg #[.slice a1 n1 c1, .slice a2 n2 c2], .agg #[.slice b1 n1 d1, .slice b2 n2 d2]] w fun e w' => e = .returned (.bool true) ∧ Below w.heap.size w w' := by
  obtain ⟨w1, hw1⟩ : ∃ w1, w1 = (w.alloc (.cells #[.slice a1 n1 c1, .slice a2 n2 c2] 27)).alloc (.cells #[.slice b1 n1 d1, .slice b2 n2 d2] 27) := ⟨_, rfl⟩
  have hn2 := two_blocks w (.cells #[.slice a1 n1 c1, .slice a2 n2 c2] 27) (.cells #[.slice b1 n1 d1, .slice b2 n2 d2] 27)
  have hbb : Below w.heap.size w w1 := by rw [hw1]; exact two_below _ _ _
  rw [← hw1] at hn2
  have HA : Hid (Row w1 a1 n1 ct ∧ Row w1 b1 n1 ct) := ⟨h1.kept hbb, h2.kept hbb⟩
  have HG : Hid (Sgs w1 a2 n2 gs ∧ Sgs w1 b2 n2 gs) := ⟨g1.kept hbb, g2.kept hbb⟩
  have HN : Hid (w1.heap[w.heap.size]? = some (.cells #[.slice a1 n1 c1, .slice a2 n2 c2] 27 (0, 0)) ∧ w1.heap[w.heap.size + 1]? = some (.cells #[.slice b1 n1 d1, .slice b2 n2 d2] 27 (0, 0))) := hn2
  have HW : Hid (_ = _) := hw1
  obtain ⟨x0, x1⟩ := cells2m HN.out.1
  obtain ⟨y0, y1⟩ := cells2m HN.out.2
  clear hw1 hn2 h1 h2 g1 g2
  go_enter Tryz.func9, Tryz.ntmps9
  go_upto_region 1 with fail
  rw [← HW.out]
  clear HW
  go_wp2_with fail
  refine (eqByteS_any a1 b1 n1 n1 c1 d1 ct ct _ HA.out.1 HA.out.2 hn hn).mono ?_
  rintro e w2 ⟨rfl, hb2⟩
  rw [decide_eq_true (rfl : ct = ct)]
  clear x0 x1 y0 y1
  obtain ⟨x0, x1⟩ := cells2m (below_kept HN.out.1 hb2)
  obtain ⟨y0, y1⟩ := cells2m (below_kept HN.out.2 hb2)
  go_wp2_with fail
  refine (eqSignerS_same a2 b2 n2 c2 d2 gs _ (HG.out.1.kept hb2) (HG.out.2.kept hb2)).mono ?_
  rintro e w3 ⟨rfl, hb3⟩
  clear x0 x1 y0 y1
  go_wp2
  go_ret
  exact ⟨rfl, keepT hbb (keepT hb2 hb3)⟩

set_option maxRecDepth 10000 in
set_option maxHeartbeats 2000000 in
theorem markMsg_any (B : Nat) (a1 : Option Addr) (n1 c1 : Nat) (ct : List Int) (a2 : Option Addr) (n2 c2 : Nat) (ps : List Gq) (w : World) (hB : B ≤ w.heap.size) (ho : Own B w a1 n1 c1 ct) (hg : OwnG B w a2 n2 c2 ps) (sep : ∀ j l, j < n2 → (rqv (ps.getD j gq0).1).ownBlock = some l → (Value.slice a1 n1 c1).ownBlock = some l → False) (h1 : n1 ≤ 1048576) (h2 : n2 ≤ 1048576) (hs : ∀ j, j < n2 → (ps.getD j gq0).1.2.1 ≤ 1048576) :
    Calls Tryz.prog 14 #[.agg #[.slice a1 n1 c1, .slice a2 n2 c2], .int .i64 1] w fun e w' => e = .returned (.int .i64 (mgNx ps n2 (1 + n1) : Nat)) ∧ Own B w' a1 n1 c1 (marks 1 n1) ∧ OwnG B w' a2 n2 c2 (mgTo ps n2 (1 + n1)) ∧ TouchP (BlkM a1 n1 c1 a2 n2 c2 ps) w w' := by
  obtain ⟨w1, hw1⟩ : ∃ w1, w1 = w.alloc (.cells #[.slice a1 n1 c1, .slice a2 n2 c2] 27) := ⟨_, rfl⟩
  have hbb : Below w.heap.size w w1 := by rw [hw1]; exact (Below.refl _ _).alloc (Nat.le_refl _) _
  have HN : Hid (w1.heap[w.heap.size]? = some (.cells #[.slice a1 n1 c1, .slice a2 n2 c2] 27 (0, 0))) := by show _ = _; rw [hw1]; exact heap_alloc_new w _
  have HO : Hid (Own B w1 a1 n1 c1 ct) := ho.kept hbb
  have HG : Hid (OwnG B w1 a2 n2 c2 ps) := hg.kept hbb
  have HSEP : Hid (∀ j l, j < n2 → (rqv (ps.getD j gq0).1).ownBlock = some l → (Value.slice a1 n1 c1).ownBlock = some l → False) := sep
  have HW : Hid (_ = _) := hw1
  obtain ⟨x0, x1⟩ := cells2m HN.out
  clear hw1 ho hg sep
  go_enter Tryz.func14, Tryz.ntmps14
  go_upto_region 1 with fail
  rw [← HW.out]
  clear HW
  go_wp2_with fail
  refine (markByteS_int B a1 n1 c1 1 ct _ HO.out (by omega) (by decide) (by decide)).mono ?_
  rintro e w2 ⟨rfl, ho2, hg2⟩
  have HG2 : Hid (OwnG B w2 a2 n2 c2 ps) := HG.out.beside hg2 HO.out.row HSEP.out
  have HN2 : Hid (w2.heap[w.heap.size]? = some (.cells #[.slice a1 n1 c1, .slice a2 n2 c2] 27 (0, 0))) := box_grown HN.out hg2 HO.out.row (by decide)
  have HO2 : Hid (Own B w2 a1 n1 c1 (marks 1 n1)) := ho2
  have ht2 : TouchP (BlkM a1 n1 c1 a2 n2 c2 ps) w w2 := (TouchP.of_below hbb).trans (touchP_g hg2 (fun k hk => .inl hk))
  clear x0 x1 ho2 hg2
  obtain ⟨x0, x1⟩ := cells2m HN2.out
  have ek : (1 : Int) + (n1 : Int) = ((1 + n1 : Nat) : Int) := by omega
  rw [ek]
  clear ek
  go_wp2_with fail
  refine (markSignerS_any B (BlkG a2 n2 c2 ps) a2 n2 c2 (1 + n1) ps _ HG2.out h2 hs (by omega) (blkG_in _ _ _ _)).mono ?_
  rintro e w3 ⟨rfl, ho3, ht3⟩
  have HO3 : Own B w3 a1 n1 c1 (marks 1 n1) := own_touchP HO2.out ht3 (fun j hj hP => by
    rcases hP with hP | ⟨i, hi, hP⟩
    · rcases blocks_apartR HO2.out.row HG2.out.row (by decide) with h | h
      · rw [h] at hj; cases hj
      · exact h (hj.trans hP.symm)
    · exact HSEP.out i j hi hP hj)
  have ht4 := ht2.trans (ht3.mono (fun k hk => .inr hk))
  clear x0 x1 ht2 ht3
  go_wp2
  go_ret
  exact ⟨rfl, HO3, ho3, ht4⟩

set_option maxRecDepth 10000 in
set_option maxHeartbeats 2000000 in
theorem heldMsg_any (B : Nat) (a1 : Option Addr) (n1 c1 : Nat) (a2 : Option Addr) (n2 c2 : Nat) (ps : List Gq) (w : World) (ho : Row w a1 n1 (marks 1 n1)) (hl : ps.length = n2) (hg : OwnG B w a2 n2 c2 (mgTo ps n2 (1 + n1))) (h1 : n1 ≤ 1048576) (h2 : n2 ≤ 100) (hs : ∀ j, j < n2 → (ps.getD j gq0).1.2.1 ≤ 1048576) :
    Calls Tryz.prog 15 #[.agg #[.slice a1 n1 c1, .slice a2 n2 c2], .int .i64 1] w fun e w' => e = .returned (.int .i64 (mgNx ps n2 (1 + n1) : Nat)) ∧ Below w.heap.size w w' := by
  obtain ⟨w1, hw1⟩ : ∃ w1, w1 = w.alloc (.cells #[.slice a1 n1 c1, .slice a2 n2 c2] 27) := ⟨_, rfl⟩
  have hbb : Below w.heap.size w w1 := by rw [hw1]; exact (Below.refl _ _).alloc (Nat.le_refl _) _
  have HN : Hid (w1.heap[w.heap.size]? = some (.cells #[.slice a1 n1 c1, .slice a2 n2 c2] 27 (0, 0))) := by show _ = _; rw [hw1]; exact heap_alloc_new w _
  have HO : Hid (Row w1 a1 n1 (marks (1 : Int).toNat n1)) := ho.kept hbb
  have HG : Hid (OwnG B w1 a2 n2 c2 (mgTo ps n2 (1 + n1))) := hg.kept hbb
  have HW : Hid (_ = _) := hw1
  obtain ⟨x0, x1⟩ := cells2m HN.out
  clear hw1 ho hg
  go_enter Tryz.func15, Tryz.ntmps15
  go_upto_region 1 with fail
  rw [← HW.out]
  clear HW
  go_wp2_with fail
  refine (heldByteS_int a1 n1 c1 1 _ HO.out (by omega) (by decide) (by decide)).mono ?_
  rintro e w2 ⟨rfl, hw2⟩
  have hw2 := hw2.symm
  subst hw2
  have tz : ¬ ((1 : Int) + (n1 : Int) < 0) := by omega
  have ek : (1 : Int) + (n1 : Int) = ((1 + n1 : Nat) : Int) := by omega
  rw [ek] at tz ⊢
  clear ek
  go_wp2_with fail
  refine (heldSignerS_any B a2 n2 c2 (1 + n1) ps _ hl HG.out h2 hs (by omega)).mono ?_
  rintro e w3 ⟨rfl, hb3⟩
  clear x0 x1
  obtain ⟨K, hK⟩ : ∃ K : Nat, K = mgNx ps n2 (1 + n1) := ⟨_, rfl⟩
  rw [← hK]
  have tz2 : ¬ (((K : Nat) : Int) < 0) := by omega
  have HK : Hid (_ = _) := hK
  clear hK
  go_wp2
  go_ret
  exact ⟨by rw [← HK.out]; rfl, keepT hbb hb3⟩

end Go.Proofs.YtgbjleapaioemaaGreat

set_option linter.unusedVariables false
namespace Go.Proofs.YtgbjleapaioemaaGreat
open Go.RowKit Go.Sort

/-- Boxes that lie there. -/
structure Bxs (L : List (Nat × Array Value × Nat)) (W : World) : Prop where
  all : ∀ p ∈ L, W.heap[p.1]? = some (.cells p.2.1 p.2.2 (0, 0))
theorem Bxs.kept {L : List (Nat × Array Value × Nat)} {W W' : World} (h : Bxs L W) (hb : Below W.heap.size W W') : Bxs L W' := ⟨fun p hp => below_kept (h.all p hp) hb⟩
theorem Bxs.touch {L : List (Nat × Array Value × Nat)} {W W' : World} {lo hi : Nat} (h : Bxs L W) (ht : Touch lo hi W W') (hd : ∀ p ∈ L, p.1 < lo ∨ hi ≤ p.1) : Bxs L W' := ⟨fun p hp => touch_kept ht (h.all p hp) (hd p hp)⟩
theorem eqByteS_sameR (a b : Option Addr) (n ca cb : Nat) (xs : List Int) (w : World) (hx : Row w a n xs) (hy : Row w b n xs) (hn : n ≤ 1048576) :
    Calls Tryz.prog 11 #[.slice a n ca, .slice b n cb] w fun e w' => e = .returned (.bool true) ∧ Below w.heap.size w w' := by
  refine (eqByteS_any a b n n ca cb xs xs w hx hy (by unfold maxLen; omega) (by unfold maxLen; omega)).mono ?_
  rintro e w' ⟨rfl, hb⟩
  exact ⟨by simp, hb⟩
theorem ownSe_touchP {P : Nat → Prop} {B n c : Nat} {w w' : World} {a : Option Addr} {ps : List Sc4} (h : OwnSe B w a n c ps) (ht : TouchP P w w') (hn : ∀ j, (Value.slice a n c).ownBlock = some j → ¬ P j) : OwnSe B w' a n c ps := by
  refine ⟨⟨h.row.1, ?_⟩, h.rng⟩
  rcases h.row.2 with h0 | ⟨g', cap, cur, hv, hb, hh, rest⟩
  · exact .inl h0
  · have h1 := hn g' (by rw [hv]; rfl)
    exact .inr ⟨g', cap, cur, hv, hb, (ht.block g' (Array.getElem?_eq_some_iff.1 hh).1 h1).trans hh, rest⟩
theorem own_touch0 {B n c : Nat} {w w' : World} {a : Option Addr} {bs : List Int} (h : Own B w a n c bs) (ht : Touch 0 0 w w') : Own B w' a n c bs :=
  ⟨ownsRow_touchIn (p := 0) (q := w.heap.size) h.row (fun j hj => ⟨Nat.zero_le _, (h.row.lt j hj).2⟩) (.inr (Nat.le_refl _)) ht, h.byte⟩
/-- What lies from B on stays where only what lies ahead of B turns. -/
theorem SmR.outside {B lo hi : Nat} {w w' : World} {ct : List Int} {gs : List SgP} {ts : List Sc4} {a1 : Option Addr} {n1 c1 : Nat} {a2 : Option Addr} {n2 c2 : Nat} {a3 : Option Addr} {n3 c3 : Nat} {ps : List Gq} (h : SmR B w ct gs ts a1 n1 c1 a2 n2 c2 a3 n3 c3 ps) (ht : Touch lo hi w w') (hd : w.heap.size ≤ lo ∨ hi ≤ B) : SmR B w' ct gs ts a1 n1 c1 a2 n2 c2 a3 n3 c3 ps :=
  ⟨⟨ownsRow_touchIn (p := B) (q := w.heap.size) h.cO.row (fun j hj => ⟨(h.cO.row.lt j hj).1, (h.cO.row.lt j hj).2⟩) hd ht, h.cO.byte⟩, h.gO.touchIn h.gO.inG hd ht, h.gV, ⟨ownsRow_touchIn (p := B) (q := w.heap.size) h.tO.row (fun j hj => ⟨(h.tO.row.lt j hj).1, (h.tO.row.lt j hj).2⟩) hd ht, h.tO.rng⟩, h.sep⟩
theorem SmR.inside {B lo hi p q : Nat} {w w' : World} {ct : List Int} {gs : List SgP} {ts : List Sc4} {a1 : Option Addr} {n1 c1 : Nat} {a2 : Option Addr} {n2 c2 : Nat} {a3 : Option Addr} {n3 c3 : Nat} {ps : List Gq} (h : SmR B w ct gs ts a1 n1 c1 a2 n2 c2 a3 n3 c3 ps) (h1 : ∀ j, (Value.slice a1 n1 c1).ownBlock = some j → p ≤ j ∧ j < q) (h2 : InG p q a2 n2 c2 ps) (h3 : ∀ j, (Value.slice a3 n3 c3).ownBlock = some j → p ≤ j ∧ j < q) (ht : Touch lo hi w w') (hd : q ≤ lo ∨ hi ≤ p) : SmR B w' ct gs ts a1 n1 c1 a2 n2 c2 a3 n3 c3 ps :=
  ⟨⟨ownsRow_touchIn h.cO.row h1 hd ht, h.cO.byte⟩, h.gO.touchIn h2 hd ht, h.gV, ⟨ownsRow_touchIn h.tO.row h3 hd ht, h.tO.rng⟩, h.sep⟩

set_option maxRecDepth 10000 in
set_option maxHeartbeats 8000000 in
theorem lawSignMsg_walk (HSPEC : ∀ (seed h next : Int) (am : Option Addr) (n c : Nat) (bs : List Int) (w : World), U64 seed → Row w am n bs → n ≤ 1000000000000 → Calls Tryz.prog 40 #[tkv seed h next, .slice am n c] w fun e w' => ∃ v, e = .returned v ∧ SgR seed h next bs w.heap.size w' v ∧ Below w.heap.size w w') (am : Option Addr) (nn c : Nat) (ws : List Int) (at2 : Int) (A0 : Option Addr) (n0 d0 : Nat) (ss : List Sc4) (w : World) (hr : Row w am nn ws) (hdm : nn ≤ 9223372036854775807) (hs : RowSe w A0 n0 ss) (hsm : n0 ≤ 9223372036854775807) (hat : -9223372036854775808 ≤ at2 ∧ at2 ≤ 9223372036854775807) :
    Calls Tryz.prog 3 #[.slice am nn c, .int .i64 at2, .slice A0 n0 d0] w fun e w' => e = .returned (.bool true) ∧ Below w.heap.size w w' := by
  have hc0 : Below w.heap.size w w := Below.refl _ _
  have HRM : Hid (∀ W, Below w.heap.size w W → Row W am nn ws ∧ RowSe W A0 n0 ss) := fun W hW => ⟨hr.kept (keepT hc0 hW), hs.kept (keepT hc0 hW)⟩
  have HLEN : Hid (ss.length = n0) := hs.len
  clear hr hs
  by_cases hbig : 1048576 < nn
  · have hbg : (1048576 : Int) < (nn : Int) := by omega
    go_enter Tryz.func3, Tryz.ntmps3
    go_wp2
    go_ret
    exact ⟨rfl, Below.refl _ _⟩
  have hnd : nn ≤ 1048576 := by omega
  have hbg : ¬ (1048576 : Int) < (nn : Int) := by omega
  clear hbig
  by_cases hbn : 1048576 < n0
  · have hz : (if (1048576 : Int) < (n0 : Int) then (-1 : Int) else 1048576 - n0) = -1 := if_pos (by omega)
    go_enter Tryz.func3, Tryz.ntmps3
    go_wp2_with fail
    refine (szSeS_any A0 n0 d0 _ _ hsm (by decide) (by decide)).mono ?_
    rintro e w2 ⟨rfl, hw2⟩
    have hw2 := hw2.symm
    subst hw2
    rw [hz]
    go_wp2
    go_ret
    exact ⟨rfl, Below.refl _ _⟩
  have hn0 : n0 ≤ 1048576 := by omega
  have hz : (if (1048576 : Int) < (n0 : Int) then (-1 : Int) else 1048576 - n0) = 1048576 - n0 := if_neg (by omega)
  clear hbn
  obtain ⟨V, hV⟩ : ∃ V, V = smV ws at2 ss n0 := ⟨_, rfl⟩
  have hVS := smV_small ws at2 ss n0 HLEN.out
  rw [← hV] at hVS
  obtain ⟨hVz, hVg, hVt, hVc⟩ := hVS
  have HVZ : Hid (∀ j, j < V.gs.length → (V.gs.getD j default).sg.length ≤ 1048576) := hVz
  clear hVz
  have HSP : Hid (∀ (W : World) (a b : Option Addr), Row W a nn ws → (a = none → nn = 0) → RowSe W b n0 ss → Calls Tryz.prog 5 #[.slice a nn nn, .int .i64 at2, .slice b n0 n0] W fun e w' => ∃ a1 c1 a2 c2 a3 c3, e = .returned (.tuple #[.agg #[.slice a1 V.ct.length c1, .slice a2 V.gs.length c2], .slice a3 V.ts.length c3, .int .i64 V.cd]) ∧ (∃ ps, SmR W.heap.size w' V.ct V.gs V.ts a1 V.ct.length c1 a2 V.gs.length c2 a3 V.ts.length c3 ps) ∧ Below W.heap.size W w') := by
    intro W a b h1 h2 h3
    have h4 := specSignMsg_any HSPEC a nn nn ws at2 b n0 n0 ss W h1 h2 (by omega) h3 (by omega) hat
    rw [← hV] at h4
    exact h4
  have HIM : Hid (∀ (W : World) (a b : Option Addr), Row W a nn ws → (a = none → nn = 0) → RowSe W b n0 ss → Calls Tryz.prog 8 #[.slice a nn nn, .int .i64 at2, .slice b n0 n0] W fun e w' => ∃ a1 c1 a2 c2 a3 c3, e = .returned (.tuple #[.agg #[.slice a1 V.ct.length c1, .slice a2 V.gs.length c2], .slice a3 V.ts.length c3, .int .i64 V.cd]) ∧ (∃ ps, SmR W.heap.size w' V.ct V.gs V.ts a1 V.ct.length c1 a2 V.gs.length c2 a3 V.ts.length c3 ps) ∧ Below W.heap.size W w') := by
    intro W a b h1 h2 h3
    have h4 := implSignMsg_any a nn nn ws at2 b n0 n0 ss W h1 h2 (by omega) h3 (by omega) hat
    rw [← hV] at h4
    exact h4
  clear hV HSPEC HLEN
  have t0 : (V.cd != V.cd) = false := by simp
  go_enter Tryz.func3, Tryz.ntmps3
  go_wp2_with fail
  refine (szSeS_any A0 n0 d0 _ _ hsm (by decide) (by decide)).mono ?_
  rintro e w2 ⟨rfl, hw2⟩
  have hw2 := hw2.symm
  subst hw2
  rw [hz]
  obtain ⟨lf, hlf⟩ : ∃ lf : Int, lf = 1048576 - (n0 : Int) := ⟨_, rfl⟩
  have hl0 : ¬ (lf < 0) := by omega
  rw [← hlf]
  clear hlf hz hbg
  go_wp2_with fail
  refine (toByteS_any am nn c ws _ (HRM.out _ (Below.refl _ _)).1 hnd).mono ?_
  rintro e wa ⟨aa, rfl, hoa, hba⟩
  go_wp2_with fail
  refine (toSeS_any A0 n0 d0 ss _ (HRM.out _ hba).2 hn0).mono ?_
  rintro e wb ⟨ab, rfl, hob, hbb⟩
  have hbab := keepT hba hbb
  go_wp2_with fail
  refine (HSP.out _ aa ab (hoa.kept hbb).toRow hoa.nil hob.toRow).mono ?_
  rintro e wA0 ⟨u1, u1c, u2, u2c, u3, u3c, rfl, ⟨psu, hou⟩, hbA⟩
  have hcA0 := keepT hbab hbA
  have hsA0 := hbA.size
  clear hoa hob hba hbb hbab
  obtain ⟨wA, hwA⟩ : ∃ wA, wA = wA0.alloc (.cells #[.slice u1 V.ct.length u1c, .slice u2 V.gs.length u2c] 27) := ⟨_, rfl⟩
  have hbA2 : Below wA0.heap.size wA0 wA := by rw [hwA]; exact (Below.refl _ _).alloc (Nat.le_refl _) _
  have HXN : wA.heap[wA0.heap.size]? = some (.cells #[.slice u1 V.ct.length u1c, .slice u2 V.gs.length u2c] 27 (0, 0)) := by rw [hwA]; exact heap_alloc_new wA0 _
  have HLA : Hid (Bxs [(wA0.heap.size, #[.slice u1 V.ct.length u1c, .slice u2 V.gs.length u2c], 27)] wA) := ⟨fun p hp => by
    simp only [List.mem_cons, List.not_mem_nil, or_false] at hp
    rcases hp with rfl
    exact HXN⟩
  have HSA : Hid (_) := hou.kept hbA2
  have HUI : Hid ((∀ j, (Value.slice u1 V.ct.length u1c).ownBlock = some j → wb.heap.size ≤ j ∧ j < wA0.heap.size) ∧ InG wb.heap.size wA0.heap.size u2 V.gs.length u2c psu ∧ (∀ j, (Value.slice u3 V.ts.length u3c).ownBlock = some j → wb.heap.size ≤ j ∧ j < wA0.heap.size)) := ⟨fun j hj => ⟨(hou.cO.row.lt j hj).1, (hou.cO.row.lt j hj).2⟩, hou.gO.inG, fun j hj => ⟨(hou.tO.row.lt j hj).1, (hou.tO.row.lt j hj).2⟩⟩
  have hcA := keepT hcA0 hbA2
  have hsA := hbA2.size
  have hswA := hcA.size
  have hlA : wA0.heap.size < wA.heap.size := (Array.getElem?_eq_some_iff.1 HXN).1
  have HW : Hid (_ = _) := hwA
  clear hwA HXN hou hbA2 hbA
  go_upto_region 8 with fail
  rw [← HW.out]
  clear HW
  go_wp2_with fail
  refine (toByteS_any am nn c ws _ (HRM.out _ hcA).1 hnd).mono ?_
  rintro e w4 ⟨ax, rfl, hox, hb4⟩
  have hc4 := keepT hcA hb4
  have HXL : Hid (∀ k, (Value.slice ax nn nn).ownBlock = some k → wA.heap.size ≤ k ∧ k < w4.heap.size) := fun k hk => ⟨(hox.row.lt k hk).1, (hox.row.lt k hk).2⟩
  have hs4 := hb4.size
  go_wp2_with fail
  refine (toSeS_any A0 n0 d0 ss _ (HRM.out _ hc4).2 hn0).mono ?_
  rintro e w5 ⟨ay, rfl, hoy, hb5⟩
  have hc5 := keepT hc4 hb5
  have hb45 := keepT hb4 hb5
  have HX5 : Hid (Own wA.heap.size w5 ax nn nn ws) := hox.kept hb5
  have HY5 : Hid (OwnSe w4.heap.size w5 ay n0 n0 ss) := hoy
  have HYI : Hid (In ay n0 w4.heap.size w5.heap.size) := hoy.in_
  have HL5 : Hid (_) := HLA.out.kept hb45
  have HS5 : Hid (_) := HSA.out.kept hb45
  have hs5 := hb5.size
  clear hox hoy hb4 hb5 hb45 HLA HSA
  go_wp2_with fail
  refine (HIM.out _ ax ay HX5.out.toRow HX5.out.nil HY5.out.toRow).mono ?_
  rintro e wB0 ⟨i1, i1c, i2, i2c, i3, i3c, rfl, ⟨psi, hoi⟩, hbB⟩
  have hsB0 := hbB.size
  obtain ⟨wB, hwB⟩ : ∃ wB, wB = wB0.alloc (.cells #[.slice i1 V.ct.length i1c, .slice i2 V.gs.length i2c] 27) := ⟨_, rfl⟩
  have hbB2 : Below wB0.heap.size wB0 wB := by rw [hwB]; exact (Below.refl _ _).alloc (Nat.le_refl _) _
  have HXN : Hid (wB.heap[wB0.heap.size]? = some (.cells #[.slice i1 V.ct.length i1c, .slice i2 V.gs.length i2c] 27 (0, 0))) := by show _ = _; rw [hwB]; exact heap_alloc_new wB0 _
  have hb5B := keepT hbB hbB2
  have HLB : Hid (Bxs [(wA0.heap.size, #[.slice u1 V.ct.length u1c, .slice u2 V.gs.length u2c], 27), (wB0.heap.size, #[.slice i1 V.ct.length i1c, .slice i2 V.gs.length i2c], 27)] wB) := by
    refine ⟨fun p hp => ?_⟩
    have h1 := HL5.out.kept hb5B
    simp only [List.mem_cons, List.not_mem_nil, or_false] at hp
    rcases hp with rfl | rfl
    all_goals first | exact HXN.out | exact h1.all _ (by simp)
  have HSB : Hid (_) := HS5.out.kept hb5B
  have HXB : Hid (_) := HX5.out.kept hb5B
  have HYB : Hid (_) := HY5.out.kept hb5B
  have HIB : Hid (_) := hoi.kept hbB2
  have HII : Hid (InG w5.heap.size wB0.heap.size i2 V.gs.length i2c psi ∧ (∀ k, (Value.slice i1 V.ct.length i1c).ownBlock = some k → w5.heap.size ≤ k ∧ k < wB0.heap.size) ∧ In i3 V.ts.length w5.heap.size wB0.heap.size) := ⟨hoi.gO.inG, fun k hk => ⟨(hoi.cO.row.lt k hk).1, (hoi.cO.row.lt k hk).2⟩, hoi.tO.in_⟩
  have hcB := keepT hc5 hb5B
  have hsB := hbB2.size
  have HW : Hid (_ = _) := hwB
  clear hwB HXN hoi hb5B hbB2 hbB HL5 HS5 HX5 HY5
  go_upto_region 11 with fail
  rw [← HW.out]
  clear HW
  obtain ⟨x0, x1⟩ := cells2m (HLB.out.all (wB0.heap.size, #[.slice i1 V.ct.length i1c, .slice i2 V.gs.length i2c], 27) (by simp))
  obtain ⟨y0, y1⟩ := cells2m (HLB.out.all (wA0.heap.size, #[.slice u1 V.ct.length u1c, .slice u2 V.gs.length u2c], 27) (by simp))
  go_wp2_with fail
  refine (eqMsg_same i1 V.ct.length i1c i2 V.gs.length i2c u1 u1c u2 u2c V.ct V.gs _ HIB.out.cO.toRow HSB.out.cO.toRow (by unfold maxLen; omega) (HIB.out.gO.sgs HIB.out.gV (by omega) HVZ.out) (HSB.out.gO.sgs HSB.out.gV (by omega) HVZ.out)).mono ?_
  rintro e w9a ⟨rfl, hw9a⟩
  clear x0 x1 y0 y1
  go_wp2_with fail
  refine (eqSeS_same i3 u3 V.ts.length i3c u3c V.ts _ (HIB.out.tO.kept hw9a).toRow (HSB.out.tO.kept hw9a).toRow (by omega)).mono ?_
  rintro e w9 ⟨rfl, hw9b⟩
  have hw9 := keepT hw9a hw9b
  clear hw9a hw9b
  have hc9 := keepT hcB hw9
  have HL9 : Hid (_) := HLB.out.kept hw9
  have HI9 : Hid (_) := HIB.out.kept hw9
  have HS9 : Hid (_) := HSB.out.kept hw9
  have HX9 : Hid (_) := HXB.out.kept hw9
  have HY9 : Hid (_) := HYB.out.kept hw9
  have hs9 := hw9.size
  clear HLB HIB HSB HXB HYB hw9
  go_wp2_with fail
  refine (toByteS_any am nn c ws _ (HRM.out _ hc9).1 hnd).mono ?_
  rintro e wC ⟨az, rfl, hoz, hbC⟩
  go_wp2_with fail
  refine (eqByteS_sameR ax az nn nn nn ws _ (HX9.out.kept hbC).toRow hoz.toRow hnd).mono ?_
  rintro e wD ⟨rfl, hbD⟩
  clear hoz
  have h9D := keepT hbC hbD
  have hcD := keepT hc9 h9D
  go_wp2_with fail
  refine (toSeS_any A0 n0 d0 ss _ (HRM.out _ hcD).2 hn0).mono ?_
  rintro e wE ⟨az, rfl, hoz, hbE⟩
  have hDE := keepT h9D hbE
  go_wp2_with fail
  refine (eqSeS_same ay az n0 n0 n0 ss _ (HY9.out.kept hDE).toRow hoz.toRow (by omega)).mono ?_
  rintro e wF ⟨rfl, hbF⟩
  clear hoz
  have h9F := keepT hDE hbF
  have hcF := keepT hc9 h9F
  have HLF : Hid (_) := HL9.out.kept h9F
  have HIF : Hid (_) := HI9.out.kept h9F
  have HSF : Hid (_) := HS9.out.kept h9F
  have HXF : Hid (_) := HX9.out.kept h9F
  have HYF : Hid (_) := HY9.out.kept h9F
  have hsF := h9F.size
  clear HL9 HI9 HS9 HX9 HY9 hbC hbD hbE hbF h9D hDE h9F hcD
  go_wp2_with fail
  refine (markByteS_int wA.heap.size ax nn nn 1 ws _ HXF.out (by omega) (by decide) (by decide)).mono ?_
  rintro e wG ⟨rfl, _, hgG⟩
  have htG : Touch wA.heap.size w4.heap.size wF wG := touch_gR hgG HXL.out
  have hcG : Below w.heap.size w wG := hcF.trans (htG.below (by omega) (by have := hcF.size; omega))
  have HLG : Hid (_) := HLF.out.touch htG (by simp; omega)
  have HIG : Hid (_) := HIF.out.outside htG (.inr (by omega))
  have HSG : Hid (_) := HSF.out.inside HUI.out.1 HUI.out.2.1 HUI.out.2.2 htG (.inl (by omega))
  have HYG : Hid (OwnSe w4.heap.size wG ay n0 n0 ss) := ⟨ownsRow_touchIn (p := w4.heap.size) (q := wF.heap.size) HYF.out.row (fun j hj => ⟨(HYF.out.row.lt j hj).1, (HYF.out.row.lt j hj).2⟩) (.inr (Nat.le_refl _)) htG, HYF.out.rng⟩
  have hsG := htG.size
  clear htG hgG HLF HIF HSF HXF HYF
  obtain ⟨kk, hkk⟩ : ∃ kk : Nat, kk = 1 + nn := ⟨_, rfl⟩
  have ek : (1 : Int) + (nn : Int) = ((kk : Nat) : Int) := by omega
  rw [ek]
  have hkb : kk ≤ 1048577 := by omega
  clear ek hkk
  go_wp2_with fail
  refine (markSeS_any w4.heap.size ay n0 n0 kk ss _ HYG.out (by omega) (by omega)).mono ?_
  rintro e wH ⟨rfl, _, htH0⟩
  have htH := htH0 _ _ HYI.out
  have hcH : Below w.heap.size w wH := hcG.trans (htH.below (by omega) (by have := hcG.size; omega))
  have HLH : Hid (_) := HLG.out.touch htH (by simp; omega)
  have HIH : Hid (_) := HIG.out.outside htH (.inr (by omega))
  have HSH : Hid (_) := HSG.out.inside HUI.out.1 HUI.out.2.1 HUI.out.2.2 htH (.inl (by omega))
  have hsH := htH.size
  clear htH0 htH HLG HIG HSG HYG
  obtain ⟨k2, hk2⟩ : ∃ k2 : Int, k2 = ((kk + 4 * n0 : Nat) : Int) := ⟨_, rfl⟩
  have kz : ¬ (k2 < 0) := by omega
  rw [← hk2]
  clear hk2
  obtain ⟨x0, x1⟩ := cells2m (HLH.out.all (wB0.heap.size, #[.slice i1 V.ct.length i1c, .slice i2 V.gs.length i2c], 27) (by simp))
  obtain ⟨y0, y1⟩ := cells2m (HLH.out.all (wA0.heap.size, #[.slice u1 V.ct.length u1c, .slice u2 V.gs.length u2c], 27) (by simp))
  go_wp2_with fail
  refine (eqMsg_same i1 V.ct.length i1c i2 V.gs.length i2c u1 u1c u2 u2c V.ct V.gs _ HIH.out.cO.toRow HSH.out.cO.toRow (by unfold maxLen; omega) (HIH.out.gO.sgs HIH.out.gV (by omega) HVZ.out) (HSH.out.gO.sgs HSH.out.gV (by omega) HVZ.out)).mono ?_
  rintro e wIa ⟨rfl, hwIa⟩
  clear x0 x1 y0 y1
  go_wp2_with fail
  refine (eqSeS_same i3 u3 V.ts.length i3c u3c V.ts _ (HIH.out.tO.kept hwIa).toRow (HSH.out.tO.kept hwIa).toRow (by omega)).mono ?_
  rintro e wI ⟨rfl, hwIb⟩
  have hwI := keepT hwIa hwIb
  clear hwIa hwIb
  have hcI := keepT hcH hwI
  have HLI : Hid (_) := HLH.out.kept hwI
  have HIJ : Hid (_) := HIH.out.kept hwI
  have HSI : Hid (_) := HSH.out.kept hwI
  have hsI := hwI.size
  clear HLH HIH HSH hwI
  obtain ⟨M, hM⟩ : ∃ M : Nat, M = mgNx psi V.gs.length (1 + V.ct.length) := ⟨_, rfl⟩
  have HPL : psi.length = V.gs.length := HIJ.out.gO.len
  have hlens := HIJ.out.gO.lens HIJ.out.gV HVZ.out
  have hMb : M ≤ 10000000 := by have := mgNx_bd psi V.gs.length (1 + V.ct.length) HPL hlens V.gs.length (Nat.le_refl _); omega
  have HHE : Hid (∀ W : World, Row W i1 V.ct.length (marks 1 V.ct.length) → OwnG w5.heap.size W i2 V.gs.length i2c (mgTo psi V.gs.length (1 + V.ct.length)) → Calls Tryz.prog 15 #[.agg #[.slice i1 V.ct.length i1c, .slice i2 V.gs.length i2c], .int .i64 1] W fun e w' => e = .returned (.int .i64 ((M : Nat) : Int)) ∧ Below W.heap.size W w') := fun W h1 h2 => by
    rw [hM]
    exact heldMsg_any w5.heap.size i1 V.ct.length i1c i2 V.gs.length i2c psi W h1 HPL h2 (by omega) (by omega) hlens
  have HMA : Hid (∀ W : World, w5.heap.size ≤ W.heap.size → SmR w5.heap.size W V.ct V.gs V.ts i1 V.ct.length i1c i2 V.gs.length i2c i3 V.ts.length i3c psi → Calls Tryz.prog 14 #[.agg #[.slice i1 V.ct.length i1c, .slice i2 V.gs.length i2c], .int .i64 1] W fun e w' => e = .returned (.int .i64 ((M : Nat) : Int)) ∧ Own w5.heap.size w' i1 V.ct.length i1c (marks 1 V.ct.length) ∧ OwnG w5.heap.size w' i2 V.gs.length i2c (mgTo psi V.gs.length (1 + V.ct.length)) ∧ TouchP (BlkM i1 V.ct.length i1c i2 V.gs.length i2c psi) W w') := fun W hW hR => by
    rw [hM]
    exact markMsg_any w5.heap.size i1 V.ct.length i1c V.ct i2 V.gs.length i2c psi W hW hR.cO hR.gO hR.sep (by omega) (by omega) hlens
  clear hM HPL hlens
  obtain ⟨x0, x1⟩ := cells2m (HLI.out.all (wB0.heap.size, #[.slice i1 V.ct.length i1c, .slice i2 V.gs.length i2c], 27) (by simp))
  go_wp2_with fail
  refine (HMA.out _ (by omega) HIJ.out).mono ?_
  rintro e wJ ⟨rfl, hoJ, hgJ, htJ⟩
  clear x0 x1
  have htJ2 : Touch w5.heap.size wB0.heap.size wI wJ := htJ.touch (fun k hk => by
    rcases hk with hk | hk | ⟨i, hi, hk⟩
    · exact HII.out.2.1 k hk
    · exact HII.out.1.row k hk
    · exact HII.out.1.each i hi k hk)
  have hcJ : Below w.heap.size w wJ := hcI.trans (htJ2.below (by omega) (by have := hcI.size; omega))
  have HLJ : Hid (_) := HLI.out.touch htJ2 (by simp; omega)
  have HSJ : Hid (_) := HSI.out.inside HUI.out.1 HUI.out.2.1 HUI.out.2.2 htJ2 (.inl (by omega))
  have HTJ : Hid (OwnSe w5.heap.size wJ i3 V.ts.length i3c V.ts) := ownSe_touchP HIJ.out.tO htJ (fun j hj hP => by
    have hR := HIJ.out
    rcases hP with hP | hP | ⟨i, hi, hP⟩
    · rcases blocks_apartR hR.tO.row hR.cO.row (by decide) with h | h
      · rw [h] at hj; cases hj
      · exact h (hj.trans hP.symm)
    · rcases blocks_apartR hR.tO.row hR.gO.row (by decide) with h | h
      · rw [h] at hj; cases hj
      · exact h (hj.trans hP.symm)
    · rcases blocks_apartR hR.tO.row (hR.gO.each i hi).row (by decide) with h | h
      · rw [h] at hj; cases hj
      · exact h (hj.trans hP.symm))
  have HOJ : Hid (Own w5.heap.size wJ i1 V.ct.length i1c (marks 1 V.ct.length)) := hoJ
  have HGJ : Hid (OwnG w5.heap.size wJ i2 V.gs.length i2c (mgTo psi V.gs.length (1 + V.ct.length))) := hgJ
  have hsJ := htJ2.size
  clear hoJ hgJ htJ htJ2 HLI HIJ HSI
  go_wp2_with fail
  refine (markSeS_any w5.heap.size i3 V.ts.length i3c M V.ts _ HTJ.out (by omega) hMb).mono ?_
  rintro e wK ⟨rfl, hoK, htK0⟩
  have hcK : Below w.heap.size w wK := hcJ.trans ((htK0 _ _ HII.out.2.2).below (by omega) (by have := hcJ.size; omega))
  have HLK : Hid (_) := HLJ.out.touch (htK0 _ _ HII.out.2.2) (by simp; omega)
  have HSK : Hid (_) := HSJ.out.inside HUI.out.1 HUI.out.2.1 HUI.out.2.2 (htK0 _ _ HII.out.2.2) (.inl (by omega))
  have HTK : Hid (OwnSe w5.heap.size wK i3 V.ts.length i3c (marksSe M V.ts.length)) := hoK
  have HOK : Hid (Own w5.heap.size wK i1 V.ct.length i1c (marks 1 V.ct.length) ∧ OwnG w5.heap.size wK i2 V.gs.length i2c (mgTo psi V.gs.length (1 + V.ct.length))) := by
    rcases HTJ.out.row.2 with ⟨hv, h0⟩ | ⟨g, cap, cur, hv, hb, hh, rest⟩
    · have htE : Touch 0 0 wJ wK := htK0 0 0 (fun b off _ hn => by omega)
      exact ⟨own_touch0 HOJ.out htE, HGJ.out.touchIn (p := 0) (q := wJ.heap.size) ⟨fun j hj => ⟨Nat.zero_le _, (HGJ.out.row.lt j hj).2⟩, fun i hi j hj => ⟨Nat.zero_le _, ((HGJ.out.each i hi).row.lt j hj).2⟩⟩ (.inr (Nat.le_refl _)) htE⟩
    · have htE : Touch g (g + 1) wJ wK := htK0 g (g + 1) (fun b off ha hn => by
        simp only [Value.slice.injEq] at hv
        rw [hv.1] at ha
        simp only [Option.some.injEq, Addr.mk.injEq] at ha
        omega)
      exact ⟨⟨ownsRow_box HOJ.out.row hh (by decide) htE, HOJ.out.byte⟩, HGJ.out.touched hh (by decide) (by decide) htE⟩
  have hsK := (htK0 _ _ HII.out.2.2).size
  clear hoK htK0 HLJ HSJ HTJ HOJ HGJ
  obtain ⟨MM, hMM⟩ : ∃ MM : Nat, MM = M + 4 * V.ts.length := ⟨_, rfl⟩
  have HHS : Hid (∀ W : World, RowSe W i3 V.ts.length (marksSe M V.ts.length) → Calls Tryz.prog 16 #[.slice i3 V.ts.length i3c, .int .i64 ((M : Nat) : Int)] W fun e w' => e = .returned (.int .i64 ((MM : Nat) : Int)) ∧ w' = W) := fun W hW => by
    rw [hMM]
    exact heldSeS_any i3 V.ts.length i3c M W hW (by omega) hMb
  rw [← hMM]
  clear hMM
  have tq : (((MM : Nat) : Int) != ((MM : Nat) : Int)) = false := by simp
  have tz : ¬ (((M : Nat) : Int) < 0) := by omega
  have tz2 : ¬ (((MM : Nat) : Int) < 0) := by omega
  obtain ⟨x0, x1⟩ := cells2m (HLK.out.all (wB0.heap.size, #[.slice i1 V.ct.length i1c, .slice i2 V.gs.length i2c], 27) (by simp))
  go_wp2_with fail
  refine (HHE.out _ HOK.out.1.toRow HOK.out.2).mono ?_
  rintro e wL ⟨rfl, hwL⟩
  clear x0 x1
  go_wp2_with fail
  refine (HHS.out _ (HTK.out.kept hwL).toRow).mono ?_
  rintro e wM ⟨rfl, hwM⟩
  have hwM := hwM.symm
  subst hwM
  have hcM := keepT hcK hwL
  have HLM : Hid (_) := HLK.out.kept hwL
  have HSM : Hid (_) := HSK.out.kept hwL
  have HOM : Hid (Own w5.heap.size wL i1 V.ct.length i1c (marks 1 V.ct.length) ∧ OwnG w5.heap.size wL i2 V.gs.length i2c (mgTo psi V.gs.length (1 + V.ct.length)) ∧ OwnSe w5.heap.size wL i3 V.ts.length i3c (marksSe M V.ts.length)) := ⟨HOK.out.1.kept hwL, HOK.out.2.kept hwL, HTK.out.kept hwL⟩
  clear HLK HSK HOK HTK hwL
  go_wp2_with fail
  refine (toByteS_any am nn c ws _ (HRM.out _ hcM).1 hnd).mono ?_
  rintro e wa ⟨aa, rfl, hoa, hba⟩
  go_wp2_with fail
  refine (toSeS_any A0 n0 d0 ss _ (HRM.out _ (keepT hcM hba)).2 hn0).mono ?_
  rintro e wb2 ⟨ab, rfl, hob, hbb⟩
  have hbab := keepT hba hbb
  go_wp2_with fail
  refine (HIM.out _ aa ab (hoa.kept hbb).toRow hoa.nil hob.toRow).mono ?_
  rintro e wQ0 ⟨q1, q1c, q2, q2c, q3, q3c, rfl, ⟨psq, hoq⟩, hbQ⟩
  obtain ⟨wQ, hwQ⟩ : ∃ wQ, wQ = wQ0.alloc (.cells #[.slice q1 V.ct.length q1c, .slice q2 V.gs.length q2c] 27) := ⟨_, rfl⟩
  have hbQ2 : Below wQ0.heap.size wQ0 wQ := by rw [hwQ]; exact (Below.refl _ _).alloc (Nat.le_refl _) _
  have HXN : Hid (wQ.heap[wQ0.heap.size]? = some (.cells #[.slice q1 V.ct.length q1c, .slice q2 V.gs.length q2c] 27 (0, 0))) := by show _ = _; rw [hwQ]; exact heap_alloc_new wQ0 _
  have hbLQ := keepT (keepT hbab hbQ) hbQ2
  have HLQ : Hid (Bxs [(wA0.heap.size, #[.slice u1 V.ct.length u1c, .slice u2 V.gs.length u2c], 27), (wB0.heap.size, #[.slice i1 V.ct.length i1c, .slice i2 V.gs.length i2c], 27), (wQ0.heap.size, #[.slice q1 V.ct.length q1c, .slice q2 V.gs.length q2c], 27)] wQ) := by
    refine ⟨fun p hp => ?_⟩
    have h1 := HLM.out.kept hbLQ
    simp only [List.mem_cons, List.not_mem_nil, or_false] at hp
    rcases hp with rfl | rfl | rfl
    all_goals first | exact HXN.out | exact h1.all _ (by simp)
  have HSQ : Hid (_) := HSM.out.kept hbLQ
  have HQQ : Hid (_) := hoq.kept hbQ2
  have HOQ : Hid (_) := (⟨HOM.out.1.kept hbLQ, HOM.out.2.1.kept hbLQ, HOM.out.2.2.kept hbLQ⟩ : Own w5.heap.size wQ i1 V.ct.length i1c (marks 1 V.ct.length) ∧ OwnG w5.heap.size wQ i2 V.gs.length i2c (mgTo psi V.gs.length (1 + V.ct.length)) ∧ OwnSe w5.heap.size wQ i3 V.ts.length i3c (marksSe M V.ts.length))
  have hcQ := keepT hcM hbLQ
  have HW : Hid (_ = _) := hwQ
  clear hwQ HXN hoq hoa hob hba hbb hbab hbQ hbQ2 hbLQ HLM HSM HOM
  go_upto_region 35 with fail
  rw [← HW.out]
  clear HW
  obtain ⟨x0, x1⟩ := cells2m (HLQ.out.all (wQ0.heap.size, #[.slice q1 V.ct.length q1c, .slice q2 V.gs.length q2c], 27) (by simp))
  obtain ⟨y0, y1⟩ := cells2m (HLQ.out.all (wA0.heap.size, #[.slice u1 V.ct.length u1c, .slice u2 V.gs.length u2c], 27) (by simp))
  go_wp2_with fail
  refine (eqMsg_same q1 V.ct.length q1c q2 V.gs.length q2c u1 u1c u2 u2c V.ct V.gs _ HQQ.out.cO.toRow HSQ.out.cO.toRow (by unfold maxLen; omega) (HQQ.out.gO.sgs HQQ.out.gV (by omega) HVZ.out) (HSQ.out.gO.sgs HSQ.out.gV (by omega) HVZ.out)).mono ?_
  rintro e wRa ⟨rfl, hwRa⟩
  clear x0 x1 y0 y1
  go_wp2_with fail
  refine (eqSeS_same q3 u3 V.ts.length q3c u3c V.ts _ (HQQ.out.tO.kept hwRa).toRow (HSQ.out.tO.kept hwRa).toRow (by omega)).mono ?_
  rintro e wR ⟨rfl, hwRb⟩
  have hwR := keepT hwRa hwRb
  clear hwRa hwRb
  obtain ⟨x0, x1⟩ := cells2m ((HLQ.out.kept hwR).all (wB0.heap.size, #[.slice i1 V.ct.length i1c, .slice i2 V.gs.length i2c], 27) (by simp))
  go_wp2_with fail
  refine (HHE.out _ (HOQ.out.1.kept hwR).toRow (HOQ.out.2.1.kept hwR)).mono ?_
  rintro e wS ⟨rfl, hwS⟩
  clear x0 x1
  go_wp2_with fail
  refine (HHS.out _ ((HOQ.out.2.2.kept hwR).kept hwS).toRow).mono ?_
  rintro e wT ⟨rfl, hwT⟩
  have hwT := hwT.symm
  subst hwT
  go_wp2
  go_ret
  exact ⟨rfl, keepT hc0 (keepT hcQ (keepT hwR hwS))⟩

end Go.Proofs.YtgbjleapaioemaaGreat

namespace Go.Proofs.YtgbjleapaioemaaGreat
open Go.RowKit

theorem lawSignMsg_all (am : Option Addr) (nn c : Nat) (ws : List Int) (at2 : Int) (A0 : Option Addr) (n0 d0 : Nat) (ss : List Sc4) (w : World) (hr : Row w am nn ws) (hdm : nn ≤ 9223372036854775807) (hs : RowSe w A0 n0 ss) (hsm : n0 ≤ 9223372036854775807) (hat : -9223372036854775808 ≤ at2 ∧ at2 ≤ 9223372036854775807) :
    Calls Tryz.prog 3 #[.slice am nn c, .int .i64 at2, .slice A0 n0 d0] w fun e w' => e = .returned (.bool true) ∧ Below w.heap.size w w' :=
  lawSignMsg_walk (fun seed h next am n c bs w hx hr hn => specTreeSign_any seed h next am n c bs w hx hr hn) am nn c ws at2 A0 n0 d0 ss w hr hdm hs hsm hat

end Go.Proofs.YtgbjleapaioemaaGreat

namespace Go.Proofs.YtgbjleapaioemaaGreat
open Go.ChangeShapes Go.WideShapes Go.ChangeAt Go.RowKit

set_option maxRecDepth 20000 in
theorem open_Se {H : Type} {enc : TypeId × Value → H} {W : World} {fuel : Nat} {cs : List Value} {x : DataW H × List MemPlace} (h : DataW.trod enc Tryz.prog W 0 (fun _ => true) true fuel 49 cs = some x) : ∃ y : Int × Int × Int × Int, cs = [.int .i64 y.1, .int .u64 y.2.1, .int .i64 y.2.2.1, .int .i64 y.2.2.2] ∧ (Lit.int .i64 y.1).wf = true ∧ (Lit.int .u64 y.2.1).wf = true ∧ (Lit.int .i64 y.2.2.1).wf = true ∧ (Lit.int .i64 y.2.2.2).wf = true := by
  obtain ⟨xs, m, rfl, _, hl, hxl, hf⟩ := DataW.trod_struct Tryz.underlying49 h
  have hl2 : cs.length = 4 := hl.trans (by kernel_rfl)
  have hx2 : xs.length = 4 := hxl
  obtain ⟨c0, c1, c2, c3, rfl⟩ : ∃ c0 c1 c2 c3, cs = [c0, c1, c2, c3] := by
    match cs, hl2 with
    | [c0, c1, c2, c3], _ => exact ⟨c0, c1, c2, c3, rfl⟩
  obtain ⟨x0, x1, x2, x3, rfl⟩ : ∃ c0 c1 c2 c3, xs = [c0, c1, c2, c3] := by
    match xs, hx2 with
    | [c0, c1, c2, c3], _ => exact ⟨c0, c1, c2, c3, rfl⟩
  have e_i64 : Tryz.prog.cellsOf 2 = 1 := by kernel_rfl
  have e_u64 : Tryz.prog.cellsOf 41 = 1 := by kernel_rfl
  have f0 : DataW.trod enc Tryz.prog W 0 (fun _ => true) true m 2 ((([c0, c1, c2, c3] : List Value).drop 0).take (Tryz.prog.cellsOf 2)) = some x0 := hf 0 _ rfl
  rw [e_i64] at f0
  obtain ⟨n0, g0, _, u0⟩ := DataW.trod_int Tryz.underlying2 f0
  have f1 : DataW.trod enc Tryz.prog W 0 (fun _ => true) true m 41 ((([c0, c1, c2, c3] : List Value).drop 1).take (Tryz.prog.cellsOf 41)) = some x1 := hf 1 _ rfl
  rw [e_u64] at f1
  obtain ⟨n1, g1, _, u1⟩ := DataW.trod_int Tryz.underlying41 f1
  have f2 : DataW.trod enc Tryz.prog W 0 (fun _ => true) true m 2 ((([c0, c1, c2, c3] : List Value).drop 2).take (Tryz.prog.cellsOf 2)) = some x2 := hf 2 _ rfl
  rw [e_i64] at f2
  obtain ⟨n2, g2, _, u2⟩ := DataW.trod_int Tryz.underlying2 f2
  have f3 : DataW.trod enc Tryz.prog W 0 (fun _ => true) true m 2 ((([c0, c1, c2, c3] : List Value).drop 3).take (Tryz.prog.cellsOf 2)) = some x3 := hf 3 _ rfl
  rw [e_i64] at f3
  obtain ⟨n3, g3, _, u3⟩ := DataW.trod_int Tryz.underlying2 f3
  simp at g0 g1 g2 g3
  subst g0 g1 g2 g3
  exact ⟨(n0, n1, n2, n3), rfl, u0, u1, u2, u3⟩

set_option maxRecDepth 20000 in
theorem open_Ses {H : Type} {enc : TypeId × Value → H} {W : World} {fuel : Nat} {cs : List Value} {x : DataW H × List MemPlace} (h : DataW.trod enc Tryz.prog W 0 (fun _ => true) true fuel 23 cs = some x) : ∃ a n c xs, cs = [.slice a n c] ∧ RowSe W a n xs ∧ n ≤ 9223372036854775807 ∧ ∀ j, j < n → (xs.getD j (0, 0, 0, 0)).1 ≤ 9223372036854775807 ∧ (xs.getD j (0, 0, 0, 0)).2.2.1 ≤ 9223372036854775807 ∧ (xs.getD j (0, 0, 0, 0)).2.2.2 ≤ 9223372036854775807 := by
  rcases DataW.trod_slice Tryz.underlying23 h with ⟨rfl, _⟩ | ⟨a, len, cap, elems, rest, n, rfl, rfl, _, _, hl, hm, hlen, hel, _, _⟩
  · exact ⟨none, 0, 0, [], rfl, ⟨rfl, fun k hk => absurd hk (by omega), USe.nil⟩, by decide, fun j hj => absurd hj (Nat.not_lt_zero _)⟩
  · have ec : Tryz.prog.cellsOf 49 = 4 := by kernel_rfl
    rw [ec] at hel
    have each : ∀ i, i < len → ∃ y : Int × Int × Int × Int, ∃ cs', W.cells? 0 (a.add (i * 4)) 4 = some cs' ∧ cs' = [.int .i64 y.1, .int .u64 y.2.1, .int .i64 y.2.2.1, .int .i64 y.2.2.2] ∧ (Lit.int .i64 y.1).wf = true ∧ (Lit.int .u64 y.2.1).wf = true ∧ (Lit.int .i64 y.2.2.1).wf = true ∧ (Lit.int .i64 y.2.2.2).wf = true := by
      intro i hi
      have he := hel i hi
      rw [List.getElem?_eq_getElem (by omega)] at he
      cases hc : W.cells? 0 (a.add (i * 4)) 4 with
      | none => rw [hc] at he; cases he
      | some cs' =>
        rw [hc] at he
        obtain ⟨y, hy⟩ := open_Se he
        exact ⟨y, cs', rfl, hy⟩
    obtain ⟨y, hy⟩ := Go.Deep.choose_lt each
    have hm' : len ≤ 9223372036854775807 := by unfold maxLen at hm; omega
    have ey : ∀ k, k < len → ((List.range len).map y).getD k (0, 0, 0, 0) = y k := fun k hk => by simp [hk]
    refine ⟨some a, len, cap, (List.range len).map y, rfl, ⟨by simp, fun k hk => ?_, fun k => ?_⟩, hm', fun k hk => ?_⟩
    · obtain ⟨cs', hcs, rfl, _⟩ := hy k hk
      obtain ⟨_, _, hcell⟩ := World.cells?_some hcs
      obtain ⟨b, off, spot⟩ := a
      have hs : spot = none := by
        obtain ⟨cs0, hcs0, _⟩ := hy 0 (by omega)
        obtain ⟨_, hl0, hcell0⟩ := World.cells?_some hcs0
        have h00 := hcell0 0 (by omega)
        rw [List.getElem?_eq_getElem (by omega)] at h00
        simpa [Addr.add] using World.cell?_spot h00
      subst hs
      rw [ey k hk]
      have cc : ∀ j, j < 4 → W.cell? ⟨b, off + k * 4 + j, none⟩ = [Value.int .i64 (y k).1, .int .u64 (y k).2.1, .int .i64 (y k).2.2.1, .int .i64 (y k).2.2.2][j]? := by
        intro j hj
        have := hcell j hj
        rw [Addr.add_lit, Addr.add_lit] at this
        exact this
      exact ⟨b, off, rfl, World.block_lt_of_cell? W _ (cc 0 (by omega)), cc 0 (by omega), cc 1 (by omega), cc 2 (by omega), cc 3 (by omega)⟩
    · by_cases hk : k < len
      · rw [ey k hk]
        obtain ⟨_, _, _, w0, w1, w2, w3⟩ := hy k hk
        exact bounds_u64 w1
      · have e2 : ((List.range len).map y).getD k (0, 0, 0, 0) = (0, 0, 0, 0) := by simp [hk]
        rw [e2]; simp [U64]
    · rw [ey k hk]
      obtain ⟨_, _, _, w0, w1, w2, w3⟩ := hy k hk
      exact ⟨(bounds_i64 w0).2, (bounds_i64 w2).2, (bounds_i64 w3).2⟩

end Go.Proofs.YtgbjleapaioemaaGreat

