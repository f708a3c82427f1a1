import Derived.Test.YtpnhhhhmonbajaaGreatMGb
import Derived.Test.YtpnhhhhmonbajaaGreatMMC
import Derived.Test.YtpnhhhhmonbajaaGreatMGa
set_option linter.unusedVariables false
namespace Go.Proofs.YtpnhhhhmonbajaaGreat
open Go.RowKit

/-- A message of our own: the bytes and the tree, apart. -/
structure MsgX (D : Nat) (U V : Nat → Prop) (w : World) (a1 : Option Addr) (n1 c1 : Nat) (ws : List Int) (a2 : Option Addr) (n2 c2 : Nat) (xs : List ItT) : Prop where
  ct : OwnBX U w a1 n1 c1 ws
  sg : OwnKidsX D V w a2 n2 c2 xs
  ap : ∀ b, U b → ¬ V b
theorem MsgX.kept {D : Nat} {U V : Nat → Prop} {w w' : World} {a1 : Option Addr} {n1 c1 : Nat} {ws : List Int} {a2 : Option Addr} {n2 c2 : Nat} {xs : List ItT} (h : MsgX D U V w a1 n1 c1 ws a2 n2 c2 xs) (hb : Below w.heap.size w w') : MsgX D U V w' a1 n1 c1 ws a2 n2 c2 xs :=
  ⟨h.ct.touch (P := fun _ => False) (fun _ _ h => h) (TouchX.of_below hb), h.sg.kept hb, h.ap⟩
theorem MsgX.move {D : Nat} {U V P : Nat → Prop} {w w' : World} {a1 : Option Addr} {n1 c1 : Nat} {ws : List Int} {a2 : Option Addr} {n2 c2 : Nat} {xs : List ItT} (h : MsgX D U V w a1 n1 c1 ws a2 n2 c2 xs) (hU : ∀ b, U b → ¬ P b) (hV : ∀ b, V b → ¬ P b) (ht : TouchX P w w') : MsgX D U V w' a1 n1 c1 ws a2 n2 c2 xs :=
  ⟨h.ct.touch hU ht, ownKids_movesX D _ _ _ _ _ _ _ _ h.sg hV ht, h.ap⟩

set_option maxRecDepth 10000 in
set_option maxHeartbeats 4000000 in
theorem l17Copy_any (D : Nat) (a1 : Option Addr) (n1 c1 : Nat) (ws : List Int) (a2 : Option Addr) (n2 c2 : Nat) (xs : List ItT) (w : World) (hr : Row w a1 n1 ws) (hnl : a1 = none → c1 = 0) (hn : n1 ≤ 1048576) (hk : KidsT D w a2 n2 xs) (hw : wtST D xs ≤ 1048576) :
    Calls Tryz.prog 18 #[.agg #[.slice a1 n1 c1, .slice a2 n2 c2]] w fun e w' => ∃ b1 d1 b2 d2 U V, e = .returned (.agg #[.slice b1 n1 d1, .slice b2 n2 d2]) ∧ MsgX D U V w' b1 n1 d1 ws b2 n2 d2 xs ∧ (∀ b, U b → w.heap.size ≤ b ∧ b < w'.heap.size) ∧ (∀ b, V b → w.heap.size ≤ b ∧ b < w'.heap.size) ∧ Below w.heap.size w w' := by
  obtain ⟨j0, ji, jz0, jz1, jz2⟩ := info_parts Tryz.info5
  obtain ⟨wy, hwy⟩ : ∃ wy, wy = (w.alloc (.cells #[.slice a1 n1 c1, .slice a2 n2 c2] 32)).alloc (.cells #[.slice none 0 0, .slice none 0 0] 32) := ⟨_, rfl⟩
  have hby : Below w.heap.size w wy := by rw [hwy]; exact ((Below.refl _ _).alloc (Nat.le_refl _) _).alloc (by simp) _
  have HYB : Hid (wy.heap[w.heap.size]? = some (.cells #[.slice a1 n1 c1, .slice a2 n2 c2] 32 (0, 0)) ∧ wy.heap[w.heap.size + 1]? = some (.cells #[.slice none 0 0, .slice none 0 0] 32 (0, 0))) := by show _ ∧ _; rw [hwy]; exact two_blocksT w _ _
  have hys : wy.heap.size = w.heap.size + 2 := by rw [hwy]; simp
  have hbE : Below wy.heap.size wy (wy.alloc (.cells #[] 5)) := (Below.refl _ _).alloc (Nat.le_refl _) _
  have HRY : Hid (Row (wy.alloc (.cells #[] 5)) a1 n1 ws) := (hr.kept hby).kept hbE
  have HKX : Hid (KidsT D w a2 n2 xs) := hk
  have HE : Hid (Own wy.heap.size (wy.alloc (.cells #[] 5)) (some ⟨w.heap.size + 1 + 1, 0, none⟩) 0 0 []) := by show Own _ _ _ _ _ _; exact own_zeroE _ _ _ (by omega) (Nat.le_refl _)
  have HWY : Hid (_ = _) := hwy
  obtain ⟨x0, x1⟩ := cells2m (below_kept HYB.out.1 hbE)
  clear hwy hr hk
  go_enter Tryz.func18, Tryz.ntmps18
  go_upto_region 1 with fail
  rw [← HWY.out]
  clear HWY
  have HYS : Hid (_ = _) := hys
  clear hys
  go_upto_region 2 with (at_builtin; go_loud ((refine wpList_append_row _ rfl _ _ 22 rfl wy.heap.size j0 Tryz.underlying22 ji jz0 jz1 jz2 _ _ _ (by rw [HYS.out]; rfl) HE.out.row a1 n1 c1 ws rfl HRY.out hnl (by omega) hbE.size ?_); intro v4 w4 hv4 hg4; obtain ⟨a4, c4, rfl, ho4⟩ := own_appended (xs := []) (ys := ws) hv4 HE.out.byte HRY.out.byte; have hb4 : Below wy.heap.size wy w4 := below_appended hbE hbE.size HE.out.row hg4; have HO4 : Hid (Own wy.heap.size w4 a4 n1 c4 ws) := (by show Own _ _ _ _ _ _; simpa using ho4); have H4 : Hid (w4.heap[w.heap.size]? = some (.cells #[.slice a1 n1 c1, .slice a2 n2 c2] 32 (0, 0)) ∧ w4.heap[w.heap.size + 1]? = some (.cells #[.slice none 0 0, .slice none 0 0] 32 (0, 0))) := ⟨below_kept HYB.out.1 hb4, below_kept HYB.out.2 hb4⟩; clear hv4 hg4 ho4 x0 x1; obtain ⟨x0, x1⟩ := cells2m H4.out.1; have f0 := frozen_of_row w4 _ 0 _ _ H4.out.1))
  have hys := HYS.out
  obtain ⟨w5, hw5⟩ : ∃ w5, w5 = w4.setCell ⟨w.heap.size, 0, none⟩ (.slice a4 n1 c4) := ⟨_, rfl⟩
  have ht5 : Touch w.heap.size (w.heap.size + 1) w4 w5 := by rw [hw5]; exact touch_setT _ _ _ _ (Nat.le_refl _) (Nat.lt_succ_self _)
  have H5 : Hid (w5.heap[w.heap.size]? = some (.cells #[.slice a4 n1 c4, .slice a2 n2 c2] 32 (0, 0)) ∧ w5.heap[w.heap.size + 1]? = some (.cells #[.slice none 0 0, .slice none 0 0] 32 (0, 0))) := ⟨by rw [hw5]; exact heap_setCell_same w4 _ 0 _ _ _ H4.out.1, touch_kept ht5 H4.out.2 (by omega)⟩
  have ho5 : Own wy.heap.size w5 a4 n1 c4 ws := ⟨ownsRow_box HO4.out.row H4.out.1 (by decide) ht5, HO4.out.byte⟩
  have hb4w : Below w.heap.size w w4 := hby.trans (hb4.mono hby.size)
  have hb5 : Below w.heap.size w w5 := hb4w.trans (ht5.below (Nat.le_refl _) hb4w.size)
  have HU5 : Hid (OwnBX (fun z => wy.heap.size ≤ z ∧ z < w5.heap.size) w5 a4 n1 c4 ws) := ⟨ho5.mono (Nat.zero_le _), fun z hz => ho5.row.lt z hz⟩
  have HK5 : Hid (KidsT D w5 a2 n2 xs) := by
    exact (HKX.out).kept hb5
  have HW5 : Hid (_ = _) := hw5
  clear hw5 H4 HO4 HRY HE HYB hbE hb4 hb4w ht5 ho5 hys
  rw [← HW5.out]
  clear HW5 x0 x1 f0
  obtain ⟨x0, x1⟩ := cells2m H5.out.1
  go_wp2_with fail
  refine (copyS_all D a2 n2 c2 xs w5 HK5.out hw).mono ?_
  rintro e w6 ⟨⟨v, rfl, a3, cc3, rfl, hV, bV0⟩, hb6⟩
  have hys := HYS.out
  have h6 := below_kept H5.out.1 hb6
  have h6r := below_kept H5.out.2 hb6
  have hs5 : wy.heap.size ≤ w5.heap.size := by have := (Array.getElem?_eq_some_iff.1 H5.out.2).1; omega
  have hs6 := hb6.size
  clear x0 x1
  obtain ⟨x0, x1⟩ := cells2m h6
  have f1 := frozen_of_row w6 _ 1 _ _ h6
  obtain ⟨w7, hw7⟩ : ∃ w7, w7 = w6.setCell ⟨w.heap.size, 1, none⟩ (.slice a3 n2 cc3) := ⟨_, rfl⟩
  have ht7 : Touch w.heap.size (w.heap.size + 1) w6 w7 := by rw [hw7]; exact touch_setT _ _ _ _ (Nat.le_refl _) (Nat.lt_succ_self _)
  have h7 : w7.heap[w.heap.size]? = some (.cells #[.slice a4 n1 c4, .slice a3 n2 cc3] 32 (0, 0)) := by rw [hw7]; exact heap_setCell_same w6 _ 1 _ _ _ h6
  have h7r := touch_kept ht7 h6r (by omega)
  have hs7 := ht7.size
  have HM7 : Hid (MsgX D (fun z => wy.heap.size ≤ z ∧ z < w5.heap.size) (fun z => w5.heap.size ≤ z ∧ z < w6.heap.size) w7 a4 n1 c4 ws a3 n2 cc3 xs) :=
    MsgX.move (P := fun b => w.heap.size ≤ b ∧ b < w.heap.size + 1) ⟨HU5.out.touch (P := fun _ => False) (fun _ _ h => h) (TouchX.of_below hb6), hV, fun z hz h2 => by have := hz.2; have := h2.1; omega⟩ (fun z hz h2 => by have := hz.1; omega) (fun z hz h2 => by have := hz.1; omega) ht7.toX
  have hb7 : Below w.heap.size w w7 := (hb5.trans (hb6.mono hb5.size)).trans (ht7.below (Nat.le_refl _) (by have := hb5.size; omega))
  have HW7 : Hid (_ = _) := hw7
  have HS : Hid (wy.heap.size = w.heap.size + 2 ∧ wy.heap.size ≤ w5.heap.size ∧ w5.heap.size ≤ w6.heap.size ∧ w6.heap.size ≤ w7.heap.size) := ⟨hys, hs5, hs6, hs7⟩
  clear hw7 hV bV0 hb6 ht7 h6 h6r hys hs5 hs6 hs7 H5 HU5 HK5
  go_upto_region 3 with fail
  rw [← HW7.out]
  clear HW7 x0 x1 f1
  obtain ⟨x0, x1⟩ := cells2m h7
  obtain ⟨y0, y1⟩ := cells2m h7r
  have f0 := frozen_of_row w7 _ 0 _ _ h7r
  have f1 := frozen_of_row w7 _ 1 _ _ h7r
  go_wp2
  try simp only [Exit.inBlock, Exit.then]
  have q1 := heap_setCell_same _ (w.heap.size + 1) 0 _ _ (.slice a4 n1 c4) h7r
  have q2 := heap_setCell_same _ (w.heap.size + 1) 1 _ _ (.slice a3 n2 cc3) q1
  have tt : Touch (w.heap.size + 1) (w.heap.size + 1 + 1) w7 ((w7.setCell ⟨w.heap.size + 1, 0, none⟩ (.slice a4 n1 c4)).setCell ⟨w.heap.size + 1, 1, none⟩ (.slice a3 n2 cc3)) := (touch_setT _ _ _ _ (by omega) (by omega)).trans (touch_setT _ _ _ _ (by omega) (by omega))
  obtain ⟨s1, s2, s3, s4⟩ := HS.out
  have s5 := tt.size
  exact bodyPost_ret (results_msg rfl _ (w.heap.size + 1) rfl _ _ q2 rfl) rfl ⟨a4, c4, a3, cc3, _, _, rfl, HM7.out.move (fun z hz h2 => by have := hz.1; omega) (fun z hz h2 => by have := hz.1; omega) tt.toX, fun z hz => ⟨by have := hz.1; omega, by have := hz.2; omega⟩, fun z hz => ⟨by have := hz.1; omega, by have := hz.2; omega⟩, hb7.trans (tt.below (by omega) hb7.size)⟩

end Go.Proofs.YtpnhhhhmonbajaaGreat

set_option linter.unusedVariables false
namespace Go.Proofs.YtpnhhhhmonbajaaGreat
open Go.RowKit

def HeldST (d : Nat) : Prop := ∀ (a : Option Addr) (n cap : Nat) (xs : List ItT) (k : Nat) (K : Int) (w : World), K = (k : Int) → KidsT d w a n (mkST d xs k).1 → k + 3 * wtST d xs ≤ 100000000 →
    Calls Tryz.prog 33 #[.slice a n cap, .int .i64 K] w fun e w' => e = .returned (.int .i64 ((mkST d xs k).2 : Nat)) ∧ Below w.heap.size w w'

set_option maxRecDepth 10000 in
set_option maxHeartbeats 2000000 in
theorem heldS_nextT (d : Nat) (ih : HeldST d) : HeldST (d + 1) := by
  intro a n cap xs k K w hKk hk hwt
  subst hKk
  have hlen : xs.length = n := by have := hk.1; simp [mkST, mkKT] at this; exact this
  have HLN : Hid (xs.length = n) := hlen
  have HW : Hid (k + 3 * (n + wtPT d xs n) ≤ 100000000) := by show _ ≤ _; rw [wtS_succT, hlen] at hwt; exact hwt
  have hn9 : n ≤ 100000000 := by have := HW.out; omega
  have HK : Hid (KidsT (d + 1) w a n (mkST (d + 1) xs k).1) := hk
  clear hk hwt hlen
  go_enter Tryz.func33, Tryz.ntmps33
  go_wp2
  go_loopw [1, 5] (fun kk i wr => ∃ j q : Nat, j ≤ n ∧ i = .int .i64 j ∧ kk = .int .i64 q ∧ Hid (q = kkAtT (mkST d) xs k j) ∧ Below w.heap.size w wr) (fun _ i _ => n - (intOf i).toNat)
  case atStart => exact ⟨0, k, Nat.zero_le _, rfl, rfl, rfl, Below.refl _ _⟩
  case round =>
    obtain ⟨j, q, hj, rfl, rfl, HQ, hbr⟩ := hrel
    have hkl := kkAt_leT d xs k j (by rw [HLN.out]; omega)
    rw [← HQ.out] at hkl
    by_cases hjn : j < n
    · obtain ⟨b, off, rfl, hlb, ab1, nb1, cb1, ak1, nk1, ck1, c0, c1, c3, c4, hr1, hn1, hm1, hu1, hk1⟩ := HK.out.2.2 j hjn
      have hnx := wtP_nextT d xs j (by rw [HLN.out]; exact hjn)
      have hle := wtP_leT d xs (j + 1)
      rw [HLN.out] at hle
      obtain ⟨y, hy⟩ : ∃ y, y = xs.getD j default := ⟨_, rfl⟩
      have hg : ((mkST (d + 1) xs k).1).getD j default = .mk (q : Int) ((q : Int) + 1) (marks (q + 2) y.sg.length) (mkST d y.over (q + 2 + y.sg.length)).1 := by
        show ((List.range xs.length).map fun j => (mkItemT (mkST d) (xs.getD j default) (kkAtT (mkST d) xs k j)).1).getD j default = _
        have hj' : j < xs.length := by rw [HLN.out]; exact hjn
        rw [hy, HQ.out]
        simp [hj', mkItemT]
      rw [hg] at c0 c1 hr1 hk1
      replace c0 : w.cell? ⟨b, off + j * 4, none⟩ = some (.int .u64 (q : Int)) := c0
      replace c1 : w.cell? ⟨b, off + j * 4 + 1, none⟩ = some (.int .i64 ((q : Int) + 1)) := c1
      replace hr1 : Row w ab1 nb1 (marks (q + 2) y.sg.length) := hr1
      replace hk1 : KidsT d w ak1 nk1 (mkST d y.over (q + 2 + y.sg.length)).1 := hk1
      have hbl : y.sg.length = nb1 := by have := hr1.len; rw [marks_len] at this; exact this
      rw [← hy, hbl] at hnx
      rw [hbl] at hr1 hk1
      have hqk : q + 2 + nb1 + 3 * wtST d y.over ≤ 100000000 := by have := HW.out; omega
      have hkj : (mkST d y.over (q + 2 + nb1)).2 = kkAtT (mkST d) xs k (j + 1) := by
        show _ = (mkItemT (mkST d) (xs.getD j default) (kkAtT (mkST d) xs k j)).2
        rw [← hy, ← HQ.out, mkItemT, hbl]
      have cc : ∀ i, wr.cell? ⟨b, i, none⟩ = w.cell? ⟨b, i, none⟩ := fun i => hbr.cell (p := ⟨b, i, none⟩) hlb
      rw [← cc] at c0 c1 c3 c4
      have HKJ : Hid (_ = _) := hkj
      have R1 : Hid (_) := hr1.kept hbr
      have K1 : Hid (_) := hk1.kept hbr
      have hji : (j : Int) < (n : Int) := by omega
      have t0 : ((q : Int) != (q : Int)) = false := by simp
      have t1 : ((q : Int) + 1 != (q : Int) + 1) = false := by simp
      have hs := hbr.size
      have vq : IntKind.u64.wrap (q : Int) = (q : Int) := by rw [IntKind.wrap_u64]; omega
      clear cc hy hg hnx hle hkj hr1 hk1
      go_wp2_with fail
      have htn : ((q : Int) + 1 + 1).toNat = q + 2 := by omega
      refine (heldByteS_int ab1 nb1 cb1 ((q : Int) + 1 + 1) wr (by rw [htn]; exact R1.out) (by omega) (by omega) (by omega)).mono ?_
      rintro e w1 ⟨rfl, rfl⟩
      have g0 : ¬ (q : Int) + 1 + 1 + (nb1 : Int) < 0 := by omega
      go_wp2_with fail
      refine (ih ak1 nk1 ck1 y.over (q + 2 + nb1) _ _ (by omega) K1.out hqk).mono ?_
      rintro e w2 ⟨rfl, hb2⟩
      have hb2' : Below w.heap.size w w2 := hbr.trans (hb2.mono hs)
      have hq4 := mkS_leT d y.over (q + 2 + nb1)
      obtain ⟨q2, hq2⟩ : ∃ q2, q2 = (mkST d y.over (q + 2 + nb1)).2 := ⟨_, rfl⟩
      rw [← hq2] at hq4 ⊢
      have HQ2 : Hid (q2 = kkAtT (mkST d) xs k (j + 1)) := hq2.trans HKJ.out
      have g1 : ¬ (q2 : Int) < 0 := by omega
      clear hq2 htn
      go_wp2
      go_roundw
      case rel => exact ⟨j + 1, q2, by omega, by go_num, rfl, HQ2, hb2'⟩
      case measure => simp [intOf]; omega
    · obtain rfl : n = j := by omega
      have hq9 : q ≤ 100000000 := by have := HW.out; omega
      have hE : Hid ((mkST (d + 1) xs k).2 = q) := by show kkAtT (mkST d) xs k xs.length = q; rw [HLN.out, ← HQ.out]
      clear hkl
      go_wp2
      go_ret
      exact ⟨by rw [hE.out]; rfl, hbr⟩

theorem heldS_allT (d : Nat) : HeldST d := by
  induction d with
  | zero => intro a n cap xs k K w _ h; exact h.elim
  | succ d ih => exact heldS_nextT d ih

end Go.Proofs.YtpnhhhhmonbajaaGreat

set_option linter.unusedVariables false
namespace Go.Proofs.YtpnhhhhmonbajaaGreat
open Go.RowKit

set_option maxRecDepth 10000 in
set_option maxHeartbeats 2000000 in
theorem markMsgX_any (D : Nat) (U V : Nat → Prop) (a1 : Option Addr) (n1 c1 : Nat) (ws : List Int) (a2 : Option Addr) (n2 c2 : Nat) (xs : List ItT) (w : World) (h : MsgX D U V w a1 n1 c1 ws a2 n2 c2 xs) (hU : ∀ b, U b → b < w.heap.size) (hV : ∀ b, V b → b < w.heap.size) (hn : n1 ≤ 1048576) (hw : wtST D xs ≤ 2000000) :
    Calls Tryz.prog 11 #[.agg #[.slice a1 n1 c1, .slice a2 n2 c2], .int .i64 1] w fun e w' => e = .returned (.int .i64 ((mkST D xs (1 + n1)).2 : Nat)) ∧ MsgX D U V w' a1 n1 c1 (marks 1 n1) a2 n2 c2 (mkST D xs (1 + n1)).1 ∧ TouchX (fun b => U b ∨ V b) w w' := by
  obtain ⟨w1, hw1⟩ : ∃ w1, w1 = w.alloc (.cells #[.slice a1 n1 c1, .slice a2 n2 c2] 32) := ⟨_, rfl⟩
  have hbb : Below w.heap.size w w1 := by rw [hw1]; exact (Below.refl _ _).alloc (Nat.le_refl _) _
  have HN : Hid (w1.heap[w.heap.size]? = some (.cells #[.slice a1 n1 c1, .slice a2 n2 c2] 32 (0, 0))) := by show _ = _; rw [hw1]; exact heap_alloc_new w _
  have hlt : w.heap.size < w1.heap.size := (Array.getElem?_eq_some_iff.1 HN.out).1
  have HM : Hid (MsgX D U V w1 a1 n1 c1 ws a2 n2 c2 xs) := h.kept hbb
  have HW : Hid (_ = _) := hw1
  obtain ⟨x0, x1⟩ := cells2m HN.out
  clear hw1 h
  go_enter Tryz.func11, Tryz.ntmps11
  go_upto_region 1 with fail
  rw [← HW.out]
  clear HW
  go_wp2_with fail
  refine (markByteS_int 0 a1 n1 c1 1 ws _ HM.out.ct.own (by omega) (by decide) (by decide)).mono ?_
  rintro e w2 ⟨rfl, ho2, hg2⟩
  have t2 : TouchX U w1 w2 := HM.out.ct.wrote hg2
  have hn2 : w2.heap[w.heap.size]? = some (.cells #[.slice a1 n1 c1, .slice a2 n2 c2] 32 (0, 0)) := (t2.block _ hlt (fun hb => by have := hU _ hb; omega)).trans HN.out
  have HU2 : Hid (OwnBX U w2 a1 n1 c1 (marks 1 n1)) := ⟨ho2, HM.out.ct.lt⟩
  have HK2 : Hid (OwnKidsX D V w2 a2 n2 c2 xs) := ownKids_movesX D _ _ _ _ _ _ _ _ HM.out.sg (fun b hv hu => HM.out.ap b hu hv) t2
  have HAP : Hid (∀ b, U b → ¬ V b) := HM.out.ap
  clear x0 x1 ho2 hg2 HM
  obtain ⟨x0, x1⟩ := cells2m hn2
  go_wp2_with fail
  refine (markS_allX D V a2 n2 c2 xs (1 + n1) ((1 : Int) + (n1 : Int)) _ (by omega) HK2.out (by omega)).mono ?_
  rintro e w3 ⟨rfl, ho3, t3⟩
  have hle := mkS_leT D xs (1 + n1)
  have HF : Hid (MsgX D U V w3 a1 n1 c1 (marks 1 n1) a2 n2 c2 (mkST D xs (1 + n1)).1 ∧ TouchX (fun b => U b ∨ V b) w w3) := ⟨⟨HU2.out.touch HAP.out t3, ho3, HAP.out⟩, ((TouchX.of_below hbb).trans (t2.mono (fun _ h => .inl h))).trans (t3.mono (fun _ h => .inr h))⟩
  obtain ⟨K, hK⟩ : ∃ K : Nat, K = (mkST D xs (1 + n1)).2 := ⟨_, rfl⟩
  rw [← hK] at hle ⊢
  have HKE : Hid (_ = _) := hK
  clear x0 x1 hK t2 t3 ho3 HU2 HK2
  go_wp2
  go_ret
  exact ⟨by rw [← HKE.out]; rfl, HF.out.1, HF.out.2⟩

set_option maxRecDepth 10000 in
set_option maxHeartbeats 2000000 in
theorem heldMsgX_any (D : Nat) (a1 : Option Addr) (n1 c1 : Nat) (a2 : Option Addr) (n2 c2 : Nat) (xs : List ItT) (w : World) (ho : Row w a1 n1 (marks 1 n1)) (hk : KidsT D w a2 n2 (mkST D xs (1 + n1)).1) (hn : n1 ≤ 1048576) (hw : wtST D xs ≤ 2000000) :
    Calls Tryz.prog 12 #[.agg #[.slice a1 n1 c1, .slice a2 n2 c2], .int .i64 1] w fun e w' => e = .returned (.int .i64 ((mkST D xs (1 + n1)).2 : Nat)) ∧ Below w.heap.size w w' := by
  obtain ⟨w1, hw1⟩ : ∃ w1, w1 = w.alloc (.cells #[.slice a1 n1 c1, .slice a2 n2 c2] 32) := ⟨_, rfl⟩
  have hbb : Below w.heap.size w w1 := by rw [hw1]; exact (Below.refl _ _).alloc (Nat.le_refl _) _
  have HN : Hid (w1.heap[w.heap.size]? = some (.cells #[.slice a1 n1 c1, .slice a2 n2 c2] 32 (0, 0))) := by show _ = _; rw [hw1]; exact heap_alloc_new w _
  have HO : Hid (Row w1 a1 n1 (marks (1 : Int).toNat n1)) := ho.kept hbb
  have HG : Hid (KidsT D w1 a2 n2 (mkST D xs (1 + n1)).1) := hk.kept hbb
  have HW : Hid (_ = _) := hw1
  obtain ⟨x0, x1⟩ := cells2m HN.out
  clear hw1 ho hk
  go_enter Tryz.func12, Tryz.ntmps12
  go_upto_region 1 with fail
  rw [← HW.out]
  clear HW
  go_wp2_with fail
  refine (heldByteS_int a1 n1 c1 1 _ HO.out (by omega) (by decide) (by decide)).mono ?_
  rintro e w2 ⟨rfl, hw2⟩
  have hw2 := hw2.symm
  subst hw2
  have tz : ¬ ((1 : Int) + (n1 : Int) < 0) := by omega
  go_wp2_with fail
  refine (heldS_allT D a2 n2 c2 xs (1 + n1) ((1 : Int) + (n1 : Int)) _ (by omega) HG.out (by omega)).mono ?_
  rintro e w3 ⟨rfl, hb3⟩
  have hle := mkS_leT D xs (1 + n1)
  clear x0 x1
  obtain ⟨K, hK⟩ : ∃ K : Nat, K = (mkST D xs (1 + n1)).2 := ⟨_, rfl⟩
  rw [← hK] at hle ⊢
  have tz2 : ¬ (((K : Nat) : Int) < 0) := by omega
  have HKE : Hid (_ = _) := hK
  clear hK
  go_wp2
  go_ret
  exact ⟨by rw [← HKE.out]; rfl, hbb.trans (hb3.mono hbb.size)⟩

end Go.Proofs.YtpnhhhhmonbajaaGreat

