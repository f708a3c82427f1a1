import Derived.Test.YtmhijbcbckljmaaGreatMRb
import Derived.Test.YtmhijbcbckljmaaGreatMSB
import Derived.Test.YtmhijbcbckljmaaGreatTS2
import Derived.Test.YtmhijbcbckljmaaGreatMRa
import Derived.Deep.Slices
import Derived.ChangeArms
import Derived.ChangeSlices
import Derived.WalkKit
import Derived.ProofKit
import Derived.OpenShut
set_option linter.unusedVariables false
namespace Go.Proofs.YtmhijbcbckljmaaGreat
open Go.RowKit Go.Sort

/-- A stamp with numbers of our own, from k on. -/
def mkSq (k : Nat) (p : Sq) : Sq := (p.1, ⟨(k : Nat), ((k + 1 : Nat) : Int), ((k + 2 : Nat) : Int), ((k + 3 : Nat) : Int), marks (k + 4) p.1.2.1⟩)
def mkTo : List Sq → Nat → Nat → List Sq
  | [], _, _ => []
  | p :: ps, 0, _ => p :: ps
  | p :: ps, i + 1, k => mkSq k p :: mkTo ps i (k + 4 + p.1.2.1)
def mkNx : List Sq → Nat → Nat → Nat
  | [], _, k => k
  | _ :: _, 0, k => k
  | p :: ps, i + 1, k => mkNx ps i (k + 4 + p.1.2.1)
theorem mkTo_zero (ps : List Sq) (k : Nat) : mkTo ps 0 k = ps := by cases ps <;> rfl
theorem mkNx_zero (ps : List Sq) (k : Nat) : mkNx ps 0 k = k := by cases ps <;> rfl
theorem mkTo_len : ∀ (ps : List Sq) (i k : Nat), (mkTo ps i k).length = ps.length
  | [], _, _ => rfl
  | _ :: _, 0, _ => rfl
  | p :: ps, i + 1, k => by simp [mkTo, mkTo_len ps i]
theorem mkTo_next : ∀ (ps : List Sq) (i k : Nat), i < ps.length → mkTo ps (i + 1) k = (mkTo ps i k).set i (mkSq (mkNx ps i k) (ps.getD i sq0)) ∧ mkNx ps (i + 1) k = mkNx ps i k + 4 + (ps.getD i sq0).1.2.1 ∧ (mkTo ps i k).getD i sq0 = ps.getD i sq0
  | [], _, _, h => absurd h (Nat.not_lt_zero _)
  | p :: ps, 0, k, _ => by simp [mkTo, mkNx, mkTo_zero, mkNx_zero]
  | p :: ps, i + 1, k, h => by
    obtain ⟨h1, h2, h3⟩ := mkTo_next ps i (k + 4 + p.1.2.1) (by simpa using h)
    refine ⟨?_, ?_, ?_⟩
    · show mkSq k p :: mkTo ps (i + 1) (k + 4 + p.1.2.1) = _
      rw [h1]
      simp [mkTo, mkNx]
    · show mkNx ps (i + 1) (k + 4 + p.1.2.1) = _
      rw [h2]
      simp [mkNx]
    · simp only [mkTo, List.getD_cons_succ]
      exact h3
theorem mkTo_fst : ∀ (ps : List Sq) (i k j : Nat), ((mkTo ps i k).getD j sq0).1 = (ps.getD j sq0).1
  | [], _, _, _ => rfl
  | _ :: _, 0, _, _ => rfl
  | p :: ps, i + 1, k, 0 => rfl
  | p :: ps, i + 1, k, j + 1 => by simp only [mkTo, List.getD_cons_succ]; exact mkTo_fst ps i _ j
/-- The blocks of a row of stamps lie between lo and hi. -/
structure InS (lo hi : Nat) (a : Option Addr) (n cap : Nat) (ps : List Sq) : Prop where
  row : ∀ j, (Value.slice a n cap).ownBlock = some j → lo ≤ j ∧ j < hi
  each : ∀ i, i < n → ∀ j, (rqv (ps.getD i sq0).1).ownBlock = some j → lo ≤ j ∧ j < hi
theorem flat_set4 : ∀ (ps : List Sq) (i : Nat) (u0 u1 u2 u3 : Int), i < ps.length → (ps.set i ((ps.getD i sq0).1, ⟨u0, u1, u2, u3, (ps.getD i sq0).2.sg⟩)).flatMap st5 = ((((ps.flatMap st5).set (i * 5) (.int .i64 u0)).set (i * 5 + 1) (.int .u64 u1)).set (i * 5 + 2) (.int .i64 u2)).set (i * 5 + 3) (.int .u64 u3)
  | [], _, _, _, _, _, h => absurd h (Nat.not_lt_zero _)
  | p :: ps, 0, u0, u1, u2, u3, _ => by simp [st5]
  | p :: ps, i + 1, u0, u1, u2, u3, h => by
    have ih := flat_set4 ps i u0 u1 u2 u3 (by simpa using h)
    have e : (st5 p).length = 5 := rfl
    have hs : ∀ (l : List Value) (j : Nat) (v : Value), (st5 p ++ l).set ((i + 1) * 5 + j) v = st5 p ++ l.set (i * 5 + j) v := fun l j v => by
      rw [List.set_append_right _ _ (by rw [e]; omega), e, show (i + 1) * 5 + j - 5 = i * 5 + j by omega]
    have hs0 := fun l v => hs l 0 v
    simp only [Nat.add_zero] at hs0
    simp only [List.getD_cons_succ, List.set_cons_succ, List.flatMap_cons]
    rw [ih, hs0, hs, hs, hs]
def put4 (w : World) (g o : Nat) (u0 u1 u2 u3 : Int) : World := (((w.setCell ⟨g, o, none⟩ (.int .i64 u0)).setCell ⟨g, o + 1, none⟩ (.int .u64 u1)).setCell ⟨g, o + 2, none⟩ (.int .i64 u2)).setCell ⟨g, o + 3, none⟩ (.int .u64 u3)
theorem OwnS.numbered {B : Nat} {w : World} {g n cap : Nat} {ps : List Sq} (h : OwnS B w (some ⟨g, 0, none⟩) n cap ps) {i : Nat} (hi : i < n) (u0 u1 u2 u3 : Int) (h1 : U64 u1) (h3 : U64 u3) : OwnS B (put4 w g (i * 5) u0 u1 u2 u3) (some ⟨g, 0, none⟩) n cap (ps.set i ((ps.getD i sq0).1, ⟨u0, u1, u2, u3, (ps.getD i sq0).2.sg⟩)) ∧ w.grownBy (put4 w g (i * 5) u0 u1 u2 u3) (some g) := by
  have hl := h.len
  have s1 := h.row.stored (i * 5) (.int .i64 u0)
  have s2 := s1.1.stored (i * 5 + 1) (.int .u64 u1)
  have s3 := s2.1.stored (i * 5 + 2) (.int .i64 u2)
  have s4 := s3.1.stored (i * 5 + 3) (.int .u64 u3)
  have hg : w.grownBy (put4 w g (i * 5) u0 u1 u2 u3) (some g) := ((s1.2.trans s2.2).trans s3.2).trans s4.2
  refine ⟨⟨by rw [flat_set4 ps i u0 u1 u2 u3 (by omega)]; exact s4.1, by simp [hl], fun j hj => ?_, fun x y l hx hy e1 e2 => ?_, fun j hj => ?_⟩, hg⟩
  · have ho : Own B (put4 w g (i * 5) u0 u1 u2 u3) (ps.getD j sq0).1.1 (ps.getD j sq0).1.2.1 (ps.getD j sq0).1.2.2 (ps.getD j sq0).2.sg := ⟨(h.each j hj).row.kept hg (blocks_apartR (h.each j hj).row h.row (by decide)), (h.each j hj).byte⟩
    rw [set_at ps i j _ (by omega)]
    by_cases e : j = i
    · subst e; rw [if_pos rfl]; exact ho
    · rw [if_neg e]; exact ho
  · have hat : ∀ j, j < n → ((ps.set i ((ps.getD i sq0).1, ⟨u0, u1, u2, u3, (ps.getD i sq0).2.sg⟩)).getD j sq0).1 = (ps.getD j sq0).1 := fun j hj => by
      rw [set_at ps i j _ (by omega)]
      by_cases e : j = i
      · rw [if_pos e, e]
      · rw [if_neg e]
    exact h.apart x y l hx hy (by rw [← hat x hx]; exact e1) (by rw [← hat y hy]; exact e2)
  · rw [set_at ps i j _ (by omega)]
    by_cases e : j = i
    · rw [if_pos e]; exact ⟨h1, h3⟩
    · rw [if_neg e]; exact h.rng j hj

end Go.Proofs.YtmhijbcbckljmaaGreat

set_option linter.unusedVariables false
namespace Go.Proofs.YtmhijbcbckljmaaGreat
open Go.RowKit Go.Sort

set_option maxRecDepth 10000 in
set_option maxHeartbeats 400000 in
theorem markByteS_wide (B : Nat) (a : Option Addr) (n cap k : Nat) (bs : List Int) (w : World) (h : Own B w a n cap bs) (hn : n ≤ 1000000000) (hk : k ≤ 1000000000000000) :
    Calls Tryz.prog 13 #[.slice a n cap, .int .i64 k] w fun e w' => e = .returned (.int .i64 (k + n : Nat)) ∧ Own B w' a n cap (marks k n) ∧ w.grownBy w' (Value.slice a n cap).ownBlock := by
  have HL : Hid (bs.length = n) := h.length
  have H0 : Hid (Own B w a n cap bs) := h
  clear h
  go_enter Tryz.func13, Tryz.ntmps13
  go_wp2
  go_loopw [1, 5] (fun kk i wr => ∃ j : Nat, j ≤ n ∧ i = .int .i64 j ∧ kk = .int .i64 (k + j : Nat) ∧ Own B wr a n cap (mkd bs k j) ∧ w.grownBy wr (Value.slice a n cap).ownBlock) (fun _ i _ => n - (intOf i).toNat)
  case atStart => exact ⟨0, Nat.zero_le _, rfl, rfl, by rw [mkd_zero]; exact H0.out, World.grownBy.refl _ _⟩
  case round =>
    obtain ⟨j, hj, rfl, rfl, hor, hgr⟩ := hrel
    by_cases hlt : j < n
    · obtain ⟨g, rfl⟩ := hor.shape (by omega)
      have hfr : wr.frozen? ⟨g, j, none⟩ = false := hor.row.frozenAt j
      obtain ⟨y, hy⟩ : ∃ y, wr.cell? ⟨g, j, none⟩ = some y := ⟨_, (hor.row.cellAt j (by omega)).trans (List.getElem?_eq_getElem (by simp [mkd_len bs k j (by have := HL.out; omega), HL.out]; exact hlt))⟩
      have hs := hor.store j (((k + j : Nat) : Int) % 256) (by omega)
      rw [mkd_set bs k j (by have := HL.out; omega)] at hs
      have hg2 := grown_trans hgr (hor.row.stored j (.int .u8 (((k + j : Nat) : Int) % 256))).2
      clear hor hgr
      have e0 : ((k + j : Nat) : Int) = (k : Int) + (j : Int) := by omega
      have HS : Hid (Own B (wr.setCell ⟨g, j, none⟩ (.int .u8 (((k + j : Nat) : Int) % 256))) (some ⟨g, 0, none⟩) n cap (mkd bs k (j + 1))) := hs
      have HG : Hid (w.grownBy (wr.setCell ⟨g, j, none⟩ (.int .u8 (((k + j : Nat) : Int) % 256))) (Value.slice (some ⟨g, 0, none⟩) n cap).ownBlock) := hg2
      clear hs hg2 e0
      go_wp2
      go_roundw
      case rel => exact ⟨j + 1, by omega, by go_num, by go_num, by have := HS.out; rw [Int.natCast_add] at this; exact this, by have := HG.out; rw [Int.natCast_add] at this; exact this⟩
      case measure => simp [intOf]; omega
    · have hjn : j = n := by omega
      subst hjn
      go_wp2
      go_ret
      exact ⟨rfl, by rw [← HL.out, mkd_all, HL.out] at hor; exact hor, hgr⟩

theorem markByteS_intw (B : Nat) (a : Option Addr) (n cap : Nat) (k : Int) (bs : List Int) (w : World) (h : Own B w a n cap bs) (hn : n ≤ 1000000000) (hk0 : 0 ≤ k) (hk : k ≤ 1000000000000000) :
    Calls Tryz.prog 13 #[.slice a n cap, .int .i64 k] w fun e w' => e = .returned (.int .i64 (k + n)) ∧ Own B w' a n cap (marks k.toNat n) ∧ w.grownBy w' (Value.slice a n cap).ownBlock := by
  obtain ⟨m, rfl⟩ := Int.eq_ofNat_of_zero_le hk0
  refine (markByteS_wide B a n cap m bs w h hn (by omega)).mono ?_
  rintro e w' ⟨rfl, h1, h2⟩
  exact ⟨by rw [Int.natCast_add], by rw [Int.toNat_natCast]; exact h1, h2⟩

theorem mkNx_bd (ps : List Sq) (n k : Nat) (hl : ps.length = n) (hs : ∀ j, j < n → (ps.getD j sq0).1.2.1 ≤ 1048576) : ∀ i, i ≤ n → mkNx ps i k ≤ k + 1048580 * i
  | 0, _ => by rw [mkNx_zero]; omega
  | i + 1, hi => by
    have h1 := mkNx_bd ps n k hl hs i (by omega)
    have h2 := (mkTo_next ps i k (by omega)).2.1
    have h3 := hs i (by omega)
    rw [h2]
    omega
theorem touch_gR {w w' : World} {row : Option Nat} {lo hi : Nat} (hg : w.grownBy w' row) (hr : ∀ k, row = some k → lo ≤ k ∧ k < hi) : Touch lo hi w w' :=
  ⟨hg.os, hg.tape, hg.output, hg.size, fun k hk ho => hg.block k hk (fun e => by have := hr k e.symm; omega)⟩
theorem touch_rR (lo hi : Nat) (w : World) : Touch lo hi w w := ⟨rfl, rfl, rfl, Nat.le_refl _, fun _ _ _ => rfl⟩

set_option maxRecDepth 10000 in
set_option maxHeartbeats 4000000 in
theorem markStampS_any (B lo hi : Nat) (a : Option Addr) (n cap k : Nat) (ps : List Sq) (w : World) (h : OwnS B w a n cap ps) (hn : n ≤ 1048576) (hs : ∀ j, j < n → (ps.getD j sq0).1.2.1 ≤ 1048576) (hk : k ≤ 10000000) (hin : InS lo hi a n cap ps) :
    Calls Tryz.prog 14 #[.slice a n cap, .int .i64 k] w fun e w' => e = .returned (.int .i64 (mkNx ps n k : Nat)) ∧ OwnS B w' a n cap (mkTo ps n k) ∧ Touch lo hi w w' := by
  have HO : Hid (OwnS B w a n cap ps) := h
  have HL : Hid (ps.length = n) := h.len
  have HS : Hid (∀ j, j < n → (ps.getD j sq0).1.2.1 ≤ 1048576) := hs
  have HIN : Hid (InS lo hi a n cap ps) := hin
  clear h hs hin
  go_enter Tryz.func14, Tryz.ntmps14
  go_wp2
  go_loopw [1, 5] (fun q i wr => ∃ (j : Nat), j ≤ n ∧ i = .int .i64 j ∧ q = .int .i64 (mkNx ps j k : Nat) ∧ Hid (OwnS B wr a n cap (mkTo ps j k)) ∧ Touch lo hi w wr) (fun _ i _ => n - (intOf i).toNat)
  case atStart => exact ⟨0, Nat.zero_le _, rfl, by rw [mkNx_zero], by show OwnS _ _ _ _ _ _; rw [mkTo_zero]; exact HO.out, touch_rR _ _ _⟩
  case round =>
    obtain ⟨j, hj, rfl, rfl, HR, htr⟩ := hrel
    by_cases hlt : j < n
    · obtain ⟨p, hp⟩ : ∃ p, p = ps.getD j sq0 := ⟨_, rfl⟩
      obtain ⟨hN1, hN2, hN3⟩ := mkTo_next ps j k (by rw [HL.out]; exact hlt)
      have hkb := mkNx_bd ps n k HL.out HS.out j hj
      have hsj := HS.out j hlt
      have hej := HIN.out.each j hlt
      obtain ⟨kk, hkk⟩ : ∃ kk, kk = mkNx ps j k := ⟨_, rfl⟩
      rw [← hkk, ← hp] at hN1 hN2
      rw [← hp] at hN3 hsj hej
      rw [← hkk] at hkb
      rw [← hkk]
      clear hkk hp
      obtain ⟨⟨a1, n1, d1⟩, x⟩ := p
      obtain ⟨g, rfl, hgl, hcl⟩ := HR.out.cells hlt
      have hlen : j < (mkTo ps j k).length := by rw [mkTo_len, HL.out]; exact hlt
      have f0 := HR.out.row.frozenAt (j * 5)
      have f1 := HR.out.row.frozenAt (j * 5 + 1)
      have f2 := HR.out.row.frozenAt (j * 5 + 2)
      have f3 := HR.out.row.frozenAt (j * 5 + 3)
      rw [Nat.zero_add, hN3] at hcl
      obtain ⟨c0, c1, c2, c3, c4⟩ := hcl
      have hjn : (j : Int) < (n : Int) := by omega
      have v1 : IntKind.u64.wrap ((kk : Int) + 1) = (kk : Int) + 1 := by rw [IntKind.wrap_u64]; omega
      have v3 : IntKind.u64.wrap ((kk : Int) + 1 + 1 + 1) = (kk : Int) + 1 + 1 + 1 := by rw [IntKind.wrap_u64]; omega
      obtain ⟨w4, hw4⟩ : ∃ w4, w4 = put4 wr g (j * 5) (kk : Int) ((kk : Int) + 1) ((kk : Int) + 1 + 1) ((kk : Int) + 1 + 1 + 1) := ⟨_, rfl⟩
      obtain ⟨h4, hg4⟩ := HR.out.numbered hlt (kk : Int) ((kk : Int) + 1) ((kk : Int) + 1 + 1) ((kk : Int) + 1 + 1 + 1) (by constructor <;> omega) (by constructor <;> omega)
      rw [← hw4] at h4 hg4
      rw [hN3] at h4
      have HW : Hid (w4 = (((wr.setCell ⟨g, j * 5, none⟩ (.int .i64 (kk : Int))).setCell ⟨g, j * 5 + 1, none⟩ (.int .u64 ((kk : Int) + 1))).setCell ⟨g, j * 5 + 2, none⟩ (.int .i64 ((kk : Int) + 1 + 1))).setCell ⟨g, j * 5 + 3, none⟩ (.int .u64 ((kk : Int) + 1 + 1 + 1))) := hw4
      obtain ⟨ps4, hps4⟩ : ∃ ps4, ps4 = (mkTo ps j k).set j ((a1, n1, d1), ⟨(kk : Int), (kk : Int) + 1, (kk : Int) + 1 + 1, (kk : Int) + 1 + 1 + 1, x.sg⟩) := ⟨_, rfl⟩
      have hat4 : ps4.getD j sq0 = ((a1, n1, d1), ⟨(kk : Int), (kk : Int) + 1, (kk : Int) + 1 + 1, (kk : Int) + 1 + 1 + 1, x.sg⟩) := by rw [hps4, set_at _ _ _ _ hlen, if_pos rfl]
      have h4' : OwnS B w4 (some ⟨g, 0, none⟩) n cap ps4 := by rw [hps4]; exact h4
      have HO4 : Hid (Own B w4 a1 n1 d1 x.sg) := by have h1 := h4'.each j hlt; rw [hat4] at h1; exact h1
      have hc4 : w4.cell? ⟨g, j * 5 + 4, none⟩ = some (.slice a1 n1 d1) := by
        obtain ⟨g', hg', _, h1⟩ := h4'.cells hlt
        cases hg'
        rw [Nat.zero_add, hat4] at h1
        obtain ⟨_, _, _, _, h2⟩ := h1
        exact h2
      have H4 : Hid (OwnS B w4 (some ⟨g, 0, none⟩) n cap ps4) := h4'
      have HE4 : Hid (ps4.set j (putSg (ps4.getD j sq0) (marks (kk + 4) n1)) = mkTo ps (j + 1) k) := by
        show _ = _
        rw [hN1, hat4, hps4, List.set_set]
        simp [mkSq, putSg, Int.add_assoc]
      have HA4 : Hid (ps4.getD j sq0 = ((a1, n1, d1), ⟨(kk : Int), (kk : Int) + 1, (kk : Int) + 1 + 1, (kk : Int) + 1 + 1 + 1, x.sg⟩)) := hat4
      have ht4 : Touch lo hi w w4 := htr.trans (touch_gR hg4 (fun l hl => HIN.out.row l hl))
      have HN2 : Hid (mkNx ps (j + 1) k = kk + 4 + n1) := hN2
      have HEJ : Hid (∀ l, (Value.slice a1 n1 d1).ownBlock = some l → lo ≤ l ∧ l < hi) := hej
      have hs1 : n1 ≤ 1048576 := hsj
      clear h4 h4' hg4 hps4 hat4 hw4 hN1 hN2 hN3 hej hsj c4
      go_upto_region 12 with fail
      rw [← HW.out]
      clear HW c0 c1 c2 c3 f0 f1 f2 f3
      go_wp2_with fail
      refine (markByteS_intw B a1 n1 d1 ((kk : Int) + 1 + 1 + 1 + 1) x.sg _ HO4.out (by omega) (by omega) (by omega)).mono ?_
      rintro e w5 ⟨rfl, ho5, hg5⟩
      have hk4 : ((kk : Int) + 1 + 1 + 1 + 1).toNat = kk + 4 := by omega
      rw [hk4] at ho5
      have H5 : Hid (OwnS B w5 (some ⟨g, 0, none⟩) n cap (mkTo ps (j + 1) k)) := by
        show OwnS _ _ _ _ _ _
        rw [← HE4.out]
        exact H4.out.turned hlt (by rw [HA4.out]; exact ho5) (by rw [HA4.out]; exact hg5)
      have ht5 : Touch lo hi w w5 := ht4.trans (touch_gR hg5 HEJ.out)
      clear ho5 hg5 hc4
      go_wp2
      go_roundw
      case rel => exact ⟨j + 1, by omega, by go_num, by rw [HN2.out]; simp [Int.add_assoc], H5, ht5⟩
      case measure => simp [intOf]; omega
    · obtain rfl : j = n := by omega
      go_wp2
      go_ret
      exact ⟨rfl, HR.out, htr⟩

end Go.Proofs.YtmhijbcbckljmaaGreat

set_option linter.unusedVariables false
namespace Go.Proofs.YtmhijbcbckljmaaGreat
open Go.RowKit Go.Sort

theorem mkTo_at : ∀ (ps : List Sq) (i k j : Nat), j < i → j < ps.length → (mkTo ps i k).getD j sq0 = mkSq (mkNx ps j k) (ps.getD j sq0)
  | [], _, _, _, _, h => absurd h (Nat.not_lt_zero _)
  | p :: ps, 0, _, _, h, _ => absurd h (Nat.not_lt_zero _)
  | p :: ps, i + 1, k, 0, _, _ => rfl
  | p :: ps, i + 1, k, j + 1, h, h2 => by
    simp only [mkTo, List.getD_cons_succ]
    rw [mkTo_at ps i _ j (by omega) (by simpa using h2)]
    rfl

set_option maxRecDepth 10000 in
set_option maxHeartbeats 4000000 in
theorem heldStampS_any (B : Nat) (a : Option Addr) (n cap k : Nat) (ps : List Sq) (w : World) (hl : ps.length = n) (h : OwnS B w a n cap (mkTo ps n k)) (hn : n ≤ 100) (hs : ∀ j, j < n → (ps.getD j sq0).1.2.1 ≤ 1048576) (hk : k ≤ 10000000) :
    Calls Tryz.prog 15 #[.slice a n cap, .int .i64 k] w fun e w' => e = .returned (.int .i64 (mkNx ps n k : Nat)) ∧ Below w.heap.size w w' := by
  have HR : Hid (OwnS B w a n cap (mkTo ps n k)) := h
  have HL : Hid (ps.length = n) := hl
  have HS : Hid (∀ j, j < n → (ps.getD j sq0).1.2.1 ≤ 1048576) := hs
  clear h hs hl
  go_enter Tryz.func15, Tryz.ntmps15
  go_wp2
  go_loopw [1, 5] (fun q i wr => ∃ (j : Nat), j ≤ n ∧ i = .int .i64 j ∧ q = .int .i64 (mkNx ps j k : Nat) ∧ wr = w) (fun _ i _ => n - (intOf i).toNat)
  case atStart => exact ⟨0, Nat.zero_le _, rfl, by rw [mkNx_zero], rfl⟩
  case round =>
    obtain ⟨j, hj, rfl, rfl, hwr⟩ := hrel
    subst hwr
    by_cases hlt : j < n
    · have hN2 := (mkTo_next ps j k (by rw [HL.out]; exact hlt)).2.1
      have hA := mkTo_at ps n k j hlt (by rw [HL.out]; exact hlt)
      have hkb := mkNx_bd ps n k HL.out HS.out j hj
      have hsj := HS.out j hlt
      obtain ⟨kk, hkk⟩ : ∃ kk, kk = mkNx ps j k := ⟨_, rfl⟩
      obtain ⟨p, hp⟩ : ∃ p, p = ps.getD j sq0 := ⟨_, rfl⟩
      rw [← hkk, ← hp] at hN2 hA
      rw [← hp] at hsj
      rw [← hkk] at hkb
      rw [← hkk]
      clear hkk hp
      obtain ⟨⟨a1, n1, d1⟩, x⟩ := p
      obtain ⟨g, rfl, hgl, hcl⟩ := HR.out.cells hlt
      have ho := (HR.out.each j hlt).toRow
      rw [hA] at ho
      rw [Nat.zero_add, hA] at hcl
      obtain ⟨c0, c1, c2, c3, c4⟩ := hcl
      have HO : Hid (Row wr a1 n1 (marks ((kk : Int) + 1 + 1 + 1 + 1).toNat n1)) := by
        show Row _ _ _ _
        rw [show ((kk : Int) + 1 + 1 + 1 + 1).toNat = kk + 4 by omega]
        exact ho
      have y0 : wr.cell? ⟨g, j * 5, none⟩ = some (.int .i64 (kk : Int)) := c0
      have y1 : wr.cell? ⟨g, j * 5 + 1, none⟩ = some (.int .u64 ((kk : Int) + 1)) := c1
      have y2 : wr.cell? ⟨g, j * 5 + 2, none⟩ = some (.int .i64 ((kk : Int) + 1 + 1)) := c2.trans (by simp [mkSq, Int.add_assoc])
      have y3 : wr.cell? ⟨g, j * 5 + 3, none⟩ = some (.int .u64 ((kk : Int) + 1 + 1 + 1)) := c3.trans (by simp [mkSq, Int.add_assoc])
      have y4 : wr.cell? ⟨g, j * 5 + 4, none⟩ = some (.slice a1 n1 d1) := c4
      have hjn : (j : Int) < (n : Int) := by omega
      have v1 : IntKind.u64.wrap ((kk : Int) + 1) = (kk : Int) + 1 := by rw [IntKind.wrap_u64]; omega
      have v3 : IntKind.u64.wrap ((kk : Int) + 1 + 1 + 1) = (kk : Int) + 1 + 1 + 1 := by rw [IntKind.wrap_u64]; omega
      have HN2 : Hid (mkNx ps (j + 1) k = kk + 4 + n1) := hN2
      have hs1 : n1 ≤ 1048576 := hsj
      have hz : ¬ ((kk : Int) + 1 + 1 + 1 + 1 + (n1 : Int) < 0) := by omega
      clear ho c0 c1 c2 c3 c4 hN2 hA hsj
      go_wp2_with fail
      refine (heldByteS_int a1 n1 d1 ((kk : Int) + 1 + 1 + 1 + 1) _ HO.out (by omega) (by omega) (by omega)).mono ?_
      rintro e w5 ⟨rfl, hw5⟩
      subst hw5
      clear y0 y1 y2 y3 y4
      go_wp2
      go_roundw
      case rel => exact ⟨j + 1, by omega, by go_num, by rw [HN2.out]; simp [Int.add_assoc], trivial⟩
      case measure => simp [intOf]; omega
    · obtain rfl : j = n := by omega
      go_wp2
      go_ret
      exact ⟨rfl, Below.refl _ _⟩

end Go.Proofs.YtmhijbcbckljmaaGreat

set_option linter.unusedVariables false
namespace Go.Proofs.YtmhijbcbckljmaaGreat
open Go.RowKit Go.Sort

theorem rq_more (qs : List Rq) (q : Rq) (j : Nat) (hj : j < qs.length) : (qs ++ [q]).getD j rq0 = qs.getD j rq0 := by simp [List.getElem?_append, hj]
theorem rq_last (qs : List Rq) (q : Rq) (k : Nat) (h : qs.length = k) : (qs ++ [q]).getD k rq0 = q := by subst h; simp
def StPre2 (w : World) (g k : Nat) (xs : List StP) : Prop := ∃ qs : List Rq, qs.length = k ∧ (∀ j, j < k → CellsSt w g (j * 5) (qs.getD j rq0).1 (qs.getD j rq0).2.1 (qs.getD j rq0).2.2 (xs.getD j default) ∧ Own (g + 1) w (qs.getD j rq0).1 (qs.getD j rq0).2.1 (qs.getD j rq0).2.2 (xs.getD j default).sg ∧ ((qs.getD j rq0).2.1 ≤ 1048576 ∧ (qs.getD j rq0).2.1 = (qs.getD j rq0).2.2) ∧ (U64 (xs.getD j default).dg ∧ U64 (xs.getD j default).ky)) ∧ ∀ i j l, i < k → j < k → (rqv (qs.getD i rq0)).ownBlock = some l → (rqv (qs.getD j rq0)).ownBlock = some l → i = j
theorem stPre2_zero (w : World) (g : Nat) (xs : List StP) : StPre2 w g 0 xs := ⟨[], rfl, fun _ hj => absurd hj (Nat.not_lt_zero _), fun _ _ _ hi => absurd hi (Nat.not_lt_zero _)⟩
theorem stPre2_own {w : World} {g n : Nat} {vs : List Value} {xs : List StP} (h : w.ownsRow g 45 5 (.slice (some ⟨g, 0, none⟩) n n) n vs) (hl : xs.length = n) (hp : StPre2 w g n xs) : ∃ ps, OwnS g w (some ⟨g, 0, none⟩) n n ps ∧ xsOf ps = xs ∧ ∀ j, j < n → (ps.getD j sq0).1.2.1 ≤ 1048576 ∧ (ps.getD j sq0).1.2.1 = (ps.getD j sq0).1.2.2 := by
  obtain ⟨qs, hql, hqe, hqa⟩ := hp
  have hat : ∀ j, j < n → ((List.range n).map fun j => ((qs.getD j rq0, xs.getD j default) : Sq)).getD j sq0 = (qs.getD j rq0, xs.getD j default) := fun j hj => by simp [hj]
  obtain ⟨ps, hps⟩ : ∃ ps, ps = (List.range n).map fun j => ((qs.getD j rq0, xs.getD j default) : Sq) := ⟨_, rfl⟩
  rw [← hps] at hat
  have hpl : ps.length = n := by rw [hps]; simp
  have hvl : vs.length = n * 5 := h.1
  have hvs : vs = ps.flatMap st5 := by
    apply List.ext_getElem?
    intro m
    by_cases hm : m < n * 5
    · have hd : m / 5 < n := by omega
      have hm5 : m / 5 * 5 + m % 5 = m := by omega
      have h1 := flat_at ps (m / 5) (m % 5) (by omega) (by omega)
      rw [hm5, hat _ hd] at h1
      rw [h1, ← h.cellAt m hm]
      have hc := (hqe (m / 5) hd).1
      rcases (show m % 5 = 0 ∨ m % 5 = 1 ∨ m % 5 = 2 ∨ m % 5 = 3 ∨ m % 5 = 4 by omega) with e | e | e | e | e
      · rw [e]; rw [show m = m / 5 * 5 by omega]; rw [show m / 5 * 5 / 5 = m / 5 by omega]; exact hc.c0
      · rw [e]; conv => lhs; rw [show m = m / 5 * 5 + 1 by omega]
        exact hc.c1
      · rw [e]; conv => lhs; rw [show m = m / 5 * 5 + 2 by omega]
        exact hc.c2
      · rw [e]; conv => lhs; rw [show m = m / 5 * 5 + 3 by omega]
        exact hc.c3
      · rw [e]; conv => lhs; rw [show m = m / 5 * 5 + 4 by omega]
        exact hc.c4
    · rw [List.getElem?_eq_none (by omega), List.getElem?_eq_none (by rw [flat_len]; omega)]
  refine ⟨ps, ⟨by rw [← hvs]; exact h, hpl, fun j hj => ?_, fun i j l hi hj h1 h2 => ?_, fun j hj => ?_⟩, ?_, fun j hj => ?_⟩
  · rw [hat j hj]; exact ((hqe j hj).2.1).mono (by omega)
  · rw [hat i hi] at h1; rw [hat j hj] at h2; exact hqa i j l hi hj h1 h2
  · rw [hat j hj]; exact (hqe j hj).2.2.2
  · apply List.ext_getElem?
    intro m
    rw [hps]
    by_cases hm : m < n
    · simp [xsOf, hm, hl]
    · simp [xsOf, hm, hl]
  · rw [hat j hj]; exact (hqe j hj).2.2.1

set_option maxRecDepth 10000 in
set_option maxHeartbeats 4000000 in
theorem toStampS_own (K : Nat → Nat → Prop) (a : Option Addr) (n cap : Nat) (xs : List StP) (w : World) (h : Sts K w a n xs) (hn : n ≤ 1048576) (hz : ∀ k, k < n → (xs.getD k default).sg.length ≤ 1048576) :
    Calls Tryz.prog 7 #[.slice a n cap] w fun e w' => ∃ a', e = .returned (.slice a' n n) ∧ (∃ ps, OwnS w.heap.size w' a' n n ps ∧ xsOf ps = xs ∧ ∀ j, j < n → (ps.getD j sq0).1.2.1 ≤ 1048576 ∧ (ps.getD j sq0).1.2.1 = (ps.getD j sq0).1.2.2) ∧ Below w.heap.size w w' := by
  obtain ⟨i0, hi, hz0, hz1, hz2⟩ := info_parts Tryz.infoSt
  have HK : Hid (Sts K w a n xs) := h
  have HZ : Hid (∀ k, k < n → (xs.getD k default).sg.length ≤ 1048576) := hz
  have hlen : Hid (xs.length = n) := h.len
  clear h hz
  go_enter Tryz.func7, Tryz.ntmps7
  go_wp2_with (first | (at_make; refine wpList_make_full _ rfl _ _ 28 rfl w.heap.size 45 i0 _ 5 Tryz.underlying28 hi hz0 hz1 _ _ _ _ n rfl rfl rfl rfl (by rw [hz2]; omega) (by unfold maxLen; omega) (by exact Nat.le_refl _) ?_; intro w1 hown hgrow))
  have hbl : Below w.heap.size w w1 := (Below.refl _ _).grown hgrow (Nat.le_refl _) (by simp)
  clear hgrow hi hz0 hz1 hz2
  go_loopw [4] (fun i wr => ∃ k : Nat, k ≤ n ∧ i = .int .i64 k ∧ Hid (∃ vs, wr.ownsRow w.heap.size 45 5 (.slice (some ⟨w.heap.size, 0, none⟩) n n) n vs) ∧ Hid (StPre2 wr w.heap.size k xs) ∧ Below w.heap.size w wr) (fun i _ => n - (intOf i).toNat)
  case atStart => exact ⟨0, Nat.zero_le _, rfl, ⟨_, hown⟩, stPre2_zero _ _ _, hbl⟩
  case round =>
    obtain ⟨k, hk, rfl, HOR, HPRE, hbr⟩ := hrel
    obtain ⟨vs, hor⟩ := HOR.out
    have hgl := (hor.lt _ rfl).2
    have HOV : Hid (_) := hor
    clear HOR hor hown hbl
    by_cases hkn : k < n
    · obtain ⟨b, off, a1, n1, d1, rfl, hlb, hc, hp, hm, hu, _⟩ := HK.out.get k hkn
      have hgp := HZ.out k hkn
      obtain ⟨y, hy⟩ : ∃ y, y = xs.getD k default := ⟨_, rfl⟩
      rw [← hy] at hc hp hgp hu
      have HY : Hid (y = xs.getD k default) := hy
      have HU : Hid (U64 y.dg ∧ U64 y.ky) := hu
      have hn1 : n1 ≤ 1048576 := by rw [← hp.len]; exact hgp
      obtain ⟨c0, c1, c2, c3, c4⟩ := hc.of (w' := wr) (fun i => hbr.cell (p := ⟨b, i, none⟩) hlb)
      have HP : Hid (Row wr a1 n1 y.sg) := hp.kept hbr
      have hkni : (k : Int) < (n : Int) := by omega
      have hsz := hbr.size
      clear hc hy hp hgp hu
      go_wp2_with fail
      refine (toStamp_any y a1 n1 d1 _ HP.out hn1).mono ?_
      rintro e w2 ⟨p1, rfl, hp2, hb2⟩
      have hor2 : w2.ownsRow w.heap.size 45 5 (.slice (some ⟨w.heap.size, 0, none⟩) n n) n vs := ownsRow_below HOV.out hb2
      have hs2 := hb2.size
      have fr : ∀ j, w2.frozen? ⟨w.heap.size, j, none⟩ = false := fun j => hor2.frozenAt j
      have hvl : vs.length = n * 5 := hor2.1
      have cx : ∀ j, j < n * 5 → ∃ z, w2.cell? ⟨w.heap.size, j, none⟩ = some z := fun j hj => ⟨_, (hor2.cellAt j hj).trans (List.getElem?_eq_getElem (by omega))⟩
      obtain ⟨z0, x0⟩ := cx (k * 5) (by omega)
      obtain ⟨z1, x1⟩ := cx (k * 5 + 1) (by omega)
      obtain ⟨z2, x2⟩ := cx (k * 5 + 2) (by omega)
      obtain ⟨z3, x3⟩ := cx (k * 5 + 3) (by omega)
      obtain ⟨z4, x4⟩ := cx (k * 5 + 4) (by omega)
      have f0 := fr (k * 5)
      have f1 := fr (k * 5 + 1)
      have f2 := fr (k * 5 + 2)
      have f3 := fr (k * 5 + 3)
      have f4 := fr (k * 5 + 4)
      have hS := putSt_is hor2 k hkn p1 n1 n1 y
      have hT := putSt_touch w2 w.heap.size (k * 5) (.int .i64 y.alg) (.int .u64 y.dg) (.int .i64 y.at2) (.int .u64 y.ky) (.slice p1 n1 n1)
      have hP : StPre2 (putSt w2 w.heap.size (k * 5) (.int .i64 y.alg) (.int .u64 y.dg) (.int .i64 y.at2) (.int .u64 y.ky) (.slice p1 n1 n1)) w.heap.size (k + 1) xs := by
        obtain ⟨qs, hql, hqe, hqa⟩ := HPRE.out
        have hx := hS.old
        refine ⟨qs ++ [(p1, n1, n1)], by simp [hql], fun j hj => ?_, fun i j l hi hj h1 h2 => ?_⟩
        · by_cases hjk : j = k
          · subst hjk
            rw [rq_last qs _ j hql, ← HY.out]
            exact ⟨hS.cells, (hp2.mono (show w.heap.size + 1 ≤ wr.heap.size by omega)).touch5 hT (Nat.le_refl _), ⟨hn1, rfl⟩, HU.out⟩
          · rw [rq_more qs _ j (by omega)]
            obtain ⟨q2', q3, q4⟩ := hqe j (by omega)
            have q2 := q2'.of (w' := w2) (fun i => hb2.cell (p := ⟨w.heap.size, i, none⟩) hgl)
            exact ⟨⟨(hx _ (by omega) (by omega)).trans q2.c0, (hx _ (by omega) (by omega)).trans q2.c1, (hx _ (by omega) (by omega)).trans q2.c2, (hx _ (by omega) (by omega)).trans q2.c3, (hx _ (by omega) (by omega)).trans q2.c4⟩, (q3.kept hb2).touch5 hT (Nat.le_refl _), q4⟩
        · by_cases ei : i = k
          · by_cases ej : j = k
            · omega
            · rw [ei, rq_last qs _ k hql] at h1
              rw [rq_more qs _ j (by omega)] at h2
              have e1 := (hp2.row.lt l h1).1
              have e2 := ((hqe j (by omega)).2.1.row.lt l h2).2
              omega
          · rw [rq_more qs _ i (by omega)] at h1
            by_cases ej : j = k
            · rw [ej, rq_last qs _ k hql] at h2
              have e1 := (hp2.row.lt l h2).1
              have e2 := ((hqe i (by omega)).2.1.row.lt l h1).2
              omega
            · rw [rq_more qs _ j (by omega)] at h2
              exact hqa i j l (by omega) (by omega) h1 h2
      have hB2 := hbr.trans (hb2.mono hsz)
      have hB4 : Below w.heap.size w (putSt w2 w.heap.size (k * 5) (.int .i64 y.alg) (.int .u64 y.dg) (.int .i64 y.at2) (.int .u64 y.ky) (.slice p1 n1 n1)) := hB2.trans (hT.below (Nat.le_refl _) (by omega))
      have FIN : Hid (_ ∧ _ ∧ _) := ⟨hS.own, hP, hB4⟩
      have hgl2 : w.heap.size < w2.heap.size := by omega
      clear fr cx hS hP hB4 hB2 hor2 hp2 hb2 hvl HPRE HOV HP HK hT
      go_wp2
      go_roundw
      case rel => exact ⟨k + 1, by omega, by go_num, FIN.out.1, FIN.out.2.1, FIN.out.2.2⟩
      case measure => simp [intOf]; omega
    · obtain rfl : n = k := by omega
      have HX : Hid (n ≤ 9223372036854775807) := HK.out.max
      clear HK
      go_wp2
      go_ret
      exact ⟨_, rfl, stPre2_own HOV.out hlen.out HPRE.out, hbr⟩


end Go.Proofs.YtmhijbcbckljmaaGreat

set_option linter.unusedVariables false
namespace Go.Proofs.YtmhijbcbckljmaaGreat
open Go.RowKit Go.Sort

theorem toSecret_agg (a b c d : Int) (w : World) : Calls Tryz.prog 8 #[.agg #[.int .i64 a, .int .u64 b, .int .i64 c, .int .i64 d]] w fun e w' => e = .returned (.agg #[.int .i64 a, .int .u64 b, .int .i64 c, .int .i64 d]) ∧ Below w.heap.size w w' := toSecret_any a b c d w

/-- Boxes that lie there. -/
structure Bxs (L : List (Nat × Array Value × Nat)) (W : World) : Prop where
  all : ∀ p ∈ L, W.heap[p.1]? = some (.cells p.2.1 p.2.2 (0, 0))
theorem Bxs.kept {L : List (Nat × Array Value × Nat)} {W W' : World} (h : Bxs L W) (hb : Below W.heap.size W W') : Bxs L W' := ⟨fun p hp => below_kept (h.all p hp) hb⟩
theorem Bxs.touch {L : List (Nat × Array Value × Nat)} {W W' : World} {lo hi : Nat} (h : Bxs L W) (ht : Touch lo hi W W') (hd : ∀ p ∈ L, p.1 < lo ∨ hi ≤ p.1) : Bxs L W' := ⟨fun p hp => touch_kept ht (h.all p hp) (hd p hp)⟩

theorem ownsRow_touchIn {B e k n lo hi p q : Nat} {w w' : World} {v : Value} {xs : List Value} (h : w.ownsRow B e k v n xs) (hI : ∀ j, v.ownBlock = some j → p ≤ j ∧ j < q) (hd : q ≤ lo ∨ hi ≤ p) (ht : Touch lo hi w w') : w'.ownsRow B e k v n xs := by
  refine ⟨h.1, ?_⟩
  rcases h.2 with h0 | ⟨g', cap, cur, hv, hb, hh, rest⟩
  · exact .inl h0
  · have h1 := hI g' (by rw [hv]; rfl)
    exact .inr ⟨g', cap, cur, hv, hb, (ht.block g' (Array.getElem?_eq_some_iff.1 hh).1 (by omega)).trans hh, rest⟩
theorem OwnS.touchIn {B n c lo hi p q : Nat} {w w' : World} {a : Option Addr} {ps : List Sq} (h : OwnS B w a n c ps) (hI : InS p q a n c ps) (hd : q ≤ lo ∨ hi ≤ p) (ht : Touch lo hi w w') : OwnS B w' a n c ps :=
  ⟨ownsRow_touchIn h.row hI.row hd ht, h.len, fun j hj => ⟨ownsRow_touchIn (h.each j hj).row (hI.each j hj) hd ht, (h.each j hj).byte⟩, h.apart, h.rng⟩
theorem OwnS.inS {B n c : Nat} {w : World} {a : Option Addr} {ps : List Sq} (h : OwnS B w a n c ps) : InS B w.heap.size a n c ps :=
  ⟨fun j hj => ⟨(h.row.lt j hj).1, (h.row.lt j hj).2⟩, fun i hi j hj => ⟨((h.each i hi).row.lt j hj).1, ((h.each i hi).row.lt j hj).2⟩⟩
def KC (n c : Nat) : Prop := n = c ∧ n ≤ 1048576
def KT (n c : Nat) : Prop := True
/-- Stamps of our own, by their values. -/
structure OwnX (K : Nat → Nat → Prop) (B : Nat) (w : World) (a : Option Addr) (n c : Nat) (xs : List StP) : Prop where
  ex : ∃ ps, OwnS B w a n c ps ∧ xsOf ps = xs ∧ ∀ j, j < n → K (ps.getD j sq0).1.2.1 (ps.getD j sq0).1.2.2
theorem OwnX.kept {K : Nat → Nat → Prop} {B n c : Nat} {w w' : World} {a : Option Addr} {xs : List StP} (h : OwnX K B w a n c xs) (hb : Below w.heap.size w w') : OwnX K B w' a n c xs := by
  obtain ⟨ps, h1, h2, h3⟩ := h.ex
  exact ⟨ps, h1.kept hb, h2, h3⟩
theorem OwnX.mono {K : Nat → Nat → Prop} {B B' n c : Nat} {w : World} {a : Option Addr} {xs : List StP} (h : OwnX K B w a n c xs) (hB : B' ≤ B) : OwnX K B' w a n c xs := by
  obtain ⟨ps, h1, h2, h3⟩ := h.ex
  exact ⟨ps, h1.mono hB, h2, h3⟩
theorem OwnX.touched {K : Nat → Nat → Prop} {B : Nat} {w w' : World} {a : Option Addr} {n c g t : Nat} {xs : List StP} {cs : Array Value} {fr : Nat × Nat} (h : OwnX K B w a n c xs) (hg : w.heap[g]? = some (.cells cs t fr)) (h1 : t ≠ 45) (h2 : t ≠ 5) (ht : Touch g (g + 1) w w') : OwnX K B w' a n c xs := by
  obtain ⟨ps, p1, p2, p3⟩ := h.ex
  exact ⟨ps, p1.touched hg h1 h2 ht, p2, p3⟩
theorem OwnX.sts {K : Nat → Nat → Prop} {B n c : Nat} {w : World} {a : Option Addr} {xs : List StP} (h : OwnX K B w a n c xs) (hn : n ≤ 9223372036854775807) (hs : ∀ j, j < n → (xs.getD j default).sg.length ≤ 1048576) : Sts K w a n xs := by
  obtain ⟨ps, h1, rfl, h3⟩ := h.ex
  have hl := h1.len
  refine ⟨by simp [xsOf, hl], hn, fun k hk => ?_⟩
  obtain ⟨b, rfl, hb, hc⟩ := h1.cells hk
  have hs1 := hs k hk
  rw [xsOf_at ps k (by omega)] at hs1 ⊢
  have hr := (h1.each k hk).toRow
  exact ⟨b, 0, _, _, _, rfl, hb, hc, hr, by rw [hr.len] at hs1; omega, h1.rng k hk, h3 k hk⟩
theorem OwnX.ofS {B n c : Nat} {w : World} {a : Option Addr} {ps : List Sq} {xs : List StP} (h : OwnS B w a n c ps) (he : xsOf ps = xs) : OwnX KT B w a n c xs := ⟨ps, h, he, fun _ _ => trivial⟩
theorem toStampX_any (A0 : Option Addr) (N0 c0 : Nat) (xs : List StP) (w : World) (h : Sts (fun _ _ => True) w A0 N0 xs) (hn : N0 ≤ 1048576) (hz : ∀ k, k < N0 → (xs.getD k default).sg.length ≤ 1048576) :
    Calls Tryz.prog 7 #[.slice A0 N0 c0] w fun e w' => ∃ a', e = .returned (.slice a' N0 N0) ∧ OwnX KC w.heap.size w' a' N0 N0 xs ∧ Below w.heap.size w w' := by
  refine (toStampS_own _ A0 N0 c0 xs w h hn hz).mono ?_
  rintro e w' ⟨a', rfl, ⟨ps, h1, h2, h3⟩, hb⟩
  exact ⟨a', rfl, ⟨ps, h1, h2, fun j hj => ⟨(h3 j hj).2, (h3 j hj).1⟩⟩, hb⟩
theorem eqByteS_sameR (a b : Option Addr) (n ca cb : Nat) (xs : List Int) (w : World) (hx : Row w a n xs) (hy : Row w b n xs) (hn : n ≤ 1048576) :
    Calls Tryz.prog 12 #[.slice a n ca, .slice b n cb] w fun e w' => e = .returned (.bool true) ∧ Below w.heap.size w w' := by
  refine (eqByteS_any a b n n ca cb xs xs w hx hy (by unfold maxLen; omega) (by unfold maxLen; omega)).mono ?_
  rintro e w' ⟨rfl, hb⟩
  exact ⟨by simp, hb⟩
theorem stV_lenR (alg dg at2 sc x h n : Int) : (stV alg dg at2 sc x h n).sg.length ≤ 1000 := by
  unfold stV
  split
  · split
    · unfold asV
      split
      · exact saV_len _ _ _ _ _
      · exact Nat.zero_le _
    · exact Nat.zero_le _
  · exact Nat.zero_le _
theorem rnV_small (doc : List Int) (xs : List StP) (n : Nat) (alg at2 sc x h nn : Int) (hl : xs.length = n) (hz : ∀ k, k < n → (xs.getD k default).sg.length ≤ 1048576) : (rnV doc xs n alg at2 sc x h nn).xs.length ≤ 8 ∧ ∀ j, j < (rnV doc xs n alg at2 sc x h nn).xs.length → ((rnV doc xs n alg at2 sc x h nn).xs.getD j default).sg.length ≤ 1048576 := by
  unfold rnV
  split
  · rename_i hp
    split
    · refine ⟨by have := hp.1; simp; omega, fun j hj => ?_⟩
      by_cases e : j < xs.length
      · have h1 := hz j (by omega)
        simpa [List.getElem?_append, e] using h1
      · have e2 : j = xs.length := by simp at hj; omega
        subst e2
        have h1 := stV_lenR alg (dgR alg (covd doc xs n)) at2 sc x h nn
        simp [stOf]
        omega
    · exact ⟨by simp [rnBad], fun j hj => by simp [rnBad] at hj⟩
  · exact ⟨by simp [rnBad], fun j hj => by simp [rnBad] at hj⟩
theorem OwnS.lens {B n c : Nat} {w : World} {a : Option Addr} {ps : List Sq} {xs : List StP} (h : OwnS B w a n c ps) (he : xsOf ps = xs) (hs : ∀ j, j < n → (xs.getD j default).sg.length ≤ 1048576) : ∀ j, j < n → (ps.getD j sq0).1.2.1 ≤ 1048576 := fun j hj => by
  have h1 := hs j hj
  have hl := h.len
  rw [← he, xsOf_at ps j (by omega), (h.each j hj).toRow.len] at h1
  exact h1

end Go.Proofs.YtmhijbcbckljmaaGreat

set_option linter.unusedVariables false
namespace Go.Proofs.YtmhijbcbckljmaaGreat
open Go.RowKit Go.Sort

/-- What is known of a region (RJ). -/
def rw7 (ad : Option Addr) (nd cd : Nat) (doc : List Int) (A0 : Option Addr) (N0 c0 : Nat) (xs : List StP) (alg at2 sc x h nn : Int) (V : RnV) (G B : Nat) : RSpec where
  m := 17
  n := 18
  slots := [35, 36, 37, 38, 39, 40, 41, 42, 43, 34, 44, 45, 46, 13, 12, 13, 14, 100017]
  kills := [[], [], [], [], [], [], [], [], [], [], [], [], [], [15], [], [], [], []]
  pres := [[], [], [], [], [], [], [], [], [], [], [], [], [], [], [], [13], [], []]
  fact := fun k v w => match k with
    | 0 => v = .slice ad nd cd
    | 1 => ∃ a1, v = .slice a1 nd nd ∧ Own B w a1 nd nd doc
    | 2 => v = .slice A0 N0 c0
    | 3 => ∃ a2, v = .slice a2 N0 N0 ∧ OwnX KC B w a2 N0 N0 xs
    | 4 => v = .int .i64 alg
    | 5 => v = .int .i64 at2
    | 6 => v = .agg #[.int .i64 sc, .int .u64 x, .int .i64 h, .int .i64 nn]
    | 7 => v = .agg #[.int .i64 sc, .int .u64 x, .int .i64 h, .int .i64 nn]
    | 8 => ∃ a3 c3, v = .tuple #[.slice a3 V.xs.length c3, .agg #[.int .i64 V.t.1, .int .u64 V.t.2.1, .int .i64 V.t.2.2.1, .int .i64 V.t.2.2.2], .int .i64 V.cd] ∧ OwnX KT B w a3 V.xs.length c3 V.xs
    | 9 => ∃ a3 c3, v = .tuple #[.slice a3 V.xs.length c3, .agg #[.int .i64 V.t.1, .int .u64 V.t.2.1, .int .i64 V.t.2.2.1, .int .i64 V.t.2.2.2], .int .i64 V.cd] ∧ OwnX KT B w a3 V.xs.length c3 V.xs
    | 10 => ∃ a3 c3, v = .slice a3 V.xs.length c3 ∧ OwnX KT B w a3 V.xs.length c3 V.xs
    | 11 => v = .agg #[.int .i64 V.t.1, .int .u64 V.t.2.1, .int .i64 V.t.2.2.1, .int .i64 V.t.2.2.2]
    | 12 => v = .int .i64 V.cd
    | 13 => ∃ gb13, v = .pointer (some ⟨gb13, 0, none⟩) ∧ w.heap[gb13]? = some (.cells #[.int .i64 0, .int .u64 0, .int .i64 0, .int .i64 0] 29 (0, 0)) ∧ B ≤ gb13
    | 14 => ∃ a3 c3, v = .slice a3 V.xs.length c3 ∧ OwnX KT B w a3 V.xs.length c3 V.xs
    | 15 => ∃ gs15, v = .pointer (some ⟨gs15, 0, none⟩) ∧ w.heap[gs15]? = some (.cells #[.int .i64 V.t.1, .int .u64 V.t.2.1, .int .i64 V.t.2.2.1, .int .i64 V.t.2.2.2] 29 (0, 0)) ∧ B ≤ gs15
    | 16 => v = .int .i64 V.cd
    | _ => w.heap[G]? = some (.cells #[.int .i64 sc, .int .u64 x, .int .i64 h, .int .i64 nn] 26 (0, 0))
set_option linter.unusedVariables false in
theorem rw7_stb (ad : Option Addr) (nd cd : Nat) (doc : List Int) (A0 : Option Addr) (N0 c0 : Nat) (xs : List StP) (alg at2 sc x h nn : Int) (V : RnV) (G B : Nat) (k : Nat) (hk : k < 18) : StB ((rw7 ad nd cd doc A0 N0 c0 xs alg at2 sc x h nn V G (B)).fact k) := by
  match k, hk with
  | 0, _ => exact fun _ _ _ h _ => h
  | 1, _ => exact fun _ _ _ ⟨a1, hv, q_0⟩ hb => ⟨a1, hv, q_0.kept hb⟩
  | 2, _ => exact fun _ _ _ h _ => h
  | 3, _ => exact fun _ _ _ ⟨a2, hv, q_0⟩ hb => ⟨a2, hv, q_0.kept hb⟩
  | 4, _ => exact fun _ _ _ h _ => h
  | 5, _ => exact fun _ _ _ h _ => h
  | 6, _ => exact fun _ _ _ h _ => h
  | 7, _ => exact fun _ _ _ h _ => h
  | 8, _ => exact fun _ _ _ ⟨a3, c3, hv, q_0⟩ hb => ⟨a3, c3, hv, q_0.kept hb⟩
  | 9, _ => exact fun _ _ _ ⟨a3, c3, hv, q_0⟩ hb => ⟨a3, c3, hv, q_0.kept hb⟩
  | 10, _ => exact fun _ _ _ ⟨a3, c3, hv, q_0⟩ hb => ⟨a3, c3, hv, q_0.kept hb⟩
  | 11, _ => exact fun _ _ _ h _ => h
  | 12, _ => exact fun _ _ _ h _ => h
  | 13, _ => exact fun _ _ _ ⟨gb13, hv, q_0, q_1⟩ hb => ⟨gb13, hv, below_kept q_0 hb, q_1⟩
  | 14, _ => exact fun _ _ _ ⟨a3, c3, hv, q_0⟩ hb => ⟨a3, c3, hv, q_0.kept hb⟩
  | 15, _ => exact fun _ _ _ ⟨gs15, hv, q_0, q_1⟩ hb => ⟨gs15, hv, below_kept q_0 hb, q_1⟩
  | 16, _ => exact fun _ _ _ h _ => h
  | 17, _ => exact fun _ _ _ q_0 hb => below_kept q_0 hb
  | k + 18, hk => omega
set_option linter.unusedVariables false in
theorem rw7_st15 (ad : Option Addr) (nd cd : Nat) (doc : List Int) (A0 : Option Addr) (N0 c0 : Nat) (xs : List StP) (alg at2 sc x h nn : Int) (V : RnV) (G B : Nat) {W W2 : World} {g : Nat} {cs : Array Value} {fr : Nat × Nat} (hg : W.heap[g]? = some (.cells cs 29 fr)) (ht : Touch (g) (g + 1) W W2) (hge : B ≤ g) (k : Nat) (hk : k < 18) (hne : k ≠ 15) (hkill : 15 ∉ (rw7 ad nd cd doc A0 N0 c0 xs alg at2 sc x h nn V G (B)).kill k) (v : Value) (hfact : (rw7 ad nd cd doc A0 N0 c0 xs alg at2 sc x h nn V G (B)).fact k v W) : (rw7 ad nd cd doc A0 N0 c0 xs alg at2 sc x h nn V G (B)).fact k v W2 := by
  match k, hk, hne, hkill, hfact with
  | 0, _, _, _, hq => exact hq
  | 1, _, _, _, ⟨a1, hv, q_0⟩ => exact ⟨a1, hv, ⟨ownsRow_box q_0.row hg (by decide) ht, q_0.byte⟩⟩
  | 2, _, _, _, hq => exact hq
  | 3, _, _, _, ⟨a2, hv, q_0⟩ => exact ⟨a2, hv, q_0.touched hg (by decide) (by decide) ht⟩
  | 4, _, _, _, hq => exact hq
  | 5, _, _, _, hq => exact hq
  | 6, _, _, _, hq => exact hq
  | 7, _, _, _, hq => exact hq
  | 8, _, _, _, ⟨a3, c3, hv, q_0⟩ => exact ⟨a3, c3, hv, q_0.touched hg (by decide) (by decide) ht⟩
  | 9, _, _, _, ⟨a3, c3, hv, q_0⟩ => exact ⟨a3, c3, hv, q_0.touched hg (by decide) (by decide) ht⟩
  | 10, _, _, _, ⟨a3, c3, hv, q_0⟩ => exact ⟨a3, c3, hv, q_0.touched hg (by decide) (by decide) ht⟩
  | 11, _, _, _, hq => exact hq
  | 12, _, _, _, hq => exact hq
  | 13, _, _, hkill, _ => exact absurd (List.Mem.head _) hkill
  | 14, _, _, _, ⟨a3, c3, hv, q_0⟩ => exact ⟨a3, c3, hv, q_0.touched hg (by decide) (by decide) ht⟩
  | 15, _, hne, _, _ => exact absurd rfl hne
  | 16, _, _, _, hq => exact hq
  | 17, _, _, _, q_0 => exact box_box q_0 hg (by decide) ht
  | k + 18, hk, _, _, _ => omega
/-- What is known of a region (RJ). -/
def rw30 (ad : Option Addr) (nd cd : Nat) (doc : List Int) (A0 : Option Addr) (N0 c0 : Nat) (xs : List StP) (alg at2 sc x h nn : Int) (V : RnV) (G B : Nat) : RSpec where
  m := 17
  n := 18
  slots := [124, 125, 126, 127, 128, 129, 130, 131, 132, 123, 133, 134, 135, 24, 23, 24, 25, 100017]
  kills := [[], [], [], [], [], [], [], [], [], [], [], [], [], [15], [], [], [], []]
  pres := [[], [], [], [], [], [], [], [], [], [], [], [], [], [], [], [13], [], []]
  fact := fun k v w => match k with
    | 0 => v = .slice ad nd cd
    | 1 => ∃ a1, v = .slice a1 nd nd ∧ Own B w a1 nd nd doc
    | 2 => v = .slice A0 N0 c0
    | 3 => ∃ a2, v = .slice a2 N0 N0 ∧ OwnX KC B w a2 N0 N0 xs
    | 4 => v = .int .i64 alg
    | 5 => v = .int .i64 at2
    | 6 => v = .agg #[.int .i64 sc, .int .u64 x, .int .i64 h, .int .i64 nn]
    | 7 => v = .agg #[.int .i64 sc, .int .u64 x, .int .i64 h, .int .i64 nn]
    | 8 => ∃ a3 c3, v = .tuple #[.slice a3 V.xs.length c3, .agg #[.int .i64 V.t.1, .int .u64 V.t.2.1, .int .i64 V.t.2.2.1, .int .i64 V.t.2.2.2], .int .i64 V.cd] ∧ OwnX KT B w a3 V.xs.length c3 V.xs
    | 9 => ∃ a3 c3, v = .tuple #[.slice a3 V.xs.length c3, .agg #[.int .i64 V.t.1, .int .u64 V.t.2.1, .int .i64 V.t.2.2.1, .int .i64 V.t.2.2.2], .int .i64 V.cd] ∧ OwnX KT B w a3 V.xs.length c3 V.xs
    | 10 => ∃ a3 c3, v = .slice a3 V.xs.length c3 ∧ OwnX KT B w a3 V.xs.length c3 V.xs
    | 11 => v = .agg #[.int .i64 V.t.1, .int .u64 V.t.2.1, .int .i64 V.t.2.2.1, .int .i64 V.t.2.2.2]
    | 12 => v = .int .i64 V.cd
    | 13 => ∃ gb13, v = .pointer (some ⟨gb13, 0, none⟩) ∧ w.heap[gb13]? = some (.cells #[.int .i64 0, .int .u64 0, .int .i64 0, .int .i64 0] 29 (0, 0)) ∧ B ≤ gb13
    | 14 => ∃ a3 c3, v = .slice a3 V.xs.length c3 ∧ OwnX KT B w a3 V.xs.length c3 V.xs
    | 15 => ∃ gs15, v = .pointer (some ⟨gs15, 0, none⟩) ∧ w.heap[gs15]? = some (.cells #[.int .i64 V.t.1, .int .u64 V.t.2.1, .int .i64 V.t.2.2.1, .int .i64 V.t.2.2.2] 29 (0, 0)) ∧ B ≤ gs15
    | 16 => v = .int .i64 V.cd
    | _ => w.heap[G]? = some (.cells #[.int .i64 sc, .int .u64 x, .int .i64 h, .int .i64 nn] 26 (0, 0))
set_option linter.unusedVariables false in
theorem rw30_stb (ad : Option Addr) (nd cd : Nat) (doc : List Int) (A0 : Option Addr) (N0 c0 : Nat) (xs : List StP) (alg at2 sc x h nn : Int) (V : RnV) (G B : Nat) (k : Nat) (hk : k < 18) : StB ((rw30 ad nd cd doc A0 N0 c0 xs alg at2 sc x h nn V G (B)).fact k) := by
  match k, hk with
  | 0, _ => exact fun _ _ _ h _ => h
  | 1, _ => exact fun _ _ _ ⟨a1, hv, q_0⟩ hb => ⟨a1, hv, q_0.kept hb⟩
  | 2, _ => exact fun _ _ _ h _ => h
  | 3, _ => exact fun _ _ _ ⟨a2, hv, q_0⟩ hb => ⟨a2, hv, q_0.kept hb⟩
  | 4, _ => exact fun _ _ _ h _ => h
  | 5, _ => exact fun _ _ _ h _ => h
  | 6, _ => exact fun _ _ _ h _ => h
  | 7, _ => exact fun _ _ _ h _ => h
  | 8, _ => exact fun _ _ _ ⟨a3, c3, hv, q_0⟩ hb => ⟨a3, c3, hv, q_0.kept hb⟩
  | 9, _ => exact fun _ _ _ ⟨a3, c3, hv, q_0⟩ hb => ⟨a3, c3, hv, q_0.kept hb⟩
  | 10, _ => exact fun _ _ _ ⟨a3, c3, hv, q_0⟩ hb => ⟨a3, c3, hv, q_0.kept hb⟩
  | 11, _ => exact fun _ _ _ h _ => h
  | 12, _ => exact fun _ _ _ h _ => h
  | 13, _ => exact fun _ _ _ ⟨gb13, hv, q_0, q_1⟩ hb => ⟨gb13, hv, below_kept q_0 hb, q_1⟩
  | 14, _ => exact fun _ _ _ ⟨a3, c3, hv, q_0⟩ hb => ⟨a3, c3, hv, q_0.kept hb⟩
  | 15, _ => exact fun _ _ _ ⟨gs15, hv, q_0, q_1⟩ hb => ⟨gs15, hv, below_kept q_0 hb, q_1⟩
  | 16, _ => exact fun _ _ _ h _ => h
  | 17, _ => exact fun _ _ _ q_0 hb => below_kept q_0 hb
  | k + 18, hk => omega
set_option linter.unusedVariables false in
theorem rw30_st15 (ad : Option Addr) (nd cd : Nat) (doc : List Int) (A0 : Option Addr) (N0 c0 : Nat) (xs : List StP) (alg at2 sc x h nn : Int) (V : RnV) (G B : Nat) {W W2 : World} {g : Nat} {cs : Array Value} {fr : Nat × Nat} (hg : W.heap[g]? = some (.cells cs 29 fr)) (ht : Touch (g) (g + 1) W W2) (hge : B ≤ g) (k : Nat) (hk : k < 18) (hne : k ≠ 15) (hkill : 15 ∉ (rw30 ad nd cd doc A0 N0 c0 xs alg at2 sc x h nn V G (B)).kill k) (v : Value) (hfact : (rw30 ad nd cd doc A0 N0 c0 xs alg at2 sc x h nn V G (B)).fact k v W) : (rw30 ad nd cd doc A0 N0 c0 xs alg at2 sc x h nn V G (B)).fact k v W2 := by
  match k, hk, hne, hkill, hfact with
  | 0, _, _, _, hq => exact hq
  | 1, _, _, _, ⟨a1, hv, q_0⟩ => exact ⟨a1, hv, ⟨ownsRow_box q_0.row hg (by decide) ht, q_0.byte⟩⟩
  | 2, _, _, _, hq => exact hq
  | 3, _, _, _, ⟨a2, hv, q_0⟩ => exact ⟨a2, hv, q_0.touched hg (by decide) (by decide) ht⟩
  | 4, _, _, _, hq => exact hq
  | 5, _, _, _, hq => exact hq
  | 6, _, _, _, hq => exact hq
  | 7, _, _, _, hq => exact hq
  | 8, _, _, _, ⟨a3, c3, hv, q_0⟩ => exact ⟨a3, c3, hv, q_0.touched hg (by decide) (by decide) ht⟩
  | 9, _, _, _, ⟨a3, c3, hv, q_0⟩ => exact ⟨a3, c3, hv, q_0.touched hg (by decide) (by decide) ht⟩
  | 10, _, _, _, ⟨a3, c3, hv, q_0⟩ => exact ⟨a3, c3, hv, q_0.touched hg (by decide) (by decide) ht⟩
  | 11, _, _, _, hq => exact hq
  | 12, _, _, _, hq => exact hq
  | 13, _, _, hkill, _ => exact absurd (List.Mem.head _) hkill
  | 14, _, _, _, ⟨a3, c3, hv, q_0⟩ => exact ⟨a3, c3, hv, q_0.touched hg (by decide) (by decide) ht⟩
  | 15, _, hne, _, _ => exact absurd rfl hne
  | 16, _, _, _, hq => exact hq
  | 17, _, _, _, q_0 => exact box_box q_0 hg (by decide) ht
  | k + 18, hk, _, _, _ => omega

set_option maxRecDepth 10000 in
set_option maxHeartbeats 8000000 in
theorem lawRenew_walk (HSPEC : ∀ (seed h next : Int) (am : Option Addr) (n c : Nat) (bs : List Int) (w : World), U64 seed → Row w am n bs → n ≤ 1000000000000 → Calls Tryz.prog 58 #[tkv seed h next, .slice am n c] w fun e w' => ∃ v, e = .returned v ∧ SgR seed h next bs w.heap.size w' v ∧ Below w.heap.size w w') (ad : Option Addr) (nd cd : Nat) (doc : List Int) (A0 : Option Addr) (N0 c0 : Nat) (xs : List StP) (alg at2 sc x h nn : Int) (w : World) (hd : Row w ad nd doc) (hdm : nd ≤ 9223372036854775807) (hst : Sts (fun _ _ => True) w A0 N0 xs) (hx : U64 x) (hal : -9223372036854775808 ≤ alg ∧ alg ≤ 9223372036854775807) (hat : -9223372036854775808 ≤ at2 ∧ at2 ≤ 9223372036854775807) :
    Calls Tryz.prog 3 #[.slice ad nd cd, .slice A0 N0 c0, .int .i64 alg, .int .i64 at2, .agg #[.int .i64 sc, .int .u64 x, .int .i64 h, .int .i64 nn]] w fun e w' => e = .returned (.bool true) ∧ Below w.heap.size w w' := by
  obtain ⟨w1, hw1⟩ : ∃ w1, w1 = w.alloc (.cells #[.int .i64 sc, .int .u64 x, .int .i64 h, .int .i64 nn] 26) := ⟨_, rfl⟩
  have hb0 : Below w.heap.size w w1 := by rw [hw1]; exact (Below.refl _ _).alloc (Nat.le_refl _) _
  have HL1 : Hid (Bxs [(w.heap.size, #[.int .i64 sc, .int .u64 x, .int .i64 h, .int .i64 nn], 26)] w1) := by
    refine ⟨fun p hp => ?_⟩
    simp only [List.mem_cons, List.not_mem_nil, or_false] at hp
    rcases hp with rfl
    rw [hw1]
    exact heap_alloc_new w _
  have hk0 : w.heap.size < w1.heap.size := by rw [hw1]; simp
  have HRM : Hid (∀ W, Below w1.heap.size w1 W → Row W ad nd doc ∧ Sts (fun _ _ => True) W A0 N0 xs) := fun W hW => ⟨hd.kept (keepT hb0 hW), hst.kept (keepT hb0 hW)⟩
  have HLEN : Hid (xs.length = N0) := hst.len
  have HW1 : Hid (_ = _) := hw1
  clear hw1 hd hst
  by_cases hbig : 1048576 < nd
  · have hbg : (1048576 : Int) < (nd : Int) := by omega
    go_enter Tryz.func3, Tryz.ntmps3
    go_upto_region 1 with fail
    rw [← HW1.out]
    clear HW1
    go_wp2
    go_ret
    exact ⟨rfl, hb0⟩
  have hnd : nd ≤ 1048576 := by omega
  have hbg : ¬ (1048576 : Int) < (nd : Int) := by omega
  clear hbig
  go_enter Tryz.func3, Tryz.ntmps3
  go_upto_region 1 with fail
  rw [← HW1.out]
  clear HW1
  go_wp2_with fail
  refine (szStampS_any _ A0 N0 c0 xs _ _ (HRM.out _ (Below.refl _ _)).2 (by decide) (by decide)).mono ?_
  rintro e w2 ⟨r, rfl, hr, hb2⟩
  clear hbg
  by_cases hneg : r < 0
  · go_wp2
    go_ret
    exact ⟨rfl, keepT hb0 hb2⟩
  obtain ⟨_, _, hns, hz⟩ := hr.resolve_left hneg
  have HZ : Hid (∀ k, k < N0 → (xs.getD k default).sg.length ≤ 1048576) := hz
  clear hz hr
  obtain ⟨V, hV⟩ : ∃ V, V = rnV doc xs N0 alg at2 sc x h nn := ⟨_, rfl⟩
  have hVS := rnV_small doc xs N0 alg at2 sc x h nn HLEN.out HZ.out
  rw [← hV] at hVS
  obtain ⟨hVn, hVz⟩ := hVS
  have HVZ : Hid (∀ j, j < V.xs.length → (V.xs.getD j default).sg.length ≤ 1048576) := hVz
  clear hVz
  have HSP : Hid (∀ (W : World) (B : Nat) (a1 a2 : Option Addr), Own B W a1 nd nd doc → OwnX KC B W a2 N0 N0 xs → Calls Tryz.prog 5 #[.slice a1 nd nd, .slice a2 N0 N0, .int .i64 alg, .int .i64 at2, .agg #[.int .i64 sc, .int .u64 x, .int .i64 h, .int .i64 nn]] W fun e w' => ∃ a3 c3, e = .returned (.tuple #[.slice a3 V.xs.length c3, .agg #[.int .i64 V.t.1, .int .u64 V.t.2.1, .int .i64 V.t.2.2.1, .int .i64 V.t.2.2.2], .int .i64 V.cd]) ∧ OwnX KT W.heap.size w' a3 V.xs.length c3 V.xs ∧ Below W.heap.size W w') := by
    intro W B a1 a2 h1 h2
    have h3 := specRenew_any HSPEC a1 nd nd doc a2 N0 N0 xs alg at2 sc x h nn W h1.toRow h1.nil (by omega) (h2.sts (by omega) HZ.out) hx hal hat
    rw [← hV] at h3
    refine h3.mono ?_
    rintro e w' ⟨a3, c3, rfl, ⟨ps, h4, h5⟩, hb⟩
    exact ⟨a3, c3, rfl, OwnX.ofS h4 h5, hb⟩
  have HIM : Hid (∀ (W : World) (B : Nat) (a1 a2 : Option Addr), Own B W a1 nd nd doc → OwnX KC B W a2 N0 N0 xs → Calls Tryz.prog 9 #[.slice a1 nd nd, .slice a2 N0 N0, .int .i64 alg, .int .i64 at2, .agg #[.int .i64 sc, .int .u64 x, .int .i64 h, .int .i64 nn]] W fun e w' => ∃ a3 c3, e = .returned (.tuple #[.slice a3 V.xs.length c3, .agg #[.int .i64 V.t.1, .int .u64 V.t.2.1, .int .i64 V.t.2.2.1, .int .i64 V.t.2.2.2], .int .i64 V.cd]) ∧ OwnX KT W.heap.size w' a3 V.xs.length c3 V.xs ∧ Below W.heap.size W w') := by
    intro W B a1 a2 h1 h2
    have h3 := implRenew_any a1 nd nd doc a2 N0 N0 xs alg at2 sc x h nn W h1.toRow h1.nil (by omega) (h2.sts (by omega) HZ.out) hx hal hat
    rw [← hV] at h3
    refine h3.mono ?_
    rintro e w' ⟨a3, c3, rfl, ⟨ps, h4, h5⟩, hb⟩
    exact ⟨a3, c3, rfl, OwnX.ofS h4 h5, hb⟩
  clear hV HSPEC HLEN
  have t0 : (V.cd != V.cd) = false := by simp
  have hc2 := hb2
  have HL2 : Hid (_) := HL1.out.kept hb2
  have hs2 := hb2.size
  clear HL1 hb2
  go_upto_region 7 with fail
  have HBB : w2.heap.size ≤ w2.heap.size := Nat.le_refl _
  have HRR : Hid (∀ W, Below w2.heap.size w2 W → Row W ad nd doc ∧ Sts (fun _ _ => True) W A0 N0 xs) := fun W hW => HRM.out W (keepT hc2 hW)
  refine wp_region_ri (rw7 ad nd cd doc A0 N0 c0 xs alg at2 sc x h nn V w.heap.size (w2.heap.size)) [12, 13, 14, 34, 35, 36, 37, 38, 39, 40, 41, 42, 43, 44, 45, 46] (w2.heap.size) (fun a0 => a0.tmps.size = 159 ∧ aT a0 0 = .slice ad nd cd ∧ aT a0 1 = .slice A0 N0 c0 ∧ aT a0 2 = .int .i64 alg ∧ aT a0 3 = .int .i64 at2 ∧ aT a0 9 = .pointer (some ⟨w.heap.size, 0, none⟩)) (by kernel_rfl) rfl (by kernel_rfl) rfl ⟨rfl, rfl, rfl, rfl, rfl, rfl⟩ (rw7_stb ad nd cd doc A0 N0 c0 xs alg at2 sc x h nn V w.heap.size (w2.heap.size)) ?_ ?_ ?_
  · intro k hk hk2
    match k, hk, hk2 with
    | 17, _, _ => exact (HL2.out.all (w.heap.size, #[.int .i64 sc, .int .u64 x, .int .i64 h, .int .i64 nn], 26) (by simp))
    | 0, hk, _ => exact absurd hk (by show ¬ (17 ≤ 0); omega)
    | 1, hk, _ => exact absurd hk (by show ¬ (17 ≤ 1); omega)
    | 2, hk, _ => exact absurd hk (by show ¬ (17 ≤ 2); omega)
    | 3, hk, _ => exact absurd hk (by show ¬ (17 ≤ 3); omega)
    | 4, hk, _ => exact absurd hk (by show ¬ (17 ≤ 4); omega)
    | 5, hk, _ => exact absurd hk (by show ¬ (17 ≤ 5); omega)
    | 6, hk, _ => exact absurd hk (by show ¬ (17 ≤ 6); omega)
    | 7, hk, _ => exact absurd hk (by show ¬ (17 ≤ 7); omega)
    | 8, hk, _ => exact absurd hk (by show ¬ (17 ≤ 8); omega)
    | 9, hk, _ => exact absurd hk (by show ¬ (17 ≤ 9); omega)
    | 10, hk, _ => exact absurd hk (by show ¬ (17 ≤ 10); omega)
    | 11, hk, _ => exact absurd hk (by show ¬ (17 ≤ 11); omega)
    | 12, hk, _ => exact absurd hk (by show ¬ (17 ≤ 12); omega)
    | 13, hk, _ => exact absurd hk (by show ¬ (17 ≤ 13); omega)
    | 14, hk, _ => exact absurd hk (by show ¬ (17 ≤ 14); omega)
    | 15, hk, _ => exact absurd hk (by show ¬ (17 ≤ 15); omega)
    | 16, hk, _ => exact absurd hk (by show ¬ (17 ≤ 16); omega)
    | k + 18, _, hk2 => exact absurd hk2 (by show ¬ (k + 18 < 18); omega)
  · rintro a0 ⟨hz, g0, g1, g2, g3, g9⟩
    refine StepsRI.cons ?_ (StepsRI.cons ?_ (StepsRI.cons ?_ (StepsRI.cons ?_ (StepsRI.cons ?_ (StepsRI.cons ?_ (StepsRI.cons ?_ (StepsRI.cons ?_ (StepsRI.cons ?_ (StepsRI.cons ?_ (StepsRI.cons ?_ (StepsRI.cons ?_ (StepsRI.cons ?_ (StepsRI.cons ?_ (StepsRI.cons ?_ (StepsRI.cons ?_ (StepsRI.cons ?_ (StepsRI.nil)))))))))))))))))
    · intro lQ b W hI hUN hED KQ hKQ
      exact opw_move 0 rfl (hKQ.out _ _ (hI.put 0 35 rfl rfl (by rw [hz]; decide) rfl hUN rfl HBB (rw7_stb ad nd cd doc A0 N0 c0 xs alg at2 sc x h nn V w.heap.size (w2.heap.size)) (Below.refl _ _) ((hI.fr.same 0 (by decide)).trans g0)))
    · intro lQ b W hI hUN hED KQ hKQ
      have f0 := hI.got 0 (of_decide_eq_true rfl) (edge hED 0 (by kernel_rfl)) rfl
      replace f0 : aT b 35 = .slice ad nd cd := f0
      refine opw_call 6 #[.tmp 35] _ _ _ rfl Tryz.func6 (by kernel_rfl) rfl #[.slice ad nd cd] (by simp [ev, f0]) ?_
      refine (toByteS_any ad nd cd doc W (HRR.out W hI.bel).1 hnd).mono ?_
      rintro e W2 ⟨a1, rfl, ho, hb⟩
      exact ⟨_, rfl, hKQ.out _ _ (hI.put 1 36 rfl rfl (by rw [hz]; decide) rfl hUN rfl HBB (rw7_stb ad nd cd doc A0 N0 c0 xs alg at2 sc x h nn V w.heap.size (w2.heap.size)) hb ⟨a1, rfl, ho.mono (Nat.le_trans HBB hI.bel.size)⟩)⟩
    · intro lQ b W hI hUN hED KQ hKQ
      exact opw_move 1 rfl (hKQ.out _ _ (hI.put 2 37 rfl rfl (by rw [hz]; decide) rfl hUN rfl HBB (rw7_stb ad nd cd doc A0 N0 c0 xs alg at2 sc x h nn V w.heap.size (w2.heap.size)) (Below.refl _ _) ((hI.fr.same 1 (by decide)).trans g1)))
    · intro lQ b W hI hUN hED KQ hKQ
      have f0 := hI.got 2 (of_decide_eq_true rfl) (edge hED 2 (by kernel_rfl)) rfl
      replace f0 : aT b 37 = .slice A0 N0 c0 := f0
      refine opw_call 7 #[.tmp 37] _ _ _ rfl Tryz.func7 (by kernel_rfl) rfl #[.slice A0 N0 c0] (by simp [ev, f0]) ?_
      refine (toStampX_any A0 N0 c0 xs W (HRR.out W hI.bel).2 hns HZ.out).mono ?_
      rintro e W2 ⟨a2, rfl, ho, hb⟩
      exact ⟨_, rfl, hKQ.out _ _ (hI.put 3 38 rfl rfl (by rw [hz]; decide) rfl hUN rfl HBB (rw7_stb ad nd cd doc A0 N0 c0 xs alg at2 sc x h nn V w.heap.size (w2.heap.size)) hb ⟨a2, rfl, ho.mono (Nat.le_trans HBB hI.bel.size)⟩)⟩
    · intro lQ b W hI hUN hED KQ hKQ
      exact opw_move 2 rfl (hKQ.out _ _ (hI.put 4 39 rfl rfl (by rw [hz]; decide) rfl hUN rfl HBB (rw7_stb ad nd cd doc A0 N0 c0 xs alg at2 sc x h nn V w.heap.size (w2.heap.size)) (Below.refl _ _) ((hI.fr.same 2 (by decide)).trans g2)))
    · intro lQ b W hI hUN hED KQ hKQ
      exact opw_move 3 rfl (hKQ.out _ _ (hI.put 5 40 rfl rfl (by rw [hz]; decide) rfl hUN rfl HBB (rw7_stb ad nd cd doc A0 N0 c0 xs alg at2 sc x h nn V w.heap.size (w2.heap.size)) (Below.refl _ _) ((hI.fr.same 3 (by decide)).trans g3)))
    · intro lQ b W hI hUN hED KQ hKQ
      have hg := (hI.vot 17 (of_decide_eq_true rfl) (of_decide_eq_true rfl) rfl)
      refine wp_load_row 26 _ rfl (w.heap.size) ((hI.fr.same 9 (by decide)).trans g9) 26 #[.int .i64 sc, .int .u64 x, .int .i64 h, .int .i64 nn] (0, 0) _ hg Tryz.underlying26 rfl (by kernel_rfl) ?_
      exact hKQ.out _ _ (hI.put 6 41 rfl rfl (by rw [hz]; decide) rfl hUN rfl HBB (rw7_stb ad nd cd doc A0 N0 c0 xs alg at2 sc x h nn V w.heap.size (w2.heap.size)) (Below.refl _ _) rfl)
    · intro lQ b W hI hUN hED KQ hKQ
      have f0 := hI.got 6 (of_decide_eq_true rfl) (edge hED 6 (by kernel_rfl)) rfl
      replace f0 : aT b 41 = .agg #[.int .i64 sc, .int .u64 x, .int .i64 h, .int .i64 nn] := f0
      refine opw_call 8 #[.tmp 41] _ _ _ rfl Tryz.func8 (by kernel_rfl) rfl #[.agg #[.int .i64 sc, .int .u64 x, .int .i64 h, .int .i64 nn]] (by simp [ev, f0]) ?_
      refine (toSecret_agg sc x h nn W).mono ?_
      rintro e W2 ⟨rfl, hb⟩
      exact ⟨_, rfl, hKQ.out _ _ (hI.put 7 42 rfl rfl (by rw [hz]; decide) rfl hUN rfl HBB (rw7_stb ad nd cd doc A0 N0 c0 xs alg at2 sc x h nn V w.heap.size (w2.heap.size)) hb rfl)⟩
    · intro lQ b W hI hUN hED KQ hKQ
      have f0 := hI.got 1 (of_decide_eq_true rfl) (edge hED 1 (by kernel_rfl)) rfl
      obtain ⟨a1, f0, o0_0⟩ := f0
      replace f0 : aT b 36 = .slice a1 nd nd := f0
      have f1 := hI.got 3 (of_decide_eq_true rfl) (edge hED 3 (by kernel_rfl)) rfl
      obtain ⟨a2, f1, o1_0⟩ := f1
      replace f1 : aT b 38 = .slice a2 N0 N0 := f1
      have f2 := hI.got 4 (of_decide_eq_true rfl) (edge hED 4 (by kernel_rfl)) rfl
      replace f2 : aT b 39 = .int .i64 alg := f2
      have f3 := hI.got 5 (of_decide_eq_true rfl) (edge hED 5 (by kernel_rfl)) rfl
      replace f3 : aT b 40 = .int .i64 at2 := f3
      have f4 := hI.got 7 (of_decide_eq_true rfl) (edge hED 7 (by kernel_rfl)) rfl
      replace f4 : aT b 42 = .agg #[.int .i64 sc, .int .u64 x, .int .i64 h, .int .i64 nn] := f4
      refine opw_call 5 #[.tmp 36, .tmp 38, .tmp 39, .tmp 40, .tmp 42] _ _ _ rfl Tryz.func5 (by kernel_rfl) rfl #[.slice a1 nd nd, .slice a2 N0 N0, .int .i64 alg, .int .i64 at2, .agg #[.int .i64 sc, .int .u64 x, .int .i64 h, .int .i64 nn]] (by simp [ev, f0, f1, f2, f3, f4]) ?_
      refine (HSP.out W _ a1 a2 o0_0 o1_0).mono ?_
      rintro e W2 ⟨a3, c3, rfl, ho, hb⟩
      exact ⟨_, rfl, hKQ.out _ _ (hI.put 8 43 rfl rfl (by rw [hz]; decide) rfl hUN rfl HBB (rw7_stb ad nd cd doc A0 N0 c0 xs alg at2 sc x h nn V w.heap.size (w2.heap.size)) hb ⟨a3, c3, rfl, ho.mono (Nat.le_trans HBB hI.bel.size)⟩)⟩
    · intro lQ b W hI hUN hED KQ hKQ
      have f := hI.got 8 (of_decide_eq_true rfl) (edge hED 8 (by kernel_rfl)) rfl
      exact opw_move 43 rfl (hKQ.out _ _ (hI.put 9 34 rfl rfl (by rw [hz]; decide) rfl hUN rfl HBB (rw7_stb ad nd cd doc A0 N0 c0 xs alg at2 sc x h nn V w.heap.size (w2.heap.size)) (Below.refl _ _) f))
    · intro lQ b W hI hUN hED KQ hKQ
      have f := hI.got 9 (of_decide_eq_true rfl) (edge hED 9 (by kernel_rfl)) rfl
      obtain ⟨a3, c3, f, o_0⟩ := f
      exact opw_extract 34 0 rfl _ _ f rfl (hKQ.out _ _ (hI.put 10 44 rfl rfl (by rw [hz]; decide) rfl hUN rfl HBB (rw7_stb ad nd cd doc A0 N0 c0 xs alg at2 sc x h nn V w.heap.size (w2.heap.size)) (Below.refl _ _) ⟨a3, c3, rfl, o_0⟩))
    · intro lQ b W hI hUN hED KQ hKQ
      have f := hI.got 9 (of_decide_eq_true rfl) (edge hED 9 (by kernel_rfl)) rfl
      obtain ⟨a3, c3, f, o_0⟩ := f
      exact opw_extract 34 1 rfl _ _ f rfl (hKQ.out _ _ (hI.put 11 45 rfl rfl (by rw [hz]; decide) rfl hUN rfl HBB (rw7_stb ad nd cd doc A0 N0 c0 xs alg at2 sc x h nn V w.heap.size (w2.heap.size)) (Below.refl _ _) rfl))
    · intro lQ b W hI hUN hED KQ hKQ
      have f := hI.got 9 (of_decide_eq_true rfl) (edge hED 9 (by kernel_rfl)) rfl
      obtain ⟨a3, c3, f, o_0⟩ := f
      exact opw_extract 34 2 rfl _ _ f rfl (hKQ.out _ _ (hI.put 12 46 rfl rfl (by rw [hz]; decide) rfl hUN rfl HBB (rw7_stb ad nd cd doc A0 N0 c0 xs alg at2 sc x h nn V w.heap.size (w2.heap.size)) (Below.refl _ _) rfl))
    · intro lQ b W hI hUN hED KQ hKQ
      refine opw_value (w' := W.alloc (.cells #[.int .i64 0, .int .u64 0, .int .i64 0, .int .i64 0] 29)) (.pointer (some ⟨W.heap.size, 0, none⟩)) (by kernel_rfl) ?_
      exact hKQ.out _ _ (hI.put 13 13 rfl rfl (by rw [hz]; decide) rfl hUN rfl HBB (rw7_stb ad nd cd doc A0 N0 c0 xs alg at2 sc x h nn V w.heap.size (w2.heap.size)) ((Below.refl _ _).alloc (Nat.le_refl _) _) ⟨W.heap.size, rfl, heap_alloc_new W _, Nat.le_trans HBB hI.bel.size⟩)
    · intro lQ b W hI hUN hED KQ hKQ
      have f := hI.got 10 (of_decide_eq_true rfl) (edge hED 10 (by kernel_rfl)) rfl
      exact opw_assign 44 rfl (hKQ.out _ _ (hI.put 14 12 rfl rfl (by rw [hz]; decide) rfl hUN rfl HBB (rw7_stb ad nd cd doc A0 N0 c0 xs alg at2 sc x h nn V w.heap.size (w2.heap.size)) (Below.refl _ _) f))
    · intro lQ b W hI hUN hED KQ hKQ
      obtain ⟨g, fb, hgb, hge⟩ := hI.got1 13 15 (of_decide_eq_true rfl) (edge hED 13 (by kernel_rfl)) hUN rfl
      have f := hI.got 11 (of_decide_eq_true rfl) (edge hED 11 (by kernel_rfl)) rfl
      refine wp_store_row 29 _ _ rfl g #[.int .i64 V.t.1, .int .u64 V.t.2.1, .int .i64 V.t.2.2.1, .int .i64 V.t.2.2.2] fb f 29 _ hgb (by kernel_rfl) rfl (by simp [Value.oneCell']) ?_
      have ht := setRow_touch W g #[.int .i64 V.t.1, .int .u64 V.t.2.1, .int .i64 V.t.2.2.1, .int .i64 V.t.2.2.2]
      exact hKQ.out _ _ (hI.store 15 (fun j hj => by
          rcases List.mem_singleton.1 hj with rfl
          exact edge hED 13 (by kernel_rfl)) (hI.bel.trans (ht.below hge (Nat.le_trans HBB hI.bel.size))) (rw7_st15 ad nd cd doc A0 N0 c0 xs alg at2 sc x h nn V w.heap.size (w2.heap.size) hgb ht hge) ⟨g, fb, (setRow_heap W g _ _ _ _ hgb), hge⟩)
    · intro lQ b W hI hUN hED KQ hKQ
      have f := hI.got 12 (of_decide_eq_true rfl) (edge hED 12 (by kernel_rfl)) rfl
      exact opw_assign 46 rfl (hKQ.out _ _ (hI.put 16 14 rfl rfl (by rw [hz]; decide) rfl hUN rfl HBB (rw7_stb ad nd cd doc A0 N0 c0 xs alg at2 sc x h nn V w.heap.size (w2.heap.size)) (Below.refl _ _) f))
  · intro b W hf hb F
    obtain ⟨aw, cw, eG, hO⟩ := F 14 (of_decide_eq_true rfl) rfl
    obtain ⟨gs, eS, hS0, hSge⟩ := F 15 (of_decide_eq_true rfl) rfl
    have eK := F 16 (of_decide_eq_true rfl) rfl
    replace eG : aT b 12 = _ := eG
    replace eS : aT b 13 = _ := eS
    replace eK : aT b 14 = _ := eK
    rw [hf.eq]
    simp only [puts, Act.put, List.setIfInBounds_toArray, List.set_cons_zero, List.set_cons_succ, eG, eS, eK]
    clear hf F
    clear eG eS eK
    generalize aT b = AT
    clear b
    obtain ⟨wA, hWn⟩ : ∃ wA, wA = W := ⟨_, rfl⟩
    subst hWn
    have HLA : Hid (Bxs [(w.heap.size, #[.int .i64 sc, .int .u64 x, .int .i64 h, .int .i64 nn], 26), (gs, #[.int .i64 V.t.1, .int .u64 V.t.2.1, .int .i64 V.t.2.2.1, .int .i64 V.t.2.2.2], 29)] wA) := by
      refine ⟨fun p hp => ?_⟩
      have h1 := HL2.out.kept hb
      simp only [List.mem_cons, List.not_mem_nil, or_false] at hp
      rcases hp with rfl | rfl
      all_goals first | exact hS0 | exact h1.all _ (by simp)
    have hcA := keepT hc2 hb
    obtain ⟨psw, hw1, hw2, _⟩ := hO.ex
    have HSI : Hid (InS w2.heap.size wA.heap.size aw V.xs.length cw psw) := hw1.inS
    have HSA : Hid (OwnS w2.heap.size wA aw V.xs.length cw psw) := hw1
    have HSX : Hid (xsOf psw = V.xs) := hw2
    have hgsl := (Array.getElem?_eq_some_iff.1 hS0).1
    have hsA := hb.size
    clear hS0 hO hw1 hw2 HL2 hb
    go_wp2_with fail
    refine (toByteS_any ad nd cd doc _ (HRM.out _ hcA).1 hnd).mono ?_
    rintro e w4 ⟨ax, rfl, hox, hb4⟩
    have hc4 := keepT hcA hb4
    have HX4 : Hid (Own wA.heap.size w4 ax nd nd doc) := hox
    have HXL : Hid (∀ k, (Value.slice ax nd nd).ownBlock = some k → wA.heap.size ≤ k ∧ k < w4.heap.size) := fun k hk => ⟨(hox.row.lt k hk).1, (hox.row.lt k hk).2⟩
    have hs4 := hb4.size
    clear hox
    go_wp2_with fail
    refine (toStampS_own _ A0 N0 c0 xs _ (HRM.out _ hc4).2 hns HZ.out).mono ?_
    rintro e w5 ⟨ay, rfl, ⟨psy, hoy, hye, hyk⟩, hb5⟩
    have hc5 := keepT hc4 hb5
    have HY5 : Hid (OwnS w4.heap.size w5 ay N0 N0 psy) := hoy
    have HYI : Hid (InS w4.heap.size w5.heap.size ay N0 N0 psy) := hoy.inS
    have HYE : Hid (xsOf psy = xs ∧ ∀ j, j < N0 → KC (psy.getD j sq0).1.2.1 (psy.getD j sq0).1.2.2) := ⟨hye, fun j hj => ⟨(hyk j hj).2, (hyk j hj).1⟩⟩
    have HX5 : Hid (_) := HX4.out.kept hb5
    have hb45 := keepT hb4 hb5
    have HL5 : Hid (_) := HLA.out.kept hb45
    have HS5 : Hid (_) := HSA.out.kept hb45
    have hs5 := hb5.size
    clear hoy hye hyk HX4 HLA HSA hb45 hb5 hb4
    obtain ⟨x0, x1, x2, x3⟩ := cells4 (HL5.out.all (w.heap.size, #[.int .i64 sc, .int .u64 x, .int .i64 h, .int .i64 nn], 26) (by simp))
    go_wp2_with fail
    refine (toSecret_agg sc x h nn _).mono ?_
    rintro e w6 ⟨rfl, hb6⟩
    clear x0 x1 x2 x3
    have hs6 := hb6.size
    go_wp2_with fail
    refine (HIM.out _ _ ax ay (HX5.out.kept hb6) ⟨psy, (HY5.out.kept hb6).mono (by omega), HYE.out.1, HYE.out.2⟩).mono ?_
    rintro e w7 ⟨ai, ci, rfl, hoi, hb7⟩
    obtain ⟨psi, hi1, hi2, _⟩ := hoi.ex
    have hb67 := keepT hb6 hb7
    have hs7 := hb7.size
    obtain ⟨w8, hw8⟩ : ∃ w8, w8 = w7.alloc (.cells #[.int .i64 V.t.1, .int .u64 V.t.2.1, .int .i64 V.t.2.2.1, .int .i64 V.t.2.2.2] 29) := ⟨_, rfl⟩
    have hb8 : Below w7.heap.size w7 w8 := by rw [hw8]; exact (Below.refl _ _).alloc (Nat.le_refl _) _
    have hb58 := keepT hb67 hb8
    have hc8 := keepT hc5 hb58
    have HXN : Hid (w8.heap[w7.heap.size]? = some (.cells #[.int .i64 V.t.1, .int .u64 V.t.2.1, .int .i64 V.t.2.2.1, .int .i64 V.t.2.2.2] 29 (0, 0))) := by show _ = _; rw [hw8]; exact heap_alloc_new w7 _
    have HL8 : Hid (Bxs [(w.heap.size, #[.int .i64 sc, .int .u64 x, .int .i64 h, .int .i64 nn], 26), (gs, #[.int .i64 V.t.1, .int .u64 V.t.2.1, .int .i64 V.t.2.2.1, .int .i64 V.t.2.2.2], 29), (w7.heap.size, #[.int .i64 V.t.1, .int .u64 V.t.2.1, .int .i64 V.t.2.2.1, .int .i64 V.t.2.2.2], 29)] w8) := by
      refine ⟨fun p hp => ?_⟩
      have h1 := HL5.out.kept hb58
      simp only [List.mem_cons, List.not_mem_nil, or_false] at hp
      rcases hp with rfl | rfl | rfl
      all_goals first | exact HXN.out | exact h1.all _ (by simp)
    have HI8 : Hid (OwnS w6.heap.size w8 ai V.xs.length ci psi) := hi1.kept hb8
    have HII : Hid (InS w6.heap.size w7.heap.size ai V.xs.length ci psi) := hi1.inS
    have HIX : Hid (xsOf psi = V.xs) := hi2
    have HS8 : Hid (_) := HS5.out.kept hb58
    have HX8 : Hid (_) := HX5.out.kept hb58
    have HY8 : Hid (_) := HY5.out.kept hb58
    have hs8 := hb8.size
    have HW : Hid (_ = _) := hw8
    clear hw8 hi1 hi2 hoi HX5 HY5 HS5 HL5 HXN hb58 hb8 hb67 hb7 hb6
    go_upto_region 11 with fail
    rw [← HW.out]
    clear HW
    go_wp2_with fail
    refine (eqStampS_same KT KT ai aw V.xs.length ci cw V.xs _ ((OwnX.ofS HI8.out HIX.out).sts (by omega) HVZ.out) ((OwnX.ofS HS8.out HSX.out).sts (by omega) HVZ.out)).mono ?_
    rintro e w9a ⟨rfl, hw9a⟩
    have HZZ : Hid (_) := HL8.out.kept hw9a
    obtain ⟨x0, x1, x2, x3⟩ := cells4 (HZZ.out.all (w7.heap.size, #[.int .i64 V.t.1, .int .u64 V.t.2.1, .int .i64 V.t.2.2.1, .int .i64 V.t.2.2.2], 29) (by simp))
    obtain ⟨y0, y1, y2, y3⟩ := cells4 (HZZ.out.all (gs, #[.int .i64 V.t.1, .int .u64 V.t.2.1, .int .i64 V.t.2.2.1, .int .i64 V.t.2.2.2], 29) (by simp))
    go_wp2_with fail
    refine (eqSecret_same V.t _).mono ?_
    rintro e w9 ⟨rfl, hw9b⟩
    clear x0 x1 x2 x3 y0 y1 y2 y3 HZZ
    have hw9 := keepT hw9a hw9b
    clear hw9a hw9b
    have hc9 := keepT hc8 hw9
    have HL9 : Hid (_) := HL8.out.kept hw9
    have HI9 : Hid (_) := HI8.out.kept hw9
    have HS9 : Hid (_) := HS8.out.kept hw9
    have HX9 : Hid (_) := HX8.out.kept hw9
    have HY9 : Hid (_) := HY8.out.kept hw9
    have hs9 := hw9.size
    clear HL8 HI8 HS8 HX8 HY8 hw9
    go_wp2_with fail
    refine (toByteS_any ad nd cd doc _ (HRM.out _ hc9).1 hnd).mono ?_
    rintro e wC ⟨az, rfl, hoz, hbC⟩
    go_wp2_with fail
    refine (eqByteS_sameR ax az nd nd nd doc _ (HX9.out.kept hbC).toRow hoz.toRow hnd).mono ?_
    rintro e wD ⟨rfl, hbD⟩
    clear hoz
    have h9D := keepT hbC hbD
    have hcD := keepT hc9 h9D
    go_wp2_with fail
    refine (toStampX_any A0 N0 c0 xs _ (HRM.out _ hcD).2 hns HZ.out).mono ?_
    rintro e wE ⟨az, rfl, hoz, hbE⟩
    have hDE := keepT h9D hbE
    go_wp2_with fail
    refine (eqStampS_same KC KC ay az N0 N0 N0 xs _ (OwnX.sts ⟨psy, HY9.out.kept hDE, HYE.out.1, HYE.out.2⟩ (by omega) HZ.out) (hoz.sts (by omega) HZ.out)).mono ?_
    rintro e wF ⟨rfl, hbF⟩
    clear hoz
    have h9F := keepT hDE hbF
    have hcF := keepT hc9 h9F
    have HLF : Hid (_) := HL9.out.kept h9F
    have HIF : Hid (_) := HI9.out.kept h9F
    have HSF : Hid (_) := HS9.out.kept h9F
    have HXF : Hid (_) := HX9.out.kept h9F
    have HYF : Hid (_) := HY9.out.kept h9F
    have hsF := h9F.size
    clear HL9 HI9 HS9 HX9 HY9 hbC hbD hbE hbF h9D hDE h9F hcD
    go_wp2_with fail
    refine (markByteS_int wA.heap.size ax nd nd 1 doc _ HXF.out (by omega) (by decide) (by decide)).mono ?_
    rintro e wG ⟨rfl, _, hgG⟩
    have htG : Touch wA.heap.size w4.heap.size wF wG := touch_gR hgG HXL.out
    have hcG : Below w1.heap.size w1 wG := hcF.trans (htG.below (by omega) (by have := hcF.size; omega))
    have HLG : Hid (_) := HLF.out.touch htG (by simp; omega)
    have HIG : Hid (_) := HIF.out.touchIn HII.out (.inr (by omega)) htG
    have HSG : Hid (_) := HSF.out.touchIn HSI.out (.inl (by omega)) htG
    have HYG : Hid (_) := HYF.out.touchIn HYI.out (.inr (by omega)) htG
    have hsG := htG.size
    clear htG hgG HLF HIF HSF HXF HYF
    obtain ⟨kk, hkk⟩ : ∃ kk : Nat, kk = 1 + nd := ⟨_, rfl⟩
    have ek : (1 : Int) + (nd : Int) = ((kk : Nat) : Int) := by omega
    rw [ek]
    have hkb : kk ≤ 1048577 := by omega
    clear ek hkk
    go_wp2_with fail
    refine (markStampS_any w4.heap.size w4.heap.size w5.heap.size ay N0 N0 kk psy _ HYG.out (by omega) (fun j hj => (HYE.out.2 j hj).2) (by omega) HYI.out).mono ?_
    rintro e wH ⟨rfl, _, htH⟩
    have hcH : Below w1.heap.size w1 wH := hcG.trans (htH.below (by omega) (by have := hcG.size; omega))
    have HLH : Hid (_) := HLG.out.touch htH (by simp; omega)
    have HIH : Hid (_) := HIG.out.touchIn HII.out (.inr (by omega)) htH
    have HSH : Hid (_) := HSG.out.touchIn HSI.out (.inl (by omega)) htH
    have hsH := htH.size
    clear htH HLG HIG HSG HYG
    obtain ⟨k2, hk2⟩ : ∃ k2 : Int, k2 = ((mkNx psy N0 kk : Nat) : Int) := ⟨_, rfl⟩
    have kz : ¬ (k2 < 0) := by omega
    rw [← hk2]
    clear hk2
    go_wp2_with fail
    refine (eqStampS_same KT KT ai aw V.xs.length ci cw V.xs _ ((OwnX.ofS HIH.out HIX.out).sts (by omega) HVZ.out) ((OwnX.ofS HSH.out HSX.out).sts (by omega) HVZ.out)).mono ?_
    rintro e wIa ⟨rfl, hwIa⟩
    have HZZ : Hid (_) := HLH.out.kept hwIa
    obtain ⟨x0, x1, x2, x3⟩ := cells4 (HZZ.out.all (w7.heap.size, #[.int .i64 V.t.1, .int .u64 V.t.2.1, .int .i64 V.t.2.2.1, .int .i64 V.t.2.2.2], 29) (by simp))
    obtain ⟨y0, y1, y2, y3⟩ := cells4 (HZZ.out.all (gs, #[.int .i64 V.t.1, .int .u64 V.t.2.1, .int .i64 V.t.2.2.1, .int .i64 V.t.2.2.2], 29) (by simp))
    go_wp2_with fail
    refine (eqSecret_same V.t _).mono ?_
    rintro e wI ⟨rfl, hwIb⟩
    clear x0 x1 x2 x3 y0 y1 y2 y3 HZZ
    have hwI := keepT hwIa hwIb
    clear hwIa hwIb
    have hcI := keepT hcH hwI
    have HLI : Hid (_) := HLH.out.kept hwI
    have HII2 : Hid (_) := HIH.out.kept hwI
    have HSI2 : Hid (_) := HSH.out.kept hwI
    have hsI := hwI.size
    clear HLH HIH HSH hwI
    obtain ⟨M, hM⟩ : ∃ M : Nat, M = mkNx psi V.xs.length 1 := ⟨_, rfl⟩
    have HPL := HII2.out.len
    have HHE : Hid (∀ W : World, OwnS w6.heap.size W ai V.xs.length ci (mkTo psi V.xs.length 1) → Calls Tryz.prog 15 #[.slice ai V.xs.length ci, .int .i64 1] W fun e w' => e = .returned (.int .i64 ((M : Nat) : Int)) ∧ Below W.heap.size W w') := fun W hW => by
      rw [hM]
      exact heldStampS_any w6.heap.size ai V.xs.length ci 1 psi W HPL hW (by omega) (HII2.out.lens HIX.out HVZ.out) (by decide)
    have HMA : Hid (∀ W : World, OwnS w6.heap.size W ai V.xs.length ci psi → Calls Tryz.prog 14 #[.slice ai V.xs.length ci, .int .i64 1] W fun e w' => e = .returned (.int .i64 ((M : Nat) : Int)) ∧ OwnS w6.heap.size w' ai V.xs.length ci (mkTo psi V.xs.length 1) ∧ Touch w6.heap.size w7.heap.size W w') := fun W hW => by
      rw [hM]
      exact markStampS_any w6.heap.size w6.heap.size w7.heap.size ai V.xs.length ci 1 psi W hW (by omega) (HII2.out.lens HIX.out HVZ.out) (by decide) HII.out
    clear hM HPL
    have tq : (((M : Nat) : Int) != ((M : Nat) : Int)) = false := by simp
    have tz : ¬ (((M : Nat) : Int) < 0) := by omega
    go_wp2_with fail
    refine (HMA.out _ HII2.out).mono ?_
    rintro e wK ⟨rfl, hoK, htK⟩
    have hcK : Below w1.heap.size w1 wK := hcI.trans (htK.below (by omega) (by have := hcI.size; omega))
    have HLK : Hid (_) := HLI.out.touch htK (by simp; omega)
    have HSK : Hid (_) := HSI2.out.touchIn HSI.out (.inl (by omega)) htK
    have HIK : Hid (_) := hoK
    clear hoK htK HLI HII2 HSI2
    go_wp2_with fail
    refine (HHE.out _ HIK.out).mono ?_
    rintro e wM ⟨rfl, hwM⟩
    have hcM := keepT hcK hwM
    have HLM : Hid (_) := HLK.out.kept hwM
    have HSM : Hid (OwnX KT w2.heap.size wM aw V.xs.length cw V.xs) := OwnX.ofS (HSK.out.kept hwM) HSX.out
    have HIM2 : Hid (_) := HIK.out.kept hwM
    have hc0 := keepT hb0 hcM
    clear HLK HSK HIK hwM
    go_upto_region 30 with fail
    have HBB : wM.heap.size ≤ wM.heap.size := Nat.le_refl _
    have HRR : Hid (∀ W, Below wM.heap.size wM W → Row W ad nd doc ∧ Sts (fun _ _ => True) W A0 N0 xs) := fun W hW => HRM.out W (keepT hcM hW)
    refine wp_region_ri (rw30 ad nd cd doc A0 N0 c0 xs alg at2 sc x h nn V w.heap.size (wM.heap.size)) [23, 24, 25, 123, 124, 125, 126, 127, 128, 129, 130, 131, 132, 133, 134, 135] (wM.heap.size) (fun a0 => a0.tmps.size = 159 ∧ aT a0 0 = .slice ad nd cd ∧ aT a0 1 = .slice A0 N0 c0 ∧ aT a0 2 = .int .i64 alg ∧ aT a0 3 = .int .i64 at2 ∧ aT a0 9 = .pointer (some ⟨w.heap.size, 0, none⟩)) (by kernel_rfl) rfl (by kernel_rfl) rfl ⟨rfl, rfl, rfl, rfl, rfl, rfl⟩ (rw30_stb ad nd cd doc A0 N0 c0 xs alg at2 sc x h nn V w.heap.size (wM.heap.size)) ?_ ?_ ?_
    · intro k hk hk2
      match k, hk, hk2 with
      | 17, _, _ => exact (HLM.out.all (w.heap.size, #[.int .i64 sc, .int .u64 x, .int .i64 h, .int .i64 nn], 26) (by simp))
      | 0, hk, _ => exact absurd hk (by show ¬ (17 ≤ 0); omega)
      | 1, hk, _ => exact absurd hk (by show ¬ (17 ≤ 1); omega)
      | 2, hk, _ => exact absurd hk (by show ¬ (17 ≤ 2); omega)
      | 3, hk, _ => exact absurd hk (by show ¬ (17 ≤ 3); omega)
      | 4, hk, _ => exact absurd hk (by show ¬ (17 ≤ 4); omega)
      | 5, hk, _ => exact absurd hk (by show ¬ (17 ≤ 5); omega)
      | 6, hk, _ => exact absurd hk (by show ¬ (17 ≤ 6); omega)
      | 7, hk, _ => exact absurd hk (by show ¬ (17 ≤ 7); omega)
      | 8, hk, _ => exact absurd hk (by show ¬ (17 ≤ 8); omega)
      | 9, hk, _ => exact absurd hk (by show ¬ (17 ≤ 9); omega)
      | 10, hk, _ => exact absurd hk (by show ¬ (17 ≤ 10); omega)
      | 11, hk, _ => exact absurd hk (by show ¬ (17 ≤ 11); omega)
      | 12, hk, _ => exact absurd hk (by show ¬ (17 ≤ 12); omega)
      | 13, hk, _ => exact absurd hk (by show ¬ (17 ≤ 13); omega)
      | 14, hk, _ => exact absurd hk (by show ¬ (17 ≤ 14); omega)
      | 15, hk, _ => exact absurd hk (by show ¬ (17 ≤ 15); omega)
      | 16, hk, _ => exact absurd hk (by show ¬ (17 ≤ 16); omega)
      | k + 18, _, hk2 => exact absurd hk2 (by show ¬ (k + 18 < 18); omega)
    · rintro a0 ⟨hz, g0, g1, g2, g3, g9⟩
      refine StepsRI.cons ?_ (StepsRI.cons ?_ (StepsRI.cons ?_ (StepsRI.cons ?_ (StepsRI.cons ?_ (StepsRI.cons ?_ (StepsRI.cons ?_ (StepsRI.cons ?_ (StepsRI.cons ?_ (StepsRI.cons ?_ (StepsRI.cons ?_ (StepsRI.cons ?_ (StepsRI.cons ?_ (StepsRI.cons ?_ (StepsRI.cons ?_ (StepsRI.cons ?_ (StepsRI.cons ?_ (StepsRI.nil)))))))))))))))))
      · intro lQ b W hI hUN hED KQ hKQ
        exact opw_move 0 rfl (hKQ.out _ _ (hI.put 0 124 rfl rfl (by rw [hz]; decide) rfl hUN rfl HBB (rw30_stb ad nd cd doc A0 N0 c0 xs alg at2 sc x h nn V w.heap.size (wM.heap.size)) (Below.refl _ _) ((hI.fr.same 0 (by decide)).trans g0)))
      · intro lQ b W hI hUN hED KQ hKQ
        have f0 := hI.got 0 (of_decide_eq_true rfl) (edge hED 0 (by kernel_rfl)) rfl
        replace f0 : aT b 124 = .slice ad nd cd := f0
        refine opw_call 6 #[.tmp 124] _ _ _ rfl Tryz.func6 (by kernel_rfl) rfl #[.slice ad nd cd] (by simp [ev, f0]) ?_
        refine (toByteS_any ad nd cd doc W (HRR.out W hI.bel).1 hnd).mono ?_
        rintro e W2 ⟨a1, rfl, ho, hb⟩
        exact ⟨_, rfl, hKQ.out _ _ (hI.put 1 125 rfl rfl (by rw [hz]; decide) rfl hUN rfl HBB (rw30_stb ad nd cd doc A0 N0 c0 xs alg at2 sc x h nn V w.heap.size (wM.heap.size)) hb ⟨a1, rfl, ho.mono (Nat.le_trans HBB hI.bel.size)⟩)⟩
      · intro lQ b W hI hUN hED KQ hKQ
        exact opw_move 1 rfl (hKQ.out _ _ (hI.put 2 126 rfl rfl (by rw [hz]; decide) rfl hUN rfl HBB (rw30_stb ad nd cd doc A0 N0 c0 xs alg at2 sc x h nn V w.heap.size (wM.heap.size)) (Below.refl _ _) ((hI.fr.same 1 (by decide)).trans g1)))
      · intro lQ b W hI hUN hED KQ hKQ
        have f0 := hI.got 2 (of_decide_eq_true rfl) (edge hED 2 (by kernel_rfl)) rfl
        replace f0 : aT b 126 = .slice A0 N0 c0 := f0
        refine opw_call 7 #[.tmp 126] _ _ _ rfl Tryz.func7 (by kernel_rfl) rfl #[.slice A0 N0 c0] (by simp [ev, f0]) ?_
        refine (toStampX_any A0 N0 c0 xs W (HRR.out W hI.bel).2 hns HZ.out).mono ?_
        rintro e W2 ⟨a2, rfl, ho, hb⟩
        exact ⟨_, rfl, hKQ.out _ _ (hI.put 3 127 rfl rfl (by rw [hz]; decide) rfl hUN rfl HBB (rw30_stb ad nd cd doc A0 N0 c0 xs alg at2 sc x h nn V w.heap.size (wM.heap.size)) hb ⟨a2, rfl, ho.mono (Nat.le_trans HBB hI.bel.size)⟩)⟩
      · intro lQ b W hI hUN hED KQ hKQ
        exact opw_move 2 rfl (hKQ.out _ _ (hI.put 4 128 rfl rfl (by rw [hz]; decide) rfl hUN rfl HBB (rw30_stb ad nd cd doc A0 N0 c0 xs alg at2 sc x h nn V w.heap.size (wM.heap.size)) (Below.refl _ _) ((hI.fr.same 2 (by decide)).trans g2)))
      · intro lQ b W hI hUN hED KQ hKQ
        exact opw_move 3 rfl (hKQ.out _ _ (hI.put 5 129 rfl rfl (by rw [hz]; decide) rfl hUN rfl HBB (rw30_stb ad nd cd doc A0 N0 c0 xs alg at2 sc x h nn V w.heap.size (wM.heap.size)) (Below.refl _ _) ((hI.fr.same 3 (by decide)).trans g3)))
      · intro lQ b W hI hUN hED KQ hKQ
        have hg := (hI.vot 17 (of_decide_eq_true rfl) (of_decide_eq_true rfl) rfl)
        refine wp_load_row 26 _ rfl (w.heap.size) ((hI.fr.same 9 (by decide)).trans g9) 26 #[.int .i64 sc, .int .u64 x, .int .i64 h, .int .i64 nn] (0, 0) _ hg Tryz.underlying26 rfl (by kernel_rfl) ?_
        exact hKQ.out _ _ (hI.put 6 130 rfl rfl (by rw [hz]; decide) rfl hUN rfl HBB (rw30_stb ad nd cd doc A0 N0 c0 xs alg at2 sc x h nn V w.heap.size (wM.heap.size)) (Below.refl _ _) rfl)
      · intro lQ b W hI hUN hED KQ hKQ
        have f0 := hI.got 6 (of_decide_eq_true rfl) (edge hED 6 (by kernel_rfl)) rfl
        replace f0 : aT b 130 = .agg #[.int .i64 sc, .int .u64 x, .int .i64 h, .int .i64 nn] := f0
        refine opw_call 8 #[.tmp 130] _ _ _ rfl Tryz.func8 (by kernel_rfl) rfl #[.agg #[.int .i64 sc, .int .u64 x, .int .i64 h, .int .i64 nn]] (by simp [ev, f0]) ?_
        refine (toSecret_agg sc x h nn W).mono ?_
        rintro e W2 ⟨rfl, hb⟩
        exact ⟨_, rfl, hKQ.out _ _ (hI.put 7 131 rfl rfl (by rw [hz]; decide) rfl hUN rfl HBB (rw30_stb ad nd cd doc A0 N0 c0 xs alg at2 sc x h nn V w.heap.size (wM.heap.size)) hb rfl)⟩
      · intro lQ b W hI hUN hED KQ hKQ
        have f0 := hI.got 1 (of_decide_eq_true rfl) (edge hED 1 (by kernel_rfl)) rfl
        obtain ⟨a1, f0, o0_0⟩ := f0
        replace f0 : aT b 125 = .slice a1 nd nd := f0
        have f1 := hI.got 3 (of_decide_eq_true rfl) (edge hED 3 (by kernel_rfl)) rfl
        obtain ⟨a2, f1, o1_0⟩ := f1
        replace f1 : aT b 127 = .slice a2 N0 N0 := f1
        have f2 := hI.got 4 (of_decide_eq_true rfl) (edge hED 4 (by kernel_rfl)) rfl
        replace f2 : aT b 128 = .int .i64 alg := f2
        have f3 := hI.got 5 (of_decide_eq_true rfl) (edge hED 5 (by kernel_rfl)) rfl
        replace f3 : aT b 129 = .int .i64 at2 := f3
        have f4 := hI.got 7 (of_decide_eq_true rfl) (edge hED 7 (by kernel_rfl)) rfl
        replace f4 : aT b 131 = .agg #[.int .i64 sc, .int .u64 x, .int .i64 h, .int .i64 nn] := f4
        refine opw_call 9 #[.tmp 125, .tmp 127, .tmp 128, .tmp 129, .tmp 131] _ _ _ rfl Tryz.func9 (by kernel_rfl) rfl #[.slice a1 nd nd, .slice a2 N0 N0, .int .i64 alg, .int .i64 at2, .agg #[.int .i64 sc, .int .u64 x, .int .i64 h, .int .i64 nn]] (by simp [ev, f0, f1, f2, f3, f4]) ?_
        refine (HIM.out W _ a1 a2 o0_0 o1_0).mono ?_
        rintro e W2 ⟨a3, c3, rfl, ho, hb⟩
        exact ⟨_, rfl, hKQ.out _ _ (hI.put 8 132 rfl rfl (by rw [hz]; decide) rfl hUN rfl HBB (rw30_stb ad nd cd doc A0 N0 c0 xs alg at2 sc x h nn V w.heap.size (wM.heap.size)) hb ⟨a3, c3, rfl, ho.mono (Nat.le_trans HBB hI.bel.size)⟩)⟩
      · intro lQ b W hI hUN hED KQ hKQ
        have f := hI.got 8 (of_decide_eq_true rfl) (edge hED 8 (by kernel_rfl)) rfl
        exact opw_move 132 rfl (hKQ.out _ _ (hI.put 9 123 rfl rfl (by rw [hz]; decide) rfl hUN rfl HBB (rw30_stb ad nd cd doc A0 N0 c0 xs alg at2 sc x h nn V w.heap.size (wM.heap.size)) (Below.refl _ _) f))
      · intro lQ b W hI hUN hED KQ hKQ
        have f := hI.got 9 (of_decide_eq_true rfl) (edge hED 9 (by kernel_rfl)) rfl
        obtain ⟨a3, c3, f, o_0⟩ := f
        exact opw_extract 123 0 rfl _ _ f rfl (hKQ.out _ _ (hI.put 10 133 rfl rfl (by rw [hz]; decide) rfl hUN rfl HBB (rw30_stb ad nd cd doc A0 N0 c0 xs alg at2 sc x h nn V w.heap.size (wM.heap.size)) (Below.refl _ _) ⟨a3, c3, rfl, o_0⟩))
      · intro lQ b W hI hUN hED KQ hKQ
        have f := hI.got 9 (of_decide_eq_true rfl) (edge hED 9 (by kernel_rfl)) rfl
        obtain ⟨a3, c3, f, o_0⟩ := f
        exact opw_extract 123 1 rfl _ _ f rfl (hKQ.out _ _ (hI.put 11 134 rfl rfl (by rw [hz]; decide) rfl hUN rfl HBB (rw30_stb ad nd cd doc A0 N0 c0 xs alg at2 sc x h nn V w.heap.size (wM.heap.size)) (Below.refl _ _) rfl))
      · intro lQ b W hI hUN hED KQ hKQ
        have f := hI.got 9 (of_decide_eq_true rfl) (edge hED 9 (by kernel_rfl)) rfl
        obtain ⟨a3, c3, f, o_0⟩ := f
        exact opw_extract 123 2 rfl _ _ f rfl (hKQ.out _ _ (hI.put 12 135 rfl rfl (by rw [hz]; decide) rfl hUN rfl HBB (rw30_stb ad nd cd doc A0 N0 c0 xs alg at2 sc x h nn V w.heap.size (wM.heap.size)) (Below.refl _ _) rfl))
      · intro lQ b W hI hUN hED KQ hKQ
        refine opw_value (w' := W.alloc (.cells #[.int .i64 0, .int .u64 0, .int .i64 0, .int .i64 0] 29)) (.pointer (some ⟨W.heap.size, 0, none⟩)) (by kernel_rfl) ?_
        exact hKQ.out _ _ (hI.put 13 24 rfl rfl (by rw [hz]; decide) rfl hUN rfl HBB (rw30_stb ad nd cd doc A0 N0 c0 xs alg at2 sc x h nn V w.heap.size (wM.heap.size)) ((Below.refl _ _).alloc (Nat.le_refl _) _) ⟨W.heap.size, rfl, heap_alloc_new W _, Nat.le_trans HBB hI.bel.size⟩)
      · intro lQ b W hI hUN hED KQ hKQ
        have f := hI.got 10 (of_decide_eq_true rfl) (edge hED 10 (by kernel_rfl)) rfl
        exact opw_assign 133 rfl (hKQ.out _ _ (hI.put 14 23 rfl rfl (by rw [hz]; decide) rfl hUN rfl HBB (rw30_stb ad nd cd doc A0 N0 c0 xs alg at2 sc x h nn V w.heap.size (wM.heap.size)) (Below.refl _ _) f))
      · intro lQ b W hI hUN hED KQ hKQ
        obtain ⟨g, fb, hgb, hge⟩ := hI.got1 13 15 (of_decide_eq_true rfl) (edge hED 13 (by kernel_rfl)) hUN rfl
        have f := hI.got 11 (of_decide_eq_true rfl) (edge hED 11 (by kernel_rfl)) rfl
        refine wp_store_row 29 _ _ rfl g #[.int .i64 V.t.1, .int .u64 V.t.2.1, .int .i64 V.t.2.2.1, .int .i64 V.t.2.2.2] fb f 29 _ hgb (by kernel_rfl) rfl (by simp [Value.oneCell']) ?_
        have ht := setRow_touch W g #[.int .i64 V.t.1, .int .u64 V.t.2.1, .int .i64 V.t.2.2.1, .int .i64 V.t.2.2.2]
        exact hKQ.out _ _ (hI.store 15 (fun j hj => by
            rcases List.mem_singleton.1 hj with rfl
            exact edge hED 13 (by kernel_rfl)) (hI.bel.trans (ht.below hge (Nat.le_trans HBB hI.bel.size))) (rw30_st15 ad nd cd doc A0 N0 c0 xs alg at2 sc x h nn V w.heap.size (wM.heap.size) hgb ht hge) ⟨g, fb, (setRow_heap W g _ _ _ _ hgb), hge⟩)
      · intro lQ b W hI hUN hED KQ hKQ
        have f := hI.got 12 (of_decide_eq_true rfl) (edge hED 12 (by kernel_rfl)) rfl
        exact opw_assign 135 rfl (hKQ.out _ _ (hI.put 16 25 rfl rfl (by rw [hz]; decide) rfl hUN rfl HBB (rw30_stb ad nd cd doc A0 N0 c0 xs alg at2 sc x h nn V w.heap.size (wM.heap.size)) (Below.refl _ _) f))
    · intro b W hf hb F
      obtain ⟨aq, cq, eG, hO⟩ := F 14 (of_decide_eq_true rfl) rfl
      obtain ⟨qs, eS, hS0, hSge⟩ := F 15 (of_decide_eq_true rfl) rfl
      have eK := F 16 (of_decide_eq_true rfl) rfl
      replace eG : aT b 23 = _ := eG
      replace eS : aT b 24 = _ := eS
      replace eK : aT b 25 = _ := eK
      rw [hf.eq]
      simp only [puts, Act.put, List.setIfInBounds_toArray, List.set_cons_zero, List.set_cons_succ, eG, eS, eK]
      clear hf F
      clear eG eS eK
      generalize aT b = AT
      clear b
      obtain ⟨wQ, hWn⟩ : ∃ wQ, wQ = W := ⟨_, rfl⟩
      subst hWn
      have HLQ : Hid (Bxs [(w.heap.size, #[.int .i64 sc, .int .u64 x, .int .i64 h, .int .i64 nn], 26), (gs, #[.int .i64 V.t.1, .int .u64 V.t.2.1, .int .i64 V.t.2.2.1, .int .i64 V.t.2.2.2], 29), (w7.heap.size, #[.int .i64 V.t.1, .int .u64 V.t.2.1, .int .i64 V.t.2.2.1, .int .i64 V.t.2.2.2], 29), (qs, #[.int .i64 V.t.1, .int .u64 V.t.2.1, .int .i64 V.t.2.2.1, .int .i64 V.t.2.2.2], 29)] wQ) := by
        refine ⟨fun p hp => ?_⟩
        have h1 := HLM.out.kept hb
        simp only [List.mem_cons, List.not_mem_nil, or_false] at hp
        rcases hp with rfl | rfl | rfl | rfl
        all_goals first | exact hS0 | exact h1.all _ (by simp)
      have HOX : Hid (_) := hO
      have HSQ : Hid (_) := (HSM.out.kept hb)
      have HIQ : Hid (_) := (HIM2.out.kept hb)
      clear hS0 hO hSge HLM HSM HIM2
      go_wp2_with fail
      refine (eqStampS_same KT KT aq aw V.xs.length cq cw V.xs _ (HOX.out.sts (by omega) HVZ.out) (HSQ.out.sts (by omega) HVZ.out)).mono ?_
      rintro e wRa ⟨rfl, hwRa⟩
      have HZZ : Hid (_) := HLQ.out.kept hwRa
      obtain ⟨x0, x1, x2, x3⟩ := cells4 (HZZ.out.all (qs, #[.int .i64 V.t.1, .int .u64 V.t.2.1, .int .i64 V.t.2.2.1, .int .i64 V.t.2.2.2], 29) (by simp))
      obtain ⟨y0, y1, y2, y3⟩ := cells4 (HZZ.out.all (gs, #[.int .i64 V.t.1, .int .u64 V.t.2.1, .int .i64 V.t.2.2.1, .int .i64 V.t.2.2.2], 29) (by simp))
      go_wp2_with fail
      refine (eqSecret_same V.t _).mono ?_
      rintro e wR ⟨rfl, hwRb⟩
      clear x0 x1 x2 x3 y0 y1 y2 y3 HZZ
      have hwR := keepT hwRa hwRb
      clear hwRa hwRb
      go_wp2_with fail
      refine (HHE.out _ (HIQ.out.kept hwR)).mono ?_
      rintro e wT ⟨rfl, hwT⟩
      go_wp2
      go_ret
      exact ⟨rfl, keepT hc0 (keepT hb (keepT hwR hwT))⟩

end Go.Proofs.YtmhijbcbckljmaaGreat

namespace Go.Proofs.YtmhijbcbckljmaaGreat
open Go.RowKit

theorem lawRenew_all (ad : Option Addr) (nd cd : Nat) (doc : List Int) (A0 : Option Addr) (N0 c0 : Nat) (xs : List StP) (alg at2 sc x h nn : Int) (w : World) (hd : Row w ad nd doc) (hdm : nd ≤ 9223372036854775807) (hst : Sts (fun _ _ => True) w A0 N0 xs) (hx : U64 x) (hal : -9223372036854775808 ≤ alg ∧ alg ≤ 9223372036854775807) (hat : -9223372036854775808 ≤ at2 ∧ at2 ≤ 9223372036854775807) :
    Calls Tryz.prog 3 #[.slice ad nd cd, .slice A0 N0 c0, .int .i64 alg, .int .i64 at2, .agg #[.int .i64 sc, .int .u64 x, .int .i64 h, .int .i64 nn]] w fun e w' => e = .returned (.bool true) ∧ Below w.heap.size w w' :=
  lawRenew_walk (fun seed h next am n c bs w hx hr hn => specTreeSign_any seed h next am n c bs w hx hr hn) ad nd cd doc A0 N0 c0 xs alg at2 sc x h nn w hd hdm hst hx hal hat

end Go.Proofs.YtmhijbcbckljmaaGreat

namespace Go.Proofs.YtmhijbcbckljmaaGreat
open Go.ChangeShapes Go.WideShapes Go.ChangeAt Go.RowKit

theorem open_rowSt {H : Type} {enc : TypeId × Value → H} {W : World} {fuel : Nat} {cs : List Value} {x : DataW H × List MemPlace} (h : DataW.trod enc Tryz.prog W 0 (fun _ => true) true fuel 22 cs = some x) :
    ∃ a n cap zs, cs = [.slice a n cap] ∧ Row W a n zs ∧ n ≤ 9223372036854775807 := by
  rcases open_ints Tryz.underlying22 Tryz.underlying5 (by kernel_rfl) h with ⟨rfl, _⟩ | ⟨a, len, cap, zs, rfl, _, hl, hm, hz, _, hc, hwz⟩
  · exact ⟨none, 0, 0, [], rfl, ⟨rfl, fun k hk => absurd hk (Nat.not_lt_zero _), by simp⟩, by decide⟩
  · have hr : IsRow .u8 W (some a) len cap zs := .inr ⟨_, rfl, hl, hm, by simpa using hz, hc, hwz⟩
    exact ⟨some a, len, cap, zs.take len, rfl, hr.row.1, by have := hr.row.2; unfold maxLen at this; omega⟩
def OpensSt (W : World) (y : StP) (cs : List Value) : Prop := ∃ a n c, cs = [.int .i64 y.alg, .int .u64 y.dg, .int .i64 y.at2, .int .u64 y.ky, .slice a n c] ∧ Row W a n y.sg ∧ n ≤ 9223372036854775807 ∧ U64 y.dg ∧ U64 y.ky
set_option maxRecDepth 20000 in
theorem open_st {H : Type} {enc : TypeId × Value → H} {W : World} {fuel : Nat} {cs : List Value} {x : DataW H × List MemPlace} (h : DataW.trod enc Tryz.prog W 0 (fun _ => true) true fuel 43 cs = some x) : ∃ y, OpensSt W y cs := by
  obtain ⟨xs, m, rfl, _, hl, hxl, hf⟩ := DataW.trod_struct Tryz.underlying43 h
  have hl2 : cs.length = 5 := hl.trans (by kernel_rfl)
  have hx2 : xs.length = 5 := hxl
  obtain ⟨c0, c1, c2, c3, c4, rfl⟩ : ∃ c0 c1 c2 c3 c4, cs = [c0, c1, c2, c3, c4] := by
    match cs, hl2 with
    | [c0, c1, c2, c3, c4], _ => exact ⟨c0, c1, c2, c3, c4, rfl⟩
  obtain ⟨x0, x1, x2, x3, x4, rfl⟩ : ∃ c0 c1 c2 c3 c4, xs = [c0, c1, c2, c3, c4] := by
    match xs, hx2 with
    | [c0, c1, c2, c3, c4], _ => exact ⟨c0, c1, c2, c3, c4, rfl⟩
  have e_i64 : Tryz.prog.cellsOf 2 = 1 := by kernel_rfl
  have e_u64 : Tryz.prog.cellsOf 24 = 1 := by kernel_rfl
  have e_b : Tryz.prog.cellsOf 22 = 1 := by kernel_rfl
  have f0 : DataW.trod enc Tryz.prog W 0 (fun _ => true) true m 2 ((([c0, c1, c2, c3, c4] : List Value).drop 0).take (Tryz.prog.cellsOf 2)) = some x0 := hf 0 _ rfl
  rw [e_i64] at f0
  obtain ⟨n0, g0, _, v0⟩ := DataW.trod_int Tryz.underlying2 f0
  have f1 : DataW.trod enc Tryz.prog W 0 (fun _ => true) true m 24 ((([c0, c1, c2, c3, c4] : List Value).drop 1).take (Tryz.prog.cellsOf 24)) = some x1 := hf 1 _ rfl
  rw [e_u64] at f1
  obtain ⟨n1, g1, _, v1⟩ := DataW.trod_int Tryz.underlying24 f1
  have f2 : DataW.trod enc Tryz.prog W 0 (fun _ => true) true m 2 ((([c0, c1, c2, c3, c4] : List Value).drop 2).take (Tryz.prog.cellsOf 2)) = some x2 := hf 2 _ rfl
  rw [e_i64] at f2
  obtain ⟨n2, g2, _, v2⟩ := DataW.trod_int Tryz.underlying2 f2
  have f3 : DataW.trod enc Tryz.prog W 0 (fun _ => true) true m 24 ((([c0, c1, c2, c3, c4] : List Value).drop 3).take (Tryz.prog.cellsOf 24)) = some x3 := hf 3 _ rfl
  rw [e_u64] at f3
  obtain ⟨n3, g3, _, v3⟩ := DataW.trod_int Tryz.underlying24 f3
  have f4 : DataW.trod enc Tryz.prog W 0 (fun _ => true) true m 22 ((([c0, c1, c2, c3, c4] : List Value).drop 4).take (Tryz.prog.cellsOf 22)) = some x4 := hf 4 _ rfl
  rw [e_b] at f4
  obtain ⟨aa, nn, pp, zz, g4, rr, qq⟩ := open_rowSt f4
  simp at g0 g1 g2 g3 g4
  subst g0 g1 g2 g3 g4
  exact ⟨⟨n0, n1, n2, n3, zz⟩, aa, nn, pp, rfl, rr, qq, bounds_u64 v1, bounds_u64 v3⟩

set_option maxRecDepth 20000 in
theorem open_sts {H : Type} {enc : TypeId × Value → H} {W : World} {fuel : Nat} {cs : List Value} {x : DataW H × List MemPlace} (h : DataW.trod enc Tryz.prog W 0 (fun _ => true) true fuel 23 cs = some x) : ∃ a n c xs, cs = [.slice a n c] ∧ Sts (fun _ _ => True) W a n xs := by
  rcases DataW.trod_slice Tryz.underlying23 h with ⟨rfl, _⟩ | ⟨a, len, cap, elems, rest, n, rfl, rfl, _, _, hl, hm, hlen, hel, _, _⟩
  · exact ⟨none, 0, 0, [], rfl, ⟨rfl, by decide, fun k hk => absurd hk (by omega)⟩⟩
  · have ec : Tryz.prog.cellsOf 43 = 5 := by kernel_rfl
    rw [ec] at hel
    have each : ∀ i, i < len → ∃ y : StP, ∃ cs', W.cells? 0 (a.add (i * 5)) 5 = some cs' ∧ OpensSt W y cs' := by
      intro i hi
      have he := hel i hi
      rw [List.getElem?_eq_getElem (by omega)] at he
      cases hc : W.cells? 0 (a.add (i * 5)) 5 with
      | none => rw [hc] at he; cases he
      | some cs' =>
        rw [hc] at he
        obtain ⟨y, hy⟩ := open_st he
        exact ⟨y, cs', rfl, hy⟩
    obtain ⟨y, hy⟩ := Go.Deep.choose_lt each
    have hm' : len ≤ 9223372036854775807 := by unfold maxLen at hm; omega
    refine ⟨some a, len, cap, (List.range len).map y, rfl, ⟨by simp, hm', fun k hk => ?_⟩⟩
    obtain ⟨cs', hcs, a2, n2, p2, rfl, hr, hq, hu⟩ := hy k hk
    obtain ⟨_, _, hcell⟩ := World.cells?_some hcs
    obtain ⟨b, off, spot⟩ := a
    have hs : spot = none := by
      obtain ⟨cs0, hcs0, _⟩ := hy 0 (by omega)
      obtain ⟨_, hl0, hcell0⟩ := World.cells?_some hcs0
      have h00 := hcell0 0 (by omega)
      rw [List.getElem?_eq_getElem (by omega)] at h00
      simpa [Addr.add] using World.cell?_spot h00
    subst hs
    have ey : ((List.range len).map y).getD k default = y k := by simp [hk]
    rw [ey]
    have cc : ∀ j, j < 5 → W.cell? ⟨b, off + k * 5 + j, none⟩ = [Value.int .i64 (y k).alg, .int .u64 (y k).dg, .int .i64 (y k).at2, .int .u64 (y k).ky, .slice a2 n2 p2][j]? := by
      intro j hj
      have := hcell j hj
      rw [Addr.add_lit, Addr.add_lit] at this
      exact this
    exact ⟨b, off, a2, n2, p2, rfl, World.block_lt_of_cell? W _ (cc 0 (by omega)), ⟨cc 0 (by omega), cc 1 (by omega), cc 2 (by omega), cc 3 (by omega), cc 4 (by omega)⟩, hr, hq, hu, trivial⟩

end Go.Proofs.YtmhijbcbckljmaaGreat

