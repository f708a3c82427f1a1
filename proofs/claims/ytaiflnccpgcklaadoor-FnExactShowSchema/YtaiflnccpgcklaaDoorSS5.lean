import Derived.Test.YtaiflnccpgcklaaDoorSS4
import Derived.Test.YtaiflnccpgcklaaDoorS10
import Derived.Deep.CutRange
import Derived.Deep.CutBlock
namespace Go.Proofs.YtaiflnccpgcklaaDoor
open Go.RowKit

def wordsV : Array Value := (wordsL.map (fun l => Value.string ⟨l.toArray⟩)).toArray
set_option maxHeartbeats 1000000 in
theorem l5Words_any (w : World) : Calls Tryd.prog 12 #[] w fun e w' => ∃ g, e = .returned (.slice (some ⟨g, 0, none⟩) 10 10) ∧ g < w'.heap.size ∧ (∀ k, k ≤ 9 → w'.cell? ⟨g, k, none⟩ = some (.string (kword k))) ∧ Below w.heap.size w w' := by
  go_enter Tryd.func12, Tryd.ntmps12
  go_wp2
  go_ret
  refine ⟨w.heap.size, rfl, by simp, fun k hk => ?_, (Below.refl _ _).alloc (Nat.le_refl _) _⟩
  rw [cell_of_row _ w.heap.size k _ 9 (0, 0) (heap_alloc_new w _)]
  have : k = 0 ∨ k = 1 ∨ k = 2 ∨ k = 3 ∨ k = 4 ∨ k = 5 ∨ k = 6 ∨ k = 7 ∨ k = 8 ∨ k = 9 := by omega
  rcases this with rfl | rfl | rfl | rfl | rfl | rfl | rfl | rfl | rfl | rfl <;> rfl

def headB (xs : List ST) (t : Nat) (x : ST) (ws : List ByteArray) : ByteArray := ⟨(showL xs t ++ headL t x ++ tailL ws).toArray⟩
theorem headB_data (xs : List ST) (t : Nat) (x : ST) (ws : List ByteArray) : (headB xs t x ws).data.toList = showL xs t ++ headL t x ++ tailL ws := by simp [headB]
theorem headB_nil (xs : List ST) (t : Nat) (x : ST) : headB xs t x [] = textB xs t ++ num t ++ ⟨#[32]⟩ ++ kword x.kind.toNat := by
  refine ba_ext ?_
  rw [headB_data, ba_app, ba_app, ba_app, textB_data, tailL_nil]
  simp [headL]
theorem headB_snoc (xs : List ST) (t : Nat) (x : ST) (ws : List ByteArray) (b : ByteArray) : headB xs t x (ws ++ [b]) = headB xs t x ws ++ ⟨#[32]⟩ ++ b := by
  refine ba_ext ?_
  rw [headB_data, ba_app, ba_app, headB_data, tailL_snoc]
  simp
theorem headB_line (xs : List ST) (t : Nat) (x : ST) (hx : xs.getD t default = x) : textB xs (t + 1) = headB xs t x (restW x) ++ ⟨#[10]⟩ := by
  refine ba_ext ?_
  rw [textB_data, ba_app, headB_data, showL, hx, lineL]
  simp
theorem headB_size {xs : List ST} (h : schP xs) (t : Nat) (ht : t < xs.length) (ws : List ByteArray) (hw : wsz ws) (hl : ws.length ≤ 20) : (headB xs t (xs.getD t default) ws).size ≤ 17000 := by
  have h1 := show_len h t (by omega)
  have h2 := h.2.1
  have h3 := head_len t _ (by omega) (sch_small h t ht)
  have h4 := tailL_len hw
  rw [Lib.size_eq, headB_data, List.length_append, List.length_append]
  omega

theorem bound_eq (x : ST) (kd : Nat) (hk : x.kind = kd) : boundW x = (if kLo kd then [num x.lo] else []) ++ (if kHi kd then [num x.hi] else []) := by unfold boundW; rw [hk]; rfl
theorem head_both (xs : List ST) (t : Nat) (x : ST) (kd : Nat) (hk : x.kind = kd) (h1 : kLo kd = true) (h2 : kHi kd = true) : headB xs t x (boundW x) = headB xs t x [] ++ ⟨#[32]⟩ ++ num x.lo ++ ⟨#[32]⟩ ++ num x.hi := by
  rw [bound_eq x kd hk, h1, h2]
  show headB xs t x (([] ++ [num x.lo]) ++ [num x.hi]) = _
  rw [headB_snoc, headB_snoc]
theorem head_lo (xs : List ST) (t : Nat) (x : ST) (kd : Nat) (hk : x.kind = kd) (h1 : kLo kd = true) (h2 : kHi kd = false) : headB xs t x (boundW x) = headB xs t x [] ++ ⟨#[32]⟩ ++ num x.lo := by
  rw [bound_eq x kd hk, h1, h2]
  show headB xs t x ([] ++ [num x.lo]) = _
  rw [headB_snoc]
theorem head_hi (xs : List ST) (t : Nat) (x : ST) (kd : Nat) (hk : x.kind = kd) (h1 : kLo kd = false) (h2 : kHi kd = true) : headB xs t x (boundW x) = headB xs t x [] ++ ⟨#[32]⟩ ++ num x.hi := by
  rw [bound_eq x kd hk, h1, h2]
  show headB xs t x ([] ++ [num x.hi]) = _
  rw [headB_snoc]
theorem head_no (xs : List ST) (t : Nat) (x : ST) (kd : Nat) (hk : x.kind = kd) (h1 : kLo kd = false) (h2 : kHi kd = false) : headB xs t x (boundW x) = headB xs t x [] := by
  rw [bound_eq x kd hk, h1, h2]
  rfl
theorem headB_ext (xs : List ST) (t : Nat) (x : ST) (ws : List ByteArray) : headB xs t x (ws ++ [extB]) = headB xs t x ws ++ ⟨#[32, 101, 120, 116]⟩ := by
  refine ba_ext ?_
  rw [headB_data, ba_app, headB_data, tailL_snoc]
  simp [extB]
theorem headB_opt (xs : List ST) (t : Nat) (x : ST) (ws : List ByteArray) : headB xs t x (ws ++ [optB]) = headB xs t x ws ++ ⟨#[32, 111, 112, 116]⟩ := by
  refine ba_ext ?_
  rw [headB_data, ba_app, headB_data, tailL_snoc]
  simp [optB]

set_option maxRecDepth 10000 in
set_option maxHeartbeats 8000000 in
theorem specShow_any (a : Option Addr) (n c : Nat) (xs : List ST) (w : World) (h : Sts w a n xs) :
    Calls Tryd.prog 5 #[.slice a n c] w fun e w' => ShowsP xs w e w' := by
  have HS : Hid (Sts w a n xs) := h
  have HL : Hid (xs.length = n) := h.len
  have hn := h.max
  clear h
  go_enter Tryd.func5, Tryd.ntmps5
  go_wp2_with fail
  refine (specSchemaOk_any a n c xs _ HS.out).mono ?_
  rintro e w1 ⟨bv, rfl, hbv, hb1⟩
  cases bv with
  | false =>
    have HN : Hid (¬ schP xs) := fun h => by have := hbv.out.mpr ((sch_spc xs).mp h); cases this
    clear hbv
    go_wp2
    go_ret2
    exact ⟨_, false, rfl, .inr ⟨rfl, HN.out, rfl⟩, hb1⟩
  | true =>
    have HSC : Hid (schP xs) := (sch_spc xs).mpr (hbv.out.mp rfl)
    clear hbv
    go_wp2_with fail
    go_loopw [4, 5] (fun s i wr => ∃ t : Nat, t ≤ n ∧ i = .int .i64 t ∧ s = .string (textB xs t) ∧ Below w.heap.size w wr) (fun _ i _ => n - (intOf i).toNat)
    case atStart => exact ⟨0, Nat.zero_le _, rfl, rfl, hb1⟩
    case round =>
      obtain ⟨t, ht, rfl, rfl, hbr⟩ := hrel
      by_cases htn : t < n
      · obtain ⟨b, off, rfl, hlb, ak, nk, ck, hcs, hr, hnk⟩ := HS.out.get t htn
        obtain ⟨x, hx⟩ : ∃ x, x = xs.getD t default := ⟨_, rfl⟩
        rw [← hx] at hcs hr
        have hsm : Small x := by rw [hx]; exact sch_small HSC.out t (by rw [HL.out]; exact htn)
        have ht40 : t ≤ 40 := by have := HSC.out.2.1; rw [HL.out] at this; omega
        obtain ⟨kd, hkd⟩ : ∃ kd : Nat, x.kind = kd := ⟨x.kind.toNat, by have := hsm.k1; omega⟩
        have hkd9 : kd ≤ 9 := by have := hsm.k9; omega
        have HSM : Hid (Small x) := hsm
        have HKD : Hid (x.kind = kd) := hkd
        have HSZ : Hid (∀ ws, wsz ws → ws.length ≤ 20 → (headB xs t x ws).size ≤ 17000) := fun ws h1 h2 => by rw [hx]; exact headB_size HSC.out t (by rw [HL.out]; exact htn) ws h1 h2
        have HLN : Hid (textB xs (t + 1) = headB xs t x (restW x) ++ ⟨#[10]⟩) := headB_line xs t x hx.symm
        have HH0 : Hid (headB xs t x [] = textB xs t ++ num t ++ ⟨#[32]⟩ ++ kword kd) := by rw [headB_nil, hkd]; rfl
        have hs0 : (textB xs t).size ≤ 16000 := textB_size HSC.out t (by rw [HL.out]; omega)
        have hs1 : (num t).size ≤ 20 := num_size t (by omega) (by omega)
        have hs2 : (kword kd).size ≤ 6 := word_len kd hkd9
        obtain ⟨T, hT⟩ : ∃ T, T = textB xs t := ⟨_, rfl⟩
        obtain ⟨NT, hNT⟩ : ∃ NT, NT = num t := ⟨_, rfl⟩
        obtain ⟨KW, hKW⟩ : ∃ KW, KW = kword kd := ⟨_, rfl⟩
        rw [← hT] at hs0
        rw [← hNT] at hs1
        rw [← hKW] at hs2
        have HH1 : Hid (headB xs t x [] = T ++ NT ++ ⟨#[32]⟩ ++ KW) := by rw [hT, hNT, hKW]; exact HH0
        obtain ⟨c0, c1, c2, c3, c4, c5⟩ := hcs.of (w' := wr) (fun i => hbr.cell (p := ⟨b, i, none⟩) hlb)
        have hs := hbr.size
        have t2 : (t : Int) < (n : Int) := by omega
        have HR : Hid (Row64 w ak nk x.kids) := hr
        have hrl := hr.len
        obtain ⟨W0, hW0⟩ : ∃ W0, W0 = wr.alloc (.cells #[.int .i64 kd, .int .i64 x.lo, .int .i64 x.hi, .bool x.ext, .bool x.opt, .slice ak nk ck] 35) := ⟨_, rfl⟩
        have bW : Below w.heap.size w W0 := by rw [hW0]; exact hbr.alloc hs _
        have bx : BoxT 35 wr.heap.size W0 x ak nk ck := by
          rw [hW0]
          have h := boxT_new 35 wr x ak nk ck
          rw [hkd] at h
          exact h
        have BX : Hid (∀ w', Below W0.heap.size W0 w' → w'.cell? ⟨wr.heap.size, 0, none⟩ = some (.int .i64 kd) ∧ w'.cell? ⟨wr.heap.size, 1, none⟩ = some (.int .i64 x.lo) ∧ w'.cell? ⟨wr.heap.size, 2, none⟩ = some (.int .i64 x.hi) ∧ w'.cell? ⟨wr.heap.size, 3, none⟩ = some (.bool x.ext) ∧ w'.cell? ⟨wr.heap.size, 4, none⟩ = some (.bool x.opt) ∧ w'.cell? ⟨wr.heap.size, 5, none⟩ = some (.slice ak nk ck)) := fun w' hb => by rw [← hkd]; exact (bx.kept hb).cells
        have HRX : Hid (∀ w', Below W0.heap.size W0 w' → Row64 w' ak nk x.kids) := fun w' hb => HR.out.kept (bW.trans (hb.mono bW.size))
        have HNT : Hid (NT = num t) := hNT
        have HKW : Hid (KW = kword kd) := hKW
        have q1 : ¬ (9223372036854775807 < T.size + NT.size) := by omega
        have q2 : ¬ (9223372036854775807 < T.size + NT.size + 1) := by omega
        have q3 : ¬ (9223372036854775807 < T.size + NT.size + 1 + KW.size) := by omega
        rw [← hT]
        rw [hkd] at c0
        clear hcs hx hr hsm hT hNT hKW HH0 bx hkd
        go_upto_region 8 with fail
        rw [← hW0]
        clear hW0 c0 c1 c2 c3 c4 c5
        go_cut [4] from 11 to 91 (fun v wx => v = .string (headB xs t x []) ∧ Hid (Below W0.heap.size W0 wx))
        case first =>
          have Bd : Below W0.heap.size W0 W0.drew := (Below.refl _ _).drew
          obtain ⟨d0, _⟩ := BX.out _ Bd
          go_region_with (first
            | (go_at_call 11; first
                | (refine (l5IntZ_any t _ (by omega) (by omega)).mono ?_; rintro e w5 ⟨he5, hb5⟩; rw [← HNT.out] at he5; subst he5; have E5 : Below W0.heap.size W0 w5 := E4.trans (hb5.mono E4.size); obtain ⟨g0, _⟩ := BX.out _ E5; have hcl5 := (hb5.cell (p := ⟨g, kd, none⟩) hg).trans hcl)
                | (refine (l5IntZ_any t _ (by omega) (by omega)).mono ?_; rintro e w5 ⟨he5, hb5⟩; rw [← HNT.out] at he5; subst he5; have E5 : Below W0.heap.size W0 w5 := Bd.trans (hb5.mono Bd.size); obtain ⟨g0, _⟩ := BX.out _ E5))
            | (go_at_call 12; first
                | (refine (l5Words_any _).mono ?_; rintro e w4 ⟨g, rfl, hg, hcw, hb4⟩; have E4 : Below W0.heap.size W0 w4 := E5.trans (hb4.mono E5.size); obtain ⟨f0, _⟩ := BX.out _ E4; have hcl := hcw kd hkd9; rw [← HKW.out] at hcl; clear hcw)
                | (refine (l5Words_any _).mono ?_; rintro e w4 ⟨g, rfl, hg, hcw, hb4⟩; have E4 : Below W0.heap.size W0 w4 := Bd.trans (hb4.mono Bd.size); obtain ⟨f0, _⟩ := BX.out _ E4; have hcl := hcw kd hkd9; rw [← HKW.out] at hcl; clear hcw)))
          all_goals
            go_wp2_with fail
            go_meet
            exact ⟨by rw [HH1.out], by first | exact E5 | exact E4⟩
        case rest =>
          obtain ⟨rfl, HB⟩ := hcut
          clear q1 q2 q3
          obtain ⟨l0, l1, l2, l3⟩ : -1000000000000000 ≤ x.lo ∧ x.lo ≤ 1000000000000000 ∧ -1000000000000000 ≤ x.hi ∧ x.hi ≤ 1000000000000000 := ⟨HSM.out.lo0, HSM.out.lo1, HSM.out.hi0, HSM.out.hi1⟩
          have hk1 := HSM.out.k1
          rw [HKD.out] at hk1
          obtain ⟨d0, d1, d2, d3, d4, d5⟩ := BX.out _ HB.out
          go_upto_block 2 with fail
          go_cut [4] from 11 to 91 (fun v wx => v = .string (headB xs t x (boundW x)) ∧ Hid (Below W0.heap.size W0 wx))
          case first =>
            obtain ⟨H0, hH0⟩ : ∃ H0, H0 = headB xs t x [] := ⟨_, rfl⟩
            obtain ⟨NL, hNL⟩ : ∃ NL, NL = num x.lo := ⟨_, rfl⟩
            obtain ⟨NH, hNH⟩ : ∃ NH, NH = num x.hi := ⟨_, rfl⟩
            have hz0 : H0.size ≤ 17000 := by rw [hH0]; exact HSZ.out [] wsz_nil (by decide)
            have hz1 : NL.size ≤ 20 := by rw [hNL]; exact num_size x.lo (by omega) (by omega)
            have hz2 : NH.size ≤ 20 := by rw [hNH]; exact num_size x.hi (by omega) (by omega)
            have HNlo : Hid (NL = num x.lo) := hNL
            have HNhi : Hid (NH = num x.hi) := hNH
            have HC1 : Hid (kLo kd = true → kHi kd = true → headB xs t x (boundW x) = H0 ++ ⟨#[32]⟩ ++ NL ++ ⟨#[32]⟩ ++ NH) := fun a1 a2 => by rw [hH0, hNL, hNH]; exact head_both xs t x kd HKD.out a1 a2
            have HC2 : Hid (kLo kd = true → kHi kd = false → headB xs t x (boundW x) = H0 ++ ⟨#[32]⟩ ++ NL) := fun a1 a2 => by rw [hH0, hNL]; exact head_lo xs t x kd HKD.out a1 a2
            have HC3 : Hid (kLo kd = false → kHi kd = true → headB xs t x (boundW x) = H0 ++ ⟨#[32]⟩ ++ NH) := fun a1 a2 => by rw [hH0, hNH]; exact head_hi xs t x kd HKD.out a1 a2
            have HC4 : Hid (kLo kd = false → kHi kd = false → headB xs t x (boundW x) = H0) := fun a1 a2 => by rw [hH0]; exact head_no xs t x kd HKD.out a1 a2
            rw [← hH0]
            clear hH0 hNL hNH HH1 HLN HSZ
            have q1 : ¬ (9223372036854775807 < H0.size + 1) := by omega
            have q2 : ¬ (9223372036854775807 < H0.size + 1 + NL.size) := by omega
            have q3 : ¬ (9223372036854775807 < H0.size + 1 + NL.size + 1) := by omega
            have q4 : ¬ (9223372036854775807 < H0.size + 1 + NL.size + 1 + NH.size) := by omega
            have q5 : ¬ (9223372036854775807 < H0.size + 1 + NH.size) := by omega
            have hall : kd = 2 ∨ kd = 3 ∨ kd = 4 ∨ kd = 7 ∨ kd = 5 ∨ kd = 9 ∨ kd = 1 ∨ kd = 6 ∨ kd = 8 := by omega
            have Bd : Below W0.heap.size W0 wc.drew := HB.out.drew
            obtain ⟨f0, f1, f2, f3, f4, f5⟩ := BX.out _ Bd
            rcases hall with rfl | rfl | rfl | rfl | rfl | rfl | rfl | rfl | rfl
            iterate 4
              · go_upto_region 14 with fail
                go_region_with (go_at_call 11; refine (l5IntZ_any _ _ (by omega) (by omega)).mono ?_; rintro e v5 ⟨he5, hb5⟩; (first | rw [← HNlo.out] at he5 | rw [← HNhi.out] at he5); subst he5; first
                  | (have E7 : Below W0.heap.size W0 v5 := E5.trans (hb5.mono E5.size))
                  | (have E5 : Below W0.heap.size W0 v5 := Bd.trans (hb5.mono Bd.size); obtain ⟨g0, g1, g2, g3, g4, g5⟩ := BX.out _ E5))
                all_goals
                  go_wp2_with fail
                  go_meet
                  exact ⟨by rw [HC1.out rfl rfl], E7⟩
            · go_wp2_with fail
              refine (l5IntZ_any x.hi _ (by omega) (by omega)).mono ?_
              rintro e w6 ⟨he6, hb6⟩
              rw [← HNhi.out] at he6
              subst he6
              have E6 : Below W0.heap.size W0 w6 := HB.out.trans (hb6.mono HB.out.size)
              go_wp2_with fail
              go_meet
              exact ⟨by rw [HC3.out rfl rfl], E6⟩
            · go_wp2_with fail
              refine (l5IntZ_any x.lo _ (by omega) (by omega)).mono ?_
              rintro e w6 ⟨he6, hb6⟩
              rw [← HNlo.out] at he6
              subst he6
              have E6 : Below W0.heap.size W0 w6 := HB.out.trans (hb6.mono HB.out.size)
              go_wp2_with fail
              go_meet
              exact ⟨by rw [HC2.out rfl rfl], E6⟩
            iterate 3
              · go_wp2_with fail
                go_meet
                exact ⟨by rw [HC4.out rfl rfl], HB⟩
          case rest =>
            clear HB d0 d1 d2 d3 d4 d5
            obtain ⟨rfl, HB⟩ := hcut
            obtain ⟨d0, d1, d2, d3, d4, d5⟩ := BX.out _ HB.out
            have hk0 : kidW x 0 = boundW x := by unfold kidW; simp
            rw [← hk0]
            clear hk0
            go_wp2_with fail
            go_loopw [4, 7] (fun s i wq => ∃ k : Nat, k ≤ nk ∧ i = .int .i64 k ∧ s = .string (headB xs t x (kidW x k)) ∧ Hid (Below W0.heap.size W0 wq)) (fun _ i _ => nk - (intOf i).toNat)
            case atStart => exact ⟨0, Nat.zero_le _, rfl, rfl, HB⟩
            case round =>
              clear HB d0 d1 d2 d3 d4 d5
              obtain ⟨k, hk, rfl, rfl, HB⟩ := hrel
              obtain ⟨d0, d1, d2, d3, d4, d5⟩ := BX.out _ HB.out
              obtain ⟨hw1, hw2⟩ := wsz_kid HSM.out k
              have hz0 : (headB xs t x (kidW x k)).size ≤ 17000 := HSZ.out _ hw1 (by omega)
              have q1 : ¬ (9223372036854775807 < (headB xs t x (kidW x k)).size + 1) := by omega
              by_cases hkn : k < nk
              · obtain ⟨b2, off2, rfl, hlb2, hcl2⟩ := (HRX.out _ HB.out).get k hkn
                obtain ⟨k0, k1⟩ := HSM.out.kid k (by omega)
                have HKN : Hid (headB xs t x (kidW x (k + 1)) = headB xs t x (kidW x k) ++ ⟨#[32]⟩ ++ num (x.kids.getD k 0)) := by
                  rw [kidW_next x k (by omega), headB_snoc]
                  exact rfl
                obtain ⟨kv, hkv⟩ : ∃ kv, kv = x.kids.getD k 0 := ⟨_, rfl⟩
                rw [← hkv] at hcl2 k0 k1 HKN
                obtain ⟨NK, hNK⟩ : ∃ NK, NK = num kv := ⟨_, rfl⟩
                have hz3 : NK.size ≤ 20 := by rw [hNK]; exact num_size kv (by omega) (by omega)
                rw [← hNK] at HKN
                have HNK : Hid (NK = num kv) := hNK
                have q2 : ¬ (9223372036854775807 < (headB xs t x (kidW x k)).size + 1 + NK.size) := by omega
                have t3 : (k : Int) < (nk : Int) := by omega
                clear hkv hNK hw1 hw2
                go_wp2_with fail
                refine (l5IntZ_any kv _ (by omega) (by omega)).mono ?_
                rintro e w6 ⟨he6, hb6⟩
                rw [← HNK.out] at he6
                subst he6
                have E6 : Hid (Below W0.heap.size W0 w6) := HB.out.trans (hb6.mono HB.out.size)
                clear hb6
                go_wp2_with fail
                go_roundw
                case rel => exact ⟨k + 1, by omega, by go_num, by rw [HKN.out], E6⟩
                case measure => simp [intOf]; omega
              · have hkk : k = x.kids.length := by omega
                have t3 : ¬ (k : Int) < (nk : Int) := by omega
                have HLE : Hid (kidW x k = kidW x x.kids.length) := by rw [hkk]; exact rfl
                have hbE : Below w.heap.size w _ := bW.trans (HB.out.mono bW.size)
                have q2 : ¬ (9223372036854775807 < (headB xs t x (kidW x k)).size + 4) := by omega
                have q3 : ¬ (9223372036854775807 < (headB xs t x (kidW x k)).size + 4 + 1) := by omega
                have q4 : ¬ (9223372036854775807 < (headB xs t x (kidW x k)).size + 4 + 4) := by omega
                have q5 : ¬ (9223372036854775807 < (headB xs t x (kidW x k)).size + 4 + 4 + 1) := by omega
                clear hw1 hw2 hkk hz0
                rcases hxe : x.ext with _ | _ <;> rcases hxo : x.opt with _ | _
                · rw [hxe] at d3
                  rw [hxo] at d4
                  have HV : Hid (textB xs (t + 1) = headB xs t x (kidW x k) ++ ⟨#[10]⟩) := by
                    show _ = _
                    rw [HLN.out, HLE.out]
                    unfold restW extW
                    rw [hxe, hxo]
                    show headB xs t x ((kidW x x.kids.length ++ []) ++ []) ++ _ = _
                    rw [List.append_nil, List.append_nil]
                  clear HLN HLE
                  go_wp2_with fail
                  go_roundw
                  case rel => exact ⟨t + 1, by omega, by go_num, by rw [HV.out], hbE⟩
                  case measure => simp [intOf]; omega
                · rw [hxe] at d3
                  rw [hxo] at d4
                  have HV : Hid (textB xs (t + 1) = headB xs t x (kidW x k) ++ ⟨#[32, 111, 112, 116]⟩ ++ ⟨#[10]⟩) := by
                    show _ = _
                    rw [HLN.out, HLE.out]
                    unfold restW extW
                    rw [hxe, hxo]
                    show headB xs t x ((kidW x x.kids.length ++ []) ++ [optB]) ++ _ = _
                    rw [headB_opt, List.append_nil]
                  clear HLN HLE
                  go_wp2_with fail
                  go_roundw
                  case rel => exact ⟨t + 1, by omega, by go_num, by rw [HV.out], hbE⟩
                  case measure => simp [intOf]; omega
                · rw [hxe] at d3
                  rw [hxo] at d4
                  have HV : Hid (textB xs (t + 1) = headB xs t x (kidW x k) ++ ⟨#[32, 101, 120, 116]⟩ ++ ⟨#[10]⟩) := by
                    show _ = _
                    rw [HLN.out, HLE.out]
                    unfold restW extW
                    rw [hxe, hxo]
                    show headB xs t x ((kidW x x.kids.length ++ [extB]) ++ []) ++ _ = _
                    rw [List.append_nil, headB_ext]
                  clear HLN HLE
                  go_wp2_with fail
                  go_roundw
                  case rel => exact ⟨t + 1, by omega, by go_num, by rw [HV.out], hbE⟩
                  case measure => simp [intOf]; omega
                · rw [hxe] at d3
                  rw [hxo] at d4
                  have HV : Hid (textB xs (t + 1) = headB xs t x (kidW x k) ++ ⟨#[32, 101, 120, 116]⟩ ++ ⟨#[32, 111, 112, 116]⟩ ++ ⟨#[10]⟩) := by
                    show _ = _
                    rw [HLN.out, HLE.out]
                    unfold restW extW
                    rw [hxe, hxo]
                    show headB xs t x ((kidW x x.kids.length ++ [extB]) ++ [optB]) ++ _ = _
                    rw [headB_opt, headB_ext]
                  clear HLN HLE
                  go_wp2_with fail
                  go_roundw
                  case rel => exact ⟨t + 1, by omega, by go_num, by rw [HV.out], hbE⟩
                  case measure => simp [intOf]; omega
      · have htn2 : t = n := by omega
        have HT : Hid (textB xs t = textB xs xs.length) := by rw [HL.out, htn2]; exact rfl
        go_wp2
        go_ret2
        exact ⟨_, true, rfl, .inl ⟨rfl, HSC.out, HT.out⟩, hbr⟩

end Go.Proofs.YtaiflnccpgcklaaDoor
