import Derived.Test.YtaiflnccpgcklaaDoorSS2
import Derived.Deep.Cut
import Derived.Deep.RegionWith
import Derived.Handy
namespace Go.Proofs.YtaiflnccpgcklaaDoor
open Go.RowKit

/-- The words so far, in memory of our own. -/
def WordsI (W0 : World) (t : Nat) (kd : Nat) (ws : List ByteArray) (ao : Option Addr) (len cp : Nat) (wr : World) : Prop :=
  wr.ownsRow W0.heap.size 9 1 (.slice ao len cp) len ((num t :: kword kd :: ws).map Value.string) ∧ len = ws.length + 2 ∧ Below W0.heap.size W0 wr
theorem WordsI.snoc {W0 : World} {t kd : Nat} {ws : List ByteArray} {ao : Option Addr} {len cp : Nat} {wr w9 : World} {v' : Value} {b : ByteArray} {o : Obj} (h : WordsI W0 t kd ws ao len cp wr)
    (hown : w9.ownsRow W0.heap.size 9 1 v' (len + 1) ((num t :: kword kd :: ws).map Value.string ++ [Value.string b])) (hg : (wr.alloc o).grownBy w9 (Value.slice ao len cp).ownBlock) :
    ∃ a' cap', v' = .slice a' (len + 1) cap' ∧ WordsI W0 t kd (ws ++ [b]) a' (len + 1) cap' w9 := by
  obtain ⟨a', cap', rfl⟩ := ownsS_slice hown
  have hs := h.2.2.size
  refine ⟨a', cap', rfl, ?_, by rw [h.2.1, List.length_append]; rfl, below_appS (h.2.2.alloc hs _) (by simp; omega) (h.1.alloc _) hg⟩
  have e : (num t :: kword kd :: (ws ++ [b])).map Value.string = (num t :: kword kd :: ws).map Value.string ++ [Value.string b] := by simp
  rw [e]
  exact hown
theorem WordsI.keep {W0 : World} {t kd : Nat} {ws : List ByteArray} {ao : Option Addr} {len cp : Nat} {wr w9 : World} (h : WordsI W0 t kd ws ao len cp wr) (hb : Below wr.heap.size wr w9) : WordsI W0 t kd ws ao len cp w9 :=
  ⟨ownsRow_below h.1 hb, h.2.1, h.2.2.trans (hb.mono h.2.2.size)⟩

theorem owns_mono {B B' : Nat} {w : World} {v : Value} {n : Nat} {xs : List Value} (h : w.ownsRow B 9 1 v n xs) (hb : B' ≤ B) : w.ownsRow B' 9 1 v n xs := by
  refine ⟨h.1, ?_⟩
  rcases h.2 with h0 | ⟨g, cap, cur, hv, hB, r⟩
  · exact Or.inl h0
  · exact Or.inr ⟨g, cap, cur, hv, Nat.le_trans hb hB, r⟩

set_option maxRecDepth 10000 in
set_option maxHeartbeats 8000000 in
theorem typeWords_any (t kd : Nat) (x : ST) (a : Option Addr) (n c : Nat) (w : World) (hF : FormW w) (hP : PowW w) (hS : Small x) (hr : Row64 w a n x.kids) (hkd : x.kind = kd) (ht : t ≤ 40) :
    Calls Tryd.prog 16 #[.int .i64 t, stv x a n c] w fun e w' => ∃ ao len cp, e = .returned (.slice ao len cp) ∧ len = (restW x).length + 2 ∧ Strs w.heap.size w' ao len cp (num t :: kword kd :: restW x) ∧ Below w.heap.size w w' := by
  obtain ⟨i0, hi, hz0, hz1, hz2⟩ := info_parts Tryd.info9
  have hk1 := hS.k1
  have hk9 := hS.k9
  have hkl := hS.len
  have hrl := hr.len
  obtain ⟨hl0, hl1, hh0, hh1⟩ : -1000000000000000 ≤ x.lo ∧ x.lo ≤ 1000000000000000 ∧ -1000000000000000 ≤ x.hi ∧ x.hi ≤ 1000000000000000 := ⟨hS.lo0, hS.lo1, hS.hi0, hS.hi1⟩
  have hd9 : kd ≤ 9 := by omega
  have f0 := hF.word kd hd9
  have f1 := hF.lo kd hd9
  have f2 := hF.hi kd hd9
  have hFl := hF.lt
  have HP : Hid (PowW w) := hP
  have HR : Hid (Row64 w a n x.kids) := hr
  have HSM : Hid (Small x) := hS
  have HKD : Hid (x.kind = kd) := hkd
  obtain ⟨KW, hKW⟩ : ∃ KW, KW = kword kd := ⟨_, rfl⟩
  obtain ⟨LO, hLO⟩ : ∃ LO, LO = kLo kd := ⟨_, rfl⟩
  obtain ⟨HIB, hHI⟩ : ∃ HIB, HIB = kHi kd := ⟨_, rfl⟩
  obtain ⟨EX, hEX⟩ : ∃ EX, EX = x.ext := ⟨_, rfl⟩
  obtain ⟨OP, hOP⟩ : ∃ OP, OP = x.opt := ⟨_, rfl⟩
  rw [← hKW] at f0
  rw [← hLO] at f1
  rw [← hHI] at f2
  obtain ⟨W0, hW0⟩ : ∃ W0, W0 = ((w.alloc (.cells #[.int .i64 kd, .int .i64 x.lo, .int .i64 x.hi, .bool EX, .bool OP, .slice a n c] 35)).alloc (.cells #[.string KW, .bool LO, .bool HIB] 61)) := ⟨_, rfl⟩
  have bW : Below w.heap.size w W0 := by rw [hW0]; exact ((Below.refl _ _).alloc (Nat.le_refl _) _).alloc (by simp) _
  have bx : BoxT 35 w.heap.size W0 x a n c := by
    rw [hW0]
    have h := boxT_new 35 w x a n c
    rw [hkd, ← hEX, ← hOP] at h
    exact h.kept ((Below.refl _ _).alloc (Nat.le_refl _) _)
  have fh : W0.heap[w.heap.size + 1]? = some (.cells #[.string KW, .bool LO, .bool HIB] 61 (0, 0)) := by
    rw [hW0]
    have h := heap_alloc_new (w.alloc (.cells #[.int .i64 kd, .int .i64 x.lo, .int .i64 x.hi, .bool EX, .bool OP, .slice a n c] 35)) (.cells #[.string KW, .bool LO, .bool HIB] 61 (0, 0))
    simpa using h
  have sW : W0.heap.size = w.heap.size + 2 := by rw [hW0]; simp
  have FC : Hid (∀ w', Below W0.heap.size W0 w' → w'.cell? ⟨w.heap.size + 1, 0, none⟩ = some (.string KW) ∧ w'.cell? ⟨w.heap.size + 1, 1, none⟩ = some (.bool LO) ∧ w'.cell? ⟨w.heap.size + 1, 2, none⟩ = some (.bool HIB)) := fun w' hb => by
    have h := (hb.block (w.heap.size + 1) (by omega)).trans fh
    exact ⟨(cell_of_row _ _ 0 _ _ (0, 0) h).trans rfl, (cell_of_row _ _ 1 _ _ (0, 0) h).trans rfl, (cell_of_row _ _ 2 _ _ (0, 0) h).trans rfl⟩
  have BX : Hid (∀ w', Below W0.heap.size W0 w' → w'.cell? ⟨w.heap.size, 1, none⟩ = some (.int .i64 x.lo) ∧ w'.cell? ⟨w.heap.size, 2, none⟩ = some (.int .i64 x.hi) ∧ w'.cell? ⟨w.heap.size, 3, none⟩ = some (.bool EX) ∧ w'.cell? ⟨w.heap.size, 4, none⟩ = some (.bool OP) ∧ w'.cell? ⟨w.heap.size, 5, none⟩ = some (.slice a n c)) := fun w' hb => by rw [hEX, hOP]; exact (bx.kept hb).cells.2
  have HPX : Hid (∀ w', Below W0.heap.size W0 w' → PowW w') := fun w' hb => HP.out.kept (bW.trans (hb.mono bW.size))
  have HRX : Hid (∀ w', Below W0.heap.size W0 w' → Row64 w' a n x.kids) := fun w' hb => HR.out.kept (bW.trans (hb.mono bW.size))
  have HKW : Hid (KW = kword kd) := hKW
  have HLO : Hid (LO = kLo kd) := hLO
  have HHI : Hid (HIB = kHi kd) := hHI
  clear hF hP hS hr fh bx HP HR hKW hLO hHI
  unfold stv
  rw [hkd, ← hEX, ← hOP]
  have HEX : Hid (EX = x.ext) := hEX
  have HOP : Hid (OP = x.opt) := hOP
  clear hEX hOP
  clear hkd
  go_enter Tryd.func16, Tryd.ntmps16
  go_upto_region 2 with fail
  rw [← hW0]
  clear hW0 f0 f1 f2
  have hlt1 : w.heap.size + 1 < W0.heap.size := by omega
  go_cut [6] from 13 (fun v wx => ∃ ao len cp, v = .slice ao len cp ∧ Hid (WordsI W0 t kd [] ao len cp wx))
  case first =>
    have Bd : Below W0.heap.size W0 W0.drew := (Below.refl _ _).drew
    obtain ⟨g0, g1, g2⟩ := FC.out W0 (Below.refl _ _)
    go_region_with (first
      | (go_at_call 28; refine (itoa_any t _ (HPX.out _ Bd) (by omega)).mono ?_; rintro e w1 ⟨rfl, hb1⟩; have E1 : Below W0.heap.size W0 w1 := Bd.trans (hb1.mono Bd.size); obtain ⟨y0, y1, y2⟩ := FC.out w1 E1))
    all_goals
      go_wp2_with fail
      go_meet
      refine ⟨_, _, _, rfl, ?_, rfl, E1.alloc E1.size _⟩
      rw [← HKW.out]
      exact World.ownsRow_lit w1 #[.string (num t), .string KW] 2 E1.size (by decide) rfl
  case rest =>
    obtain ⟨ao, len, cp, rfl, WI⟩ := hcut
    obtain ⟨_, y1, _⟩ := FC.out wc WI.out.2.2
    have hlen : len ≤ 2 := Nat.le_of_eq WI.out.2.1
    go_upto_if 19 with fail
    go_cut [6] from 13 (fun v wx => ∃ ao len cp, v = .slice ao len cp ∧ Hid (WordsI W0 t kd (if LO then [num x.lo] else []) ao len cp wx))
    case first =>
      rcases LO with _ | _
      · go_wp2_with fail
        go_meet
        exact ⟨_, _, _, rfl, WI⟩
      · obtain ⟨z1, z2, z3, z4, z5⟩ := BX.out wc WI.out.2.2
        go_wp2_with fail
        refine (showNumber_any x.lo _ (HPX.out _ WI.out.2.2) (by omega) (by omega)).mono ?_
        rintro e v9 ⟨rfl, hv9⟩
        have WIb : Hid (WordsI W0 t kd [] ao len cp v9) := WI.out.keep hv9
        clear hv9
        have o9 : v9.ownsRow W0.heap.size 9 1 (.slice ao len cp) len ((num t :: kword kd :: []).map Value.string) := WIb.out.1
        have s9 := WIb.out.2.2.size
        go_wp2_with (at_builtin; go_loud (refine wpList_append_own _ rfl _ _ 37 rfl W0.heap.size 9 i0 (.string ByteArray.empty) 1 16 Tryd.underlying37 hi hz0 hz1 hz2 rfl (by decide) (.slice ao len cp) len _ rfl (o9.alloc _) ⟨v9.heap.size, 0, none⟩ 1 1 [_] rfl rfl (cell_one_newS _ _ _) (by intro u hu; simp at hu; subst hu; rfl) (by unfold maxLen; omega) (by omega) (by simp; omega) ?_); intro v' w9 hown' hgrow' _)
        obtain ⟨a9, c9, rfl, wi9⟩ := WIb.out.snoc hown' hgrow'
        have WI9 : Hid (_) := wi9
        clear hown' hgrow' o9 s9 wi9
        go_wp2_with fail
        go_meet
        exact ⟨_, _, _, rfl, WI9⟩
    case rest =>
      clear y1 WI hlen
      obtain ⟨ao, len, cp, rfl, WI⟩ := hcut
      obtain ⟨_, _, y2⟩ := FC.out wc WI.out.2.2
      have hlen : len ≤ 3 := by have := WI.out.2.1; rw [this]; split <;> simp
      go_upto_if 27 with fail
      go_cut [6] from 13 (fun v wx => ∃ ao len cp, v = .slice ao len cp ∧ Hid (WordsI W0 t kd ((if LO then [num x.lo] else []) ++ (if HIB then [num x.hi] else [])) ao len cp wx))
      case first =>
        rcases HIB with _ | _
        · go_wp2_with fail
          go_meet
          refine ⟨_, _, _, rfl, ?_⟩
          rw [show (if false = true then [num x.hi] else []) = ([] : List ByteArray) from rfl, List.append_nil]
          exact WI
        · obtain ⟨z1, z2, z3, z4, z5⟩ := BX.out wc WI.out.2.2
          go_wp2_with fail
          refine (showNumber_any x.hi _ (HPX.out _ WI.out.2.2) (by omega) (by omega)).mono ?_
          rintro e v9 ⟨rfl, hv9⟩
          have WIb : Hid (WordsI W0 t kd (if LO then [num x.lo] else []) ao len cp v9) := WI.out.keep hv9
          clear hv9
          have o9 : v9.ownsRow W0.heap.size 9 1 (.slice ao len cp) len ((num t :: kword kd :: (if LO then [num x.lo] else [])).map Value.string) := WIb.out.1
          have s9 := WIb.out.2.2.size
          go_wp2_with (at_builtin; go_loud (refine wpList_append_own _ rfl _ _ 37 rfl W0.heap.size 9 i0 (.string ByteArray.empty) 1 16 Tryd.underlying37 hi hz0 hz1 hz2 rfl (by decide) (.slice ao len cp) len _ rfl (o9.alloc _) ⟨v9.heap.size, 0, none⟩ 1 1 [_] rfl rfl (cell_one_newS _ _ _) (by intro u hu; simp at hu; subst hu; rfl) (by unfold maxLen; omega) (by omega) (by simp; omega) ?_); intro v' w9 hown' hgrow' _)
          obtain ⟨a9, c9, rfl, wi9⟩ := WIb.out.snoc hown' hgrow'
          have WI9 : Hid (_) := wi9
          clear hown' hgrow' o9 s9 wi9
          go_wp2_with fail
          go_meet
          exact ⟨_, _, _, rfl, WI9⟩
      case rest =>
        clear y2 WI hlen
        obtain ⟨ao, len, cp, rfl, WI⟩ := hcut
        have WK : Hid (WordsI W0 t kd (kidW x 0) ao len cp wc) := by
          have e : kidW x 0 = ((if LO then [num x.lo] else []) ++ (if HIB then [num x.hi] else [])) := by
            unfold kidW boundW
            rw [HLO.out, HHI.out, HKD.out, Int.toNat_natCast, List.take_zero, List.map_nil, List.append_nil]
          rw [e]
          exact WI
        clear WI
        obtain ⟨z1, z2, z3, z4, z5⟩ := BX.out wc WK.out.2.2
        go_wp2_with fail
        go_loopw [6, 37] (fun v i wr => ∃ (j len cp : Nat) (ao : Option Addr), j ≤ n ∧ i = .int .i64 j ∧ v = .slice ao len cp ∧ Hid (WordsI W0 t kd (kidW x j) ao len cp wr)) (fun _ i _ => n - (intOf i).toNat)
        case atStart => exact ⟨0, len, cp, ao, by omega, rfl, rfl, WK⟩
        case round =>
          clear WK z1 z2 z3 z4 z5
          clear len cp ao
          obtain ⟨j, len, cp, ao, hj, rfl, rfl, WK⟩ := hrel
          have hlen : len ≤ 16 := by have h1 := WK.out.2.1; have h2 := (wsz_kid HSM.out j).2; omega
          by_cases hlt : j < n
          · obtain ⟨b, off, rfl, hb, hc⟩ := (HRX.out _ WK.out.2.2).get j hlt
            obtain ⟨k0, k1⟩ := HSM.out.kid j (by omega)
            have HKN : Hid (kidW x (j + 1) = kidW x j ++ [num (x.kids.getD j 0)]) := kidW_next x j (by omega)
            obtain ⟨kv, hkv⟩ : ∃ kv, kv = x.kids.getD j 0 := ⟨_, rfl⟩
            rw [← hkv] at hc k0 k1 HKN
            clear hkv
            have h63 : n ≤ 9223372036854775807 := by omega
            go_wp2_with fail
            refine (showNumber_any kv _ (HPX.out _ WK.out.2.2) (by omega) (by omega)).mono ?_
            rintro e v9 ⟨rfl, hv9⟩
            have WIb : Hid (WordsI W0 t kd (kidW x j) ao len cp v9) := WK.out.keep hv9
            clear hv9
            have o9 : v9.ownsRow W0.heap.size 9 1 (.slice ao len cp) len ((num t :: kword kd :: (kidW x j)).map Value.string) := WIb.out.1
            have s9 := WIb.out.2.2.size
            go_wp2_with (at_builtin; go_loud (refine wpList_append_own _ rfl _ _ 37 rfl W0.heap.size 9 i0 (.string ByteArray.empty) 1 16 Tryd.underlying37 hi hz0 hz1 hz2 rfl (by decide) (.slice ao len cp) len _ rfl (o9.alloc _) ⟨v9.heap.size, 0, none⟩ 1 1 [_] rfl rfl (cell_one_newS _ _ _) (by intro u hu; simp at hu; subst hu; rfl) (by unfold maxLen; omega) (by omega) (by simp; omega) ?_); intro v' w9 hown' hgrow' _)
            obtain ⟨a9, c9, rfl, wi9⟩ := WIb.out.snoc hown' hgrow'
            have WI9 : Hid (_) := wi9
            clear hown' hgrow' o9 s9 wi9
            go_wp2_with fail
            go_roundw
            case rel => exact ⟨j + 1, len + 1, c9, a9, by omega, by go_num, rfl, by rw [HKN.out]; exact WI9⟩
            case measure => simp [intOf]; omega
          · have hjn : j = n := by omega
            obtain ⟨z1, z2, z3, z4, z5⟩ := BX.out _ WK.out.2.2
            have WE : Hid (WordsI W0 t kd (kidW x x.kids.length) ao len cp wr) := by rw [hrl, ← hjn]; exact WK
            clear WK
            go_upto_if 48 with fail
            go_cut [6] from 13 (fun v wx => ∃ ao len cp, v = .slice ao len cp ∧ Hid (WordsI W0 t kd (extW x) ao len cp wx))
            case first =>
              rcases EX with _ | _
              · go_wp2_with fail
                go_meet
                refine ⟨_, _, _, rfl, ?_⟩
                unfold extW
                rw [← HEX.out]
                show WordsI _ _ _ ((kidW x x.kids.length) ++ []) _ _ _ _
                rw [List.append_nil]
                exact WE
              · have _u := True.intro
                have o9 : wr.ownsRow W0.heap.size 9 1 (.slice ao len cp) len ((num t :: kword kd :: (kidW x x.kids.length)).map Value.string) := WE.out.1
                have s9 := WE.out.2.2.size
                go_wp2_with (at_builtin; go_loud (refine wpList_append_own _ rfl _ _ 37 rfl W0.heap.size 9 i0 (.string ByteArray.empty) 1 16 Tryd.underlying37 hi hz0 hz1 hz2 rfl (by decide) (.slice ao len cp) len _ rfl (o9.alloc _) ⟨wr.heap.size, 0, none⟩ 1 1 [_] rfl rfl (cell_one_newS _ _ _) (by intro u hu; simp at hu; subst hu; rfl) (by unfold maxLen; omega) (by omega) (by simp; omega) ?_); intro v' w9 hown' hgrow' _)
                obtain ⟨a9, c9, rfl, wi9⟩ := WE.out.snoc hown' hgrow'
                have WI9 : Hid (_) := wi9
                clear hown' hgrow' o9 s9 wi9
                go_wp2_with fail
                go_meet
                refine ⟨_, _, _, rfl, ?_⟩
                unfold extW
                rw [← HEX.out]
                exact WI9
            case rest =>
              clear WE z1 z2 z3 z4 z5 hlen
              obtain ⟨ao, len, cp, rfl, WE⟩ := hcut
              have hlen : len ≤ 20 := by have h1 := WE.out.2.1; have h2 := (wsz_kid HSM.out x.kids.length).2; unfold extW at h1; rw [List.length_append] at h1; split at h1 <;> simp at h1 <;> omega
              obtain ⟨z1, z2, z3, z4, z5⟩ := BX.out _ WE.out.2.2
              go_upto_if 53 with fail
              go_cut [6] from 13 (fun v wx => ∃ ao len cp, v = .slice ao len cp ∧ Hid (WordsI W0 t kd (restW x) ao len cp wx))
              case first =>
                rcases OP with _ | _
                · go_wp2_with fail
                  go_meet
                  refine ⟨_, _, _, rfl, ?_⟩
                  unfold restW
                  rw [← HOP.out]
                  show WordsI _ _ _ ((extW x) ++ []) _ _ _ _
                  rw [List.append_nil]
                  exact WE
                · have _u := True.intro
                  have o9 : wc.ownsRow W0.heap.size 9 1 (.slice ao len cp) len ((num t :: kword kd :: (extW x)).map Value.string) := WE.out.1
                  have s9 := WE.out.2.2.size
                  go_wp2_with (at_builtin; go_loud (refine wpList_append_own _ rfl _ _ 37 rfl W0.heap.size 9 i0 (.string ByteArray.empty) 1 16 Tryd.underlying37 hi hz0 hz1 hz2 rfl (by decide) (.slice ao len cp) len _ rfl (o9.alloc _) ⟨wc.heap.size, 0, none⟩ 1 1 [_] rfl rfl (cell_one_newS _ _ _) (by intro u hu; simp at hu; subst hu; rfl) (by unfold maxLen; omega) (by omega) (by simp; omega) ?_); intro v' w9 hown' hgrow' _)
                  obtain ⟨a9, c9, rfl, wi9⟩ := WE.out.snoc hown' hgrow'
                  have WI9 : Hid (_) := wi9
                  clear hown' hgrow' o9 s9 wi9
                  go_wp2_with fail
                  go_meet
                  refine ⟨_, _, _, rfl, ?_⟩
                  unfold restW
                  rw [← HOP.out]
                  exact WI9
              case rest =>
                obtain ⟨ao, len, cp, rfl, WF⟩ := hcut
                have hs0 : w.heap.size ≤ W0.heap.size := by omega
                go_wp2_with fail
                go_ret
                exact ⟨ao, len, cp, rfl, WF.out.2.1, ⟨owns_mono WF.out.1 hs0⟩, bW.trans (WF.out.2.2.mono hs0)⟩

end Go.Proofs.YtaiflnccpgcklaaDoor
