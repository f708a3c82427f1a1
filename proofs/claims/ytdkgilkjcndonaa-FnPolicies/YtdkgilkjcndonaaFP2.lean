import Derived.Test.YtdkgilkjcndonaaPK5
import Derived.Test.YtdkgilkjcndonaaPP5
namespace Go.Proofs.Ytdkgilkjcndonaa
open Go.RowKit

theorem results_five {fn : Func} {t0 t1 t2 t3 t4 : Tmp} (h : fn.results = #[.tmp t0, .tmp t1, .tmp t2, .tmp t3, .tmp t4]) (tmps : Array Value) (v0 v1 v2 v3 v4 : Value) (h0 : tmps.getD t0 undef = v0) (h1 : tmps.getD t1 undef = v1) (h2 : tmps.getD t2 undef = v2) (h3 : tmps.getD t3 undef = v3) (h4 : tmps.getD t4 undef = v4) (w : World) : (results fn tmps).run Try.prog w = .ok (.tuple #[v0, v1, v2, v3, v4]) w := by
  have e0 : tmps[t0]?.getD undef = v0 := by rw [← h0]; simp
  have e1 : tmps[t1]?.getD undef = v1 := by rw [← h1]; simp
  have e2 : tmps[t2]?.getD undef = v2 := by rw [← h2]; simp
  have e3 : tmps[t3]?.getD undef = v3 := by rw [← h3]; simp
  have e4 : tmps[t4]?.getD undef = v4 := by rw [← h4]; simp
  simp [results, h, go_sem, e0, e1, e2, e3, e4]
theorem three_atN (V : Nat) (h : V < 3) : ∃ z : Int, (#[.int .i64 (-1), .int .i64 1000, .int .i64 1001] : Array Value)[V]? = some (.int .i64 z) := by
  match V, h with
  | 0, _ => exact ⟨_, rfl⟩
  | 1, _ => exact ⟨_, rfl⟩
  | 2, _ => exact ⟨_, rfl⟩
theorem Stay.grown {w1 w2 W W' : World} {g : Nat} {a : Option Addr} {n cap : Nat} {bs : List Int} {row : Option Nat} (h : Stay w1 w2 W g a n cap bs) (k : W.grownBy W' row) (hr : ∀ l, row = some l → w2.heap.size ≤ l) (hg : g < w1.heap.size) (h12 : w1.heap.size ≤ w2.heap.size) : Stay w1 w2 W' g a n cap bs := by
  have ne : ∀ l, l < w2.heap.size → some l ≠ row := fun l hl e => by have := hr l e.symm; omega
  have hs := h.size
  refine ⟨fun l h1 h2 => (k.block l (by omega) (ne l h2)).trans (h.same l h1 h2), Nat.le_trans hs k.size, ?_, ?_⟩
  · exact h.rd.1.touch (lo := w2.heap.size) (hi := W'.heap.size) ⟨k.os, k.tape, k.output, k.size, fun l hl ho => k.block l hl (by
      rcases ho with ho | ho
      · exact ne l ho
      · have := k.size; omega)⟩ (by omega)
  · have t := h.rd.2
    exact ⟨k.os.trans t.os, k.tape.trans t.tape, k.output.trans t.output, Nat.le_trans t.size k.size, fun l hl ho => (k.block l (by have := t.size; omega) (ne l (by omega))).trans (t.block l hl ho)⟩
def slLen : Value → Nat
  | .slice _ n _ => n
  | _ => 0
/-- What DrawPathPolicies answers. -/
def DpR (w : World) (e : Ending) (w' : World) : Prop := ∃ ao m c xs ai ni ci q b0 b1 b2, e = .returned (.tuple #[.slice ao m c, .slice ai ni ci, .bool b0, .bool b1, .bool b2]) ∧ m ≤ 100 ∧ ni ≤ 5 ∧ Pcs w' ao m xs ∧ Row64 w' ai ni q ∧ Below w.heap.size w w'

set_option maxRecDepth 10000 in
set_option maxHeartbeats 4000000 in
theorem drawPath_any (a : Option Addr) (n cap : Nat) (bs : List Int) (w : World) (h : Row w a n bs) (hn : n ≤ 1000000000) :
    Calls Try.prog 14 #[.slice a n cap] w (DpR w) := by
  obtain ⟨i0, ih, hz0, hz1, hz2⟩ := info_parts Try.info2P
  have HR : Hid (Row w a n bs) := h
  clear h
  go_enter Try.func14, Try.ntmps14
  go_wp2_with fail
  refine (open_any a n cap bs _ HR.out hn).mono ?_
  rintro e w1 ⟨rfl, hrd, hb1⟩
  obtain ⟨g, hg⟩ : ∃ g, g = w.heap.size := ⟨_, rfl⟩
  rw [← hg] at hrd ⊢
  have HG : Hid (g = w.heap.size) := hg
  have HB1 : Hid (Below w.heap.size w w1) := hb1
  have HR1 : Hid (Rd w1 g a n cap bs) := hrd
  have hg1 : g < w1.heap.size := hrd.lt
  clear hg hrd hb1
  go_wp2_with fail
  refine (l12Draw_any g a n cap bs _ HR1.out).mono ?_
  rintro e w2 ⟨ao, m, c, xs, rfl, hm, hx, hp2⟩
  have HX2 : Hid (∀ W' : World, (∀ l, w1.heap.size ≤ l → l < w2.heap.size → W'.heap[l]? = w2.heap[l]?) → Pcs W' ao m xs) := hx
  have HS2 : Hid (Stay w1 w2 w2 g a n cap bs) := ⟨fun _ _ _ => rfl, Nat.le_refl _, hp2⟩
  have h12 : w1.heap.size ≤ w2.heap.size := hp2.2.size
  clear hx hp2
  go_wp2_with fail
  refine (below_any g a n cap bs 4 _ HS2.out.rd.1 (by decide)).mono ?_
  rintro e w3 ⟨v3, rfl, h0, h1, hq3⟩
  have HS3 : Hid (Stay w1 w2 (w3.alloc (.cells #[.int .i64 v3] 2)) g a n cap bs) := (HS2.out.step hq3 hg1).alloc _
  have HO3 : Hid (OwnL w2.heap.size (w3.alloc (.cells #[.int .i64 v3] 2)) (some ⟨w3.heap.size, 0, none⟩) 1 1 [v3]) := ownL_mono (ownL_one w3 v3) hq3.2.size
  clear h0 h1 hq3 HS2
  go_wp2
  go_loopw [9] (fun s wr => ∃ (ai : Option Addr) (ni ci : Nat) (q : List Int), s = .slice ai ni ci ∧ ni ≤ 5 ∧ Hid (OwnL w2.heap.size wr ai ni ci q) ∧ Hid (Stay w1 w2 wr g a n cap bs)) (fun s _ => 5 - slLen s)
  case atStart => exact ⟨_, 1, 1, _, rfl, by decide, HO3, HS3⟩
  case round =>
    obtain ⟨ai, ni, ci, q, rfl, hni, HO, HS⟩ := hrel
    clear HO3 HS3
    go_upto_region 4 with fail
    go_cut [25] (fun cv wx => ∃ o : Bool, cv = .bool o ∧ (o = true → ni < 5) ∧ Hid (OwnL w2.heap.size wx ai ni ci q) ∧ Hid (Stay w1 w2 wx g a n cap bs))
    case first =>
      go_wp2_with fail
      refine (once_any g a n cap bs 2 _ HS.out.rd.1 (by decide) (by decide)).mono ?_
      rintro e w4 ⟨o4, rfl, hq4⟩
      have HS4 : Hid (Stay w1 w2 w4 g a n cap bs) := HS.out.step hq4 hg1
      have HO4 : Hid (OwnL w2.heap.size w4 ai ni ci q) := HO.out.of_blocks (fun k h1 h2 => hq4.2.block k h2 (.inr (by omega)))
      clear hq4 HS HO
      cases o4 with
      | false =>
        go_wp2
        go_meet
        exact ⟨false, rfl, fun e => absurd e (by decide), HO4, HS4⟩
      | true =>
        by_cases h5 : (ni : Int) < 5
        · go_wp2
          go_meet
          exact ⟨true, by first | rfl | (simp; omega), fun _ => by omega, HO4, HS4⟩
        · go_wp2
          go_meet
          exact ⟨false, by first | rfl | (simp; omega), fun e => absurd e (by decide), HO4, HS4⟩
    case rest =>
      obtain ⟨o, rfl, hno, HO4, HS4⟩ := hcut
      obtain ⟨w4, hw4⟩ : ∃ w4, w4 = wc := ⟨_, rfl⟩
      rw [← hw4] at HO4 HS4 ⊢
      clear hw4 HO HS
      cases o with
      | true =>
        have hn5 : ni < 5 := hno rfl
        clear hno
        go_wp2_with fail
        refine (below_any g a n cap bs 5 _ HS4.out.rd.1 (by decide)).mono ?_
        rintro e w5 ⟨v5, rfl, h0, h1, hq5⟩
        have HS5 : Hid (Stay w1 w2 w5 g a n cap bs) := HS4.out.step hq5 hg1
        have HO5 : Hid (OwnL w2.heap.size w5 ai ni ci q) := HO4.out.of_blocks (fun k h1 h2 => hq5.2.block k h2 (.inr (by omega)))
        have hsz := HS5.out.size
        clear h0 h1 hq5 HS4 HO4
        go_wp2_with (at_builtin; refine wpList_append_own _ rfl _ _ 32 rfl w2.heap.size 2 i0 (.int .i64 0) 1 8 Try.underlying32 ih hz0 hz1 hz2 rfl (by decide) _ ni _ rfl ((HO5.out.kept ((Below.refl _ _).alloc (Nat.le_refl _) _)).row) ⟨w5.heap.size, 0, none⟩ 1 1 ([v5].map (Value.int .i64)) rfl rfl (cell_one64P _ _) (ints_oneCell .i64 [v5]) (by unfold maxLen; omega) (by omega) (by simp; omega) ?_; intro v' w7 hown' hgrow' _; rw [← List.map_append] at hown'; obtain ⟨a7, c7, rfl, ho7⟩ := ownL_appended hown'; have hS7 := (HS5.out.alloc (.cells #[.int .i64 v5] 2)).grown hgrow' (fun l e => HO5.out.base l e) hg1 h12)
        have HO7 : Hid (OwnL w2.heap.size w7 a7 (ni + 1) c7 (q ++ [v5])) := ho7
        have HS7 : Hid (Stay w1 w2 w7 g a n cap bs) := hS7
        clear hown' hgrow' ho7 hS7
        go_wp2
        go_roundw
        case rel => exact ⟨a7, ni + 1, c7, q ++ [v5], rfl, by omega, HO7, HS7⟩
        case measure => simp [slLen]; omega
      | false =>
        clear hno
        go_wp2_with fail
        refine (once_any g a n cap bs 15 _ HS4.out.rd.1 (by decide) (by decide)).mono ?_
        rintro e w5 ⟨o5, rfl, hq5⟩
        have HS5 : Hid (Stay w1 w2 w5 g a n cap bs) := HS4.out.step hq5 hg1
        have HO5 : Hid (OwnL w2.heap.size w5 ai ni ci q) := HO4.out.of_blocks (fun k h1 h2 => hq5.2.block k h2 (.inr (by omega)))
        clear hq5 HS4 HO4
        go_upto_if 32 with fail
        go_cut [9] (fun s wx => ∃ (aj : Option Addr) (nj cj : Nat) (qj : List Int), s = .slice aj nj cj ∧ nj ≤ 5 ∧ Hid (OwnL w2.heap.size wx aj nj cj qj) ∧ Hid (Stay w1 w2 wx g a n cap bs))
        case first =>
          cases o5 with
          | false =>
            go_wp2
            go_meet
            exact ⟨_, _, _, _, rfl, hni, HO5, HS5⟩
          | true =>
            have HS6 : Hid (Stay w1 w2 (w5.alloc (.cells #[.int .i64 (-1), .int .i64 1000, .int .i64 1001] 2)) g a n cap bs) := HS5.out.alloc _
            have n5 := heap_alloc_new w5 (.cells #[.int .i64 (-1), .int .i64 1000, .int .i64 1001] 2)
            have HN5 : Hid (_ = _) := n5
            have l5 := (Array.getElem?_eq_some_iff.1 n5).1
            have HL5 : Hid (w5.heap.size < (w5.alloc (.cells #[.int .i64 (-1), .int .i64 1000, .int .i64 1001] 2)).heap.size) := l5
            have hg4 : g < w5.heap.size := Nat.lt_of_lt_of_le hg1 HS5.out.rd.2.size
            have hs5 := HS5.out.size
            clear n5 l5
            go_wp2_with fail
            refine (below_any g a n cap bs 3 _ HS6.out.rd.1 (by decide)).mono ?_
            rintro e w6 ⟨v6, rfl, h0, h1, hq6⟩
            obtain ⟨V6, rfl⟩ := Int.eq_ofNat_of_zero_le h0
            have hV6 : V6 < 3 := by omega
            have hV6i : (V6 : Int) < 3 := by omega
            have n6 := (hq6.2.block w5.heap.size HL5.out (.inr (by omega))).trans HN5.out
            obtain ⟨z, hz⟩ : ∃ z : Int, w6.cell? ⟨w5.heap.size, V6, none⟩ = some (.int .i64 z) := by
              rw [cell_of_row _ _ V6 _ 2 (0, 0) n6]; exact three_atN V6 hV6
            have l6 : w5.heap.size < w6.heap.size := (Array.getElem?_eq_some_iff.1 n6).1
            have HS7 : Hid (Stay w1 w2 (w6.alloc (.cells #[.int .i64 z] 2)) g a n cap bs) := (HS6.out.step hq6 hg1).alloc _
            have HO7 : Hid (OwnL w2.heap.size (w6.alloc (.cells #[.int .i64 z] 2)) (some ⟨w6.heap.size, 0, none⟩) 1 1 [z]) := ownL_mono (ownL_one w6 z) (by omega)
            clear hq6 n6 h0 h1
            go_wp2
            go_meet
            exact ⟨_, 1, 1, _, rfl, by decide, HO7, HS7⟩
        case rest =>
          obtain ⟨aj, nj, cj, qj, rfl, hnj, HOJ, HSJ⟩ := hcut
          clear HO5 HS5
          go_wp2_with fail
          refine (once_any g a n cap bs 2 _ HSJ.out.rd.1 (by decide) (by decide)).mono ?_
          rintro e w7 ⟨o7, rfl, hq7⟩
          have HS7 : Hid (Stay w1 w2 w7 g a n cap bs) := HSJ.out.step hq7 hg1
          have HO7 : Hid (OwnL w2.heap.size w7 aj nj cj qj) := HOJ.out.of_blocks (fun k h1 h2 => hq7.2.block k h2 (.inr (by omega)))
          clear hq7 HSJ HOJ
          go_wp2_with fail
          refine (once_any g a n cap bs 5 _ HS7.out.rd.1 (by decide) (by decide)).mono ?_
          rintro e w8 ⟨o8, rfl, hq8⟩
          have HS8 : Hid (Stay w1 w2 w8 g a n cap bs) := HS7.out.step hq8 hg1
          have HO8 : Hid (OwnL w2.heap.size w8 aj nj cj qj) := HO7.out.of_blocks (fun k h1 h2 => hq8.2.block k h2 (.inr (by omega)))
          clear hq8 HS7 HO7
          go_wp2_with fail
          refine (once_any g a n cap bs 5 _ HS8.out.rd.1 (by decide) (by decide)).mono ?_
          rintro e w9 ⟨o9, rfl, hq9⟩
          have HS9 : Hid (Stay w1 w2 w9 g a n cap bs) := HS8.out.step hq9 hg1
          have HO9 : Hid (OwnL w2.heap.size w9 aj nj cj qj) := HO8.out.of_blocks (fun k h1 h2 => hq9.2.block k h2 (.inr (by omega)))
          clear hq9 HS8 HO8
          go_wp2
          try simp only [Exit.inBlock, Exit.then]
          refine bodyPost_ret (results_five rfl _ _ _ _ _ _ rfl rfl rfl rfl rfl _) rfl ⟨ao, m, c, xs, aj, nj, cj, qj, o7, o8, o9, rfl, hm, hnj, HX2.out _ HS9.out.same, HO9.out.toRow, ?_⟩
          have ht := HS9.out.rd.2
          have hb1 := HB1.out
          have hgw := HG.out
          exact ⟨ht.os.trans hb1.os, ht.tape.trans hb1.tape, ht.output.trans hb1.output, Nat.le_trans hb1.size ht.size, fun l hl => (ht.block l (Nat.lt_of_lt_of_le hl hb1.size) (.inl (by omega))).trans (hb1.block l hl)⟩

end Go.Proofs.Ytdkgilkjcndonaa
