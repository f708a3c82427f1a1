import Derived.Test.YtcgmcdelgfemkaaEM9
import Derived.Lib.QuietBelow
import Derived.BigQuiet
namespace Go.Proofs.Ytcgmcdelgfemkaa
open Go.RowKit Go.Sort

def idX (x : Int) : Int := kidP (1, gp 4 x, 0)
def PosW (ws : List (Int × Int)) (id : Int) (j : Nat) : Prop := j < ws.length ∧ (ws.getD j (0, 0)).1 = id ∧ ∀ i, i < j → (ws.getD i (0, 0)).1 ≠ id
def NoW (ws : List (Int × Int)) (id : Int) (n : Nat) : Prop := ∀ i, i < n → (ws.getD i (0, 0)).1 ≠ id
theorem find_no (ws : List (Int × Int)) (id : Int) (h : NoW ws id ws.length) : ws.find? (fun p => p.1 == id) = none := by
  rw [List.find?_eq_none]
  intro p hp
  obtain ⟨i, hi, rfl⟩ := List.getElem_of_mem hp
  have h1 := h i hi
  have e : ws.getD i (0, 0) = ws[i] := by simp [hi]
  rw [e] at h1
  simpa using h1
theorem find_pos : ∀ (ws : List (Int × Int)) (id : Int) (j : Nat), PosW ws id j → ws.find? (fun p => p.1 == id) = some (ws.getD j (0, 0)) := by
  intro ws id
  induction ws with
  | nil => intro j h; exact absurd h.1 (Nat.not_lt_zero _)
  | cons p r ih =>
    intro j h
    obtain ⟨h1, h2, h3⟩ := h
    cases j with
    | zero =>
      have e : p.1 = id := by simpa using h2
      rw [List.find?_cons_of_pos (by simpa using e)]
      rfl
    | succ j =>
      have e : ¬ p.1 = id := by simpa using h3 0 (by omega)
      rw [List.find?_cons_of_neg (by simpa using e)]
      have := ih j ⟨by simpa using h1, by simpa using h2, fun i hi => by simpa using h3 (i + 1) (by omega)⟩
      rw [this]
      simp
def keyV (eph : Int) (x v : Int) : Int := bits .xor .u64 v (wrN (gp eph x) (idX x))
open Classical in
noncomputable def openR (eph : Int) (ws : List (Int × Int)) (bs : List Int) (tg x : Int) : List Int × Int :=
  if secP x ∧ keyP eph then
    (match ws.find? (fun p => p.1 == idX x) with
    | none => ([], 1)
    | some p => if bs.length ≤ 4000 ∧ tg = tagN (keyV eph x p.2) bs then (maskL (keyV eph x p.2) bs, 0) else ([], 2))
  else ([], 1)
theorem openR_len (eph : Int) (ws : List (Int × Int)) (bs : List Int) (tg x : Int) : (openR eph ws bs tg x).1.length ≤ 4000 := by
  unfold openR
  split
  · split
    · simp
    · split
      · rename_i h
        show (maskL _ bs).length ≤ 4000
        rw [maskL_lenE]; exact h.1
      · simp
  · simp
def OmA (t : List Int × Int) (w : World) (e : Ending) (w' : World) : Prop :=
  ∃ a n c, e = .returned (.tuple #[.slice a n c, .int .i64 t.2]) ∧ Own w.heap.size w' a n c t.1 ∧ Below w.heap.size w w'
theorem Calls.below_of_same {f : Nat} {args : Array Value} {w : World} {r : Ending} (h : Calls Try.prog f args w fun e w' => e = r ∧ w' = w) : Calls Try.prog f args w fun e w' => e = r ∧ Below w.heap.size w w' :=
  h.mono fun _ _ hh => ⟨hh.1, by rw [hh.2]; exact Below.refl _ _⟩

set_option maxRecDepth 10000 in
set_option maxHeartbeats 1000000 in
theorem openClosure_any (q : Int × Int) (g : Nat) (id : Int) (w : World) (hg : g < w.heap.size) (cg : w.cell? ⟨g, 0, none⟩ = some (.int .u64 id)) :
    Calls Try.prog 52 #[.agg #[.int .u64 q.1, .int .u64 q.2], .pointer (some ⟨g, 0, none⟩)] w fun e w' => e = .returned (.bool (decide (q.1 = id))) ∧ Below w.heap.size w w' := by
  have hbb : Below w.heap.size w (w.alloc (.cells #[.int .u64 q.1, .int .u64 q.2] 53)) := (Below.refl _ _).alloc (Nat.le_refl _) _
  have cg' : (w.alloc (.cells #[.int .u64 q.1, .int .u64 q.2] 53)).cell? ⟨g, 0, none⟩ = some (.int .u64 id) := (hbb.cell (p := ⟨g, 0, none⟩) hg).trans cg
  by_cases h : q.1 = id
  · rw [decide_eq_true h]
    have z : (q.1 == id) = true := by simpa using h
    clear h
    go_enter Try.func52, Try.ntmps52
    go_wp2
    go_ret
    exact ⟨rfl, hbb⟩
  · rw [decide_eq_false h]
    have z : (q.1 == id) = false := by simpa using h
    clear h
    go_enter Try.func52, Try.ntmps52
    go_wp2
    go_ret
    exact ⟨rfl, hbb⟩

set_option maxRecDepth 10000 in
set_option maxHeartbeats 2000000 in
theorem indexWrap_any (a : Option Addr) (n c : Nat) (ws : List (Int × Int)) (g : Nat) (id : Int) (w : World) (h : RowWr w a n ws) (hn : n ≤ 9223372036854775807) (hg : g < w.heap.size) (cg : w.cell? ⟨g, 0, none⟩ = some (.int .u64 id)) :
    Calls Try.prog 51 #[.slice a n c, .func (Fn.func 52) #[] #[.pointer (some ⟨g, 0, none⟩)]] w fun e w' => ((∃ j : Nat, e = .returned (.int .i64 j) ∧ Hid (PosW ws id j)) ∨ (e = .returned (.int .i64 (-1)) ∧ Hid (NoW ws id n))) ∧ Below w.heap.size w w' := by
  have H0 : Hid (RowWr w a n ws) := h
  have HL : Hid (ws.length = n) := h.len
  have HCG : Hid (w.cell? ⟨g, 0, none⟩ = some (.int .u64 id)) := cg
  clear h cg
  go_enter Try.func51, Try.ntmps51
  go_wp2
  go_loopw [8] (fun i wr => ∃ k : Nat, k ≤ n ∧ i = .int .i64 k ∧ Hid (NoW ws id k) ∧ Below w.heap.size w wr) (fun i _ => n - (intOf i).toNat)
  case atStart => exact ⟨0, Nat.zero_le _, rfl, fun k hk => absurd hk (Nat.not_lt_zero _), Below.refl _ _⟩
  case round =>
    obtain ⟨k, hk, rfl, HN, hbr⟩ := hrel
    by_cases hlt : k < n
    · obtain ⟨b, off, rfl, hb, x0, x1⟩ := (H0.out.kept hbr).get k hlt
      obtain ⟨q, hq⟩ : ∃ q, q = ws.getD k (0, 0) := ⟨_, rfl⟩
      rw [← hq] at x0 x1
      have HQ : Hid (ws.getD k (0, 0) = q) := hq.symm
      clear hq
      have hlti : (k : Int) < (n : Int) := by omega
      go_wp2_with fail
      refine (openClosure_any q g id _ (Nat.lt_of_lt_of_le hg hbr.size) ((hbr.cell (p := ⟨g, 0, none⟩) hg).trans HCG.out)).mono ?_
      rintro e w2 ⟨rfl, hb2⟩
      have B2 := keepT hbr hb2
      by_cases h0 : q.1 = id
      · rw [decide_eq_true h0]
        have HP : Hid (PosW ws id k) := ⟨by rw [HL.out]; exact hlt, by rw [HQ.out]; exact h0, HN.out⟩
        clear h0
        go_wp2
        go_ret
        exact ⟨.inl ⟨k, rfl, HP⟩, B2⟩
      · rw [decide_eq_false h0]
        have HN2 : Hid (NoW ws id (k + 1)) := fun i hi => by
          by_cases e : i < k
          · exact HN.out i e
          · obtain rfl : i = k := by omega
            rw [HQ.out]; exact h0
        clear h0
        go_wp2
        go_roundw
        case rel => exact ⟨k + 1, by omega, by go_num, HN2, B2⟩
        case measure => simp [intOf]; omega
    · obtain rfl : k = n := by omega
      go_wp2
      go_ret
      exact ⟨.inr ⟨rfl, HN⟩, hbr⟩

set_option maxRecDepth 10000 in
set_option maxHeartbeats 8000000 in
theorem implOpenMsg_any (eph : Int) (wa : Option Addr) (wn wc : Nat) (ba : Option Addr) (bn bc : Nat) (tg : Int) (ws : List (Int × Int)) (bs : List Int) (x : Int) (w : World) (h1 : RowWr w wa wn ws) (h2 : Row w ba bn bs) (hc2 : ba = none → bc = 0) (hn1 : wn ≤ 9223372036854775807) (hn2 : bn ≤ 9223372036854775807) :
    Calls Try.prog 18 #[evv eph wa wn wc ba bn bc tg, .int .i64 x] w (OmA (openR eph ws bs tg x) w) := by
  have L1 : Hid (ws.length = wn) := h1.len
  have L2 : Hid (bs.length = bn) := h2.len
  obtain ⟨wb, hwb⟩ : ∃ wb, wb = w.alloc (.cells #[.int .i64 eph, .slice wa wn wc, .slice ba bn bc, .int .u64 tg] 44) := ⟨_, rfl⟩
  have B0 : Below w.heap.size w wb := by rw [hwb]; exact (Below.refl _ _).alloc (Nat.le_refl _) _
  have HX : Hid (BlkV wb w.heap.size (.int .i64 eph) (.slice wa wn wc) (.slice ba bn bc) (.int .u64 tg)) := by rw [hwb]; exact heap_alloc_new w _
  have HW : Hid (_ = _) := hwb
  have H1 : Hid (RowWr w wa wn ws) := h1
  have H2 : Hid (Row w ba bn bs) := h2
  clear hwb h1 h2
  obtain ⟨⟨x0, x1, x2, x3⟩, _⟩ := HX.out.cells
  rw [evv]
  by_cases hs : secP x
  · have HS : Hid (secP x) := hs
    have hxb : 1 ≤ x ∧ x ≤ 500000002 := hs
    by_cases hk : keyP eph
    · have HK : Hid (keyP eph) := hk
      have hkb := keyP_lt hk
      obtain ⟨hx0, hx1⟩ := hxb
      obtain ⟨hk0, hk1⟩ := hkb
      go_enter Try.func18, Try.ntmps18
      go_upto_region 1 with fail
      rw [← HW.out]
      clear HW
      go_wp2_with fail
      refine (isSecret_any x _).mono ?_
      rintro e w1 ⟨rfl, hw⟩
      have hw2 := hw.symm
      subst hw2
      rw [decide_eq_true hs]
      go_wp2_with fail
      refine (isKey_any eph _).mono ?_
      rintro e w1 ⟨rfl, hw⟩
      have hw2 := hw.symm
      subst hw2
      rw [decide_eq_true hk]
      clear hs hk
      go_wp2_with fail
      refine (implKeyOf_any x _).mono ?_
      rintro e w1 ⟨rfl, hw⟩
      have hw2 := hw.symm
      subst hw2
      rw [secP_key HS.out]
      have hgp := gp_bd 4 x
      obtain ⟨ky, hky⟩ : ∃ ky, ky = gp 4 x := ⟨_, rfl⟩
      rw [← hky] at hgp ⊢
      obtain ⟨hg0, hg1⟩ := hgp
      have HID0 : Hid (idX x = kidN 1 ky 0) := by show _ = _; rw [hky]; rfl
      clear hky
      have KI := fun W => implKeyId_any 1 ky 0 W ⟨hg0, by omega⟩ (by decide) (by decide)
      unfold kpv at KI
      obtain ⟨id, hid⟩ : ∃ id, id = kidN 1 ky 0 := ⟨_, rfl⟩
      have hidb : U64 id := by rw [hid]; unfold kidN; exact hashL_bd _
      rw [← hid] at KI HID0
      clear hid
      have qu : IntKind.u64.wrap ky = ky := by first | (rw [IntKind.wrap_u64]; omega) | (show ky % 18446744073709551616 = ky; omega)
      go_wp2_with fail
      refine (KI _).mono ?_
      rintro e w2 ⟨rfl, hb2⟩
      clear qu KI
      obtain ⟨w3, hw3⟩ : ∃ w3, w3 = w2.alloc (.cells #[.int .u64 id] 26) := ⟨_, rfl⟩
      have hb3 : Below w2.heap.size w2 w3 := by rw [hw3]; exact (Below.refl _ _).alloc (Nat.le_refl _) _
      have HIB : Hid (w3.heap[w2.heap.size]? = some (.cells #[.int .u64 id] 26)) := by rw [hw3]; exact heap_alloc_new w2 _
      have HW3 : Hid (_ = _) := hw3
      clear hw3
      have hl3 : w2.heap.size < w3.heap.size := (Array.getElem?_eq_some_iff.1 HIB.out).1
      have HIC : ∀ W, Below w3.heap.size w3 W → W.cell? ⟨w2.heap.size, 0, none⟩ = some (.int .u64 id) := fun W hW => (cell_of_row _ _ 0 _ 26 (0, 0) ((hW.block _ hl3).trans HIB.out)).trans rfl
      have K3 := keepT hb2 hb3
      have B3 := keepT B0 K3
      have HX3 : Hid (BlkV w3 w.heap.size (.int .i64 eph) (.slice wa wn wc) (.slice ba bn bc) (.int .u64 tg)) := HX.out.kept K3
      clear x0 x1 x2 x3
      obtain ⟨⟨x0, x1, x2, x3⟩, _⟩ := HX3.out.cells
      go_upto_region 4 with fail
      rw [← HW3.out]
      clear HW3
      go_wp2_with fail
      refine (indexWrap_any wa wn wc ws w2.heap.size id _ (H1.out.kept B3) hn1 hl3 (HIC _ (Below.refl _ _))).mono ?_
      rintro e w4 ⟨hres, hb4⟩
      have B4 := keepT B3 hb4
      have HX4 : Hid (BlkV w4 w.heap.size (.int .i64 eph) (.slice wa wn wc) (.slice ba bn bc) (.int .u64 tg)) := HX3.out.kept hb4
      rcases hres with ⟨j, rfl, HP⟩ | ⟨rfl, HN⟩
      · have hjn : j < wn := by rw [← L1.out]; exact HP.out.1
        have hji : (j : Int) < (wn : Int) := by omega
        have hj0 : ¬ ((j : Int) < 0) := by omega
        obtain ⟨b1, off, rfl, hb1, y0, y1⟩ := (H1.out.kept B4).get j hjn
        obtain ⟨q, hq⟩ : ∃ q, q = ws.getD j (0, 0) := ⟨_, rfl⟩
        rw [← hq] at y0 y1
        obtain ⟨q1, v⟩ := q
        have HF : Hid (ws.find? (fun p => p.1 == idX x) = some (q1, v)) := by show _ = _; rw [hq, HID0.out]; exact find_pos ws id j HP.out
        clear hq HP x0 x1 x2 x3
        obtain ⟨⟨x0, x1, x2, x3⟩, _⟩ := HX4.out.cells
        have i0 := HIC _ hb4
        have hsh := gp_bd eph x
        obtain ⟨sh, hshv⟩ : ∃ sh, sh = gp eph x := ⟨_, rfl⟩
        have HSH : Hid (gp eph x = sh) := hshv.symm
        rw [← hshv] at hsh
        obtain ⟨hs0, hs1⟩ := hsh
        clear hshv
        have ca0 : Hid (∀ d os, Calls Try.prog 47 #[.int .i64 eph, .int .i64 x] (grow (redrawn w4 d) os) fun e w'' => e = .returned (.int .i64 sh) ∧ ∃ p : Regrown, w'' = grow (redrawn w4 p.d) p.os) := fun d os => Calls.regrown_of (Calls.below_of_same (by rw [← HSH.out]; exact power_any eph x _ (by omega) (by omega) (by omega) (by omega)))
        have ca1 : Hid (∀ d os, Calls Try.prog 46 #[.int .i64 sh, .int .u64 id] (grow (redrawn w4 d) os) fun e w'' => e = .returned (.int .u64 (wrN sh id)) ∧ ∃ p : Regrown, w'' = grow (redrawn w4 p.d) p.os) := fun d os => Calls.regrown_of (wrapMask_any sh id _ (by omega) hidb)
        obtain ⟨k, hk⟩ : ∃ k, k = bits .xor .u64 v (wrN sh id) := ⟨_, rfl⟩
        have hkb : U64 k := by rw [hk]; exact u64_xor_range _ _
        have HKV : Hid (keyV eph x v = k) := by show _ = _; rw [hk]; unfold keyV; rw [HSH.out, HID0.out]
        have XX : Hid (bits .xor .u64 v (wrN sh id) = k) := hk.symm
        clear hk
        have qx0 := cell_regrown x0
        have qx1 := cell_regrown x1
        have qy1 := cell_regrown y1
        have qi0 := cell_regrown i0
        go_wp2_with fail
        refine wp_region_quiet_below (by kernel_rfl) (by kernel_rfl) ?_
        iterate 9 (go_big_quiet_step (fail))
        go_big_quiet_step (exact ca0.out _ _)
        go_big_quiet_step (fail)
        go_big_quiet_step (exact ca1.out _ _)
        iterate 2 (go_big_quiet_step (fail))
        refine wpQuiet_nil ?_
        intro _ hw'
        obtain ⟨⟨dq, osq⟩, hw''⟩ := hw'
        subst hw''
        rw [XX.out]
        have b5 := below_regrown w4 dq osq
        obtain ⟨w5, hw5⟩ : ∃ w5, w5 = grow (redrawn w4 dq) osq := ⟨_, rfl⟩
        rw [← hw5] at b5 ⊢
        clear hw5 qx0 qx1 qy1 qi0 ca0 ca1 x0 x1 x2 x3 y0 y1 i0
        have B5 := keepT B4 b5
        have HX5 : Hid (BlkV w5 w.heap.size (.int .i64 eph) (.slice (some ⟨b1, off, none⟩) wn wc) (.slice ba bn bc) (.int .u64 tg)) := HX4.out.kept b5
        have HR5 : Hid (Row w5 ba bn bs) := H2.out.kept B5
        obtain ⟨⟨x0, x1, x2, x3⟩, _⟩ := HX5.out.cells
        have qx2 := cell_regrown x2
        have qx3 := cell_regrown x3
        by_cases hb : bn ≤ 4000
        · have hbi : decide ((4000 : Int) < (bn : Int)) = false := decide_eq_false (by omega)
          obtain ⟨tv, htv⟩ : ∃ tv, tv = tagN k bs := ⟨_, rfl⟩
          have HTV : Hid (tagN k bs = tv) := htv.symm
          have ca2 : Hid (∀ d os, Calls Try.prog 28 #[.int .u64 k, .slice ba bn bc] (grow (redrawn w5 d) os) fun e w'' => e = .returned (.int .u64 tv) ∧ ∃ p : Regrown, w'' = grow (redrawn w5 p.d) p.os) := fun d os => Calls.regrown_of (by rw [← HTV.out]; exact sealTag_any k ba bn bc bs _ hkb (HR5.out.kept (below_regrown w5 d os)) (by omega) hc2)
          clear htv
          by_cases ht : tg = tv
          · subst ht
            have HV : Hid (openR eph ws bs tg x = (maskL k bs, 0)) := by
              show _ = _
              unfold openR
              rw [if_pos ⟨HS.out, HK.out⟩, HF.out]
              show (if bs.length ≤ 4000 ∧ tg = tagN (keyV eph x v) bs then _ else _) = _
              rw [HKV.out, if_pos ⟨by rw [L2.out]; exact hb, HTV.out.symm⟩]
            have zt : (tg != tg) = false := by simp
            go_wp2_with fail
            refine wp_region_quiet_below (by kernel_rfl) (by kernel_rfl) ?_
            iterate 10 (go_big_quiet_step (fail))
            go_big_quiet_step (exact ca2.out _ _)
            iterate 2 (go_big_quiet_step (fail))
            refine wpQuiet_nil ?_
            intro _ hw'
            obtain ⟨⟨dq2, osq2⟩, hw''⟩ := hw'
            subst hw''
            have b6 := below_regrown w5 dq2 osq2
            have B6 := keepT B5 b6
            have x2' := qx2 dq2 osq2
            have HR6 : Hid (Row (grow (redrawn w5 dq2) osq2) ba bn bs) := HR5.out.kept b6
            go_wp2_with fail
            refine (masked_any k ba bn bc bs _ hkb HR6.out (by omega) hc2).mono ?_
            rintro e w7 ⟨a7, c7, rfl, ho7, hb7⟩
            go_wp2
            go_ret2
            exact ⟨a7, bn, c7, by rw [HV.out]; rfl, by rw [HV.out]; exact ho7.mono B6.size, keepT B6 hb7⟩
          · have HV : Hid (openR eph ws bs tg x = ([], 2)) := by
              show _ = _
              unfold openR
              rw [if_pos ⟨HS.out, HK.out⟩, HF.out]
              show (if bs.length ≤ 4000 ∧ tg = tagN (keyV eph x v) bs then _ else _) = _
              rw [HKV.out, if_neg (fun h => ht (h.2.trans HTV.out))]
            have zt : (tg != tv) = true := by simpa using ht
            go_wp2_with fail
            refine wp_region_quiet_below (by kernel_rfl) (by kernel_rfl) ?_
            iterate 10 (go_big_quiet_step (fail))
            go_big_quiet_step (exact ca2.out _ _)
            iterate 2 (go_big_quiet_step (fail))
            refine wpQuiet_nil ?_
            intro _ hw'
            obtain ⟨⟨dq2, osq2⟩, hw''⟩ := hw'
            subst hw''
            have B6 := keepT B5 (below_regrown w5 dq2 osq2)
            go_wp2
            go_ret2
            exact ⟨none, 0, 0, by rw [HV.out]; rfl, by rw [HV.out]; exact own_nilE _ _, B6⟩
        · have hbi : (4000 : Int) < (bn : Int) := by omega
          have HV : Hid (openR eph ws bs tg x = ([], 2)) := by
            show _ = _
            unfold openR
            rw [if_pos ⟨HS.out, HK.out⟩, HF.out]
            show (if bs.length ≤ 4000 ∧ tg = tagN (keyV eph x v) bs then _ else _) = _
            rw [if_neg (fun h => hb (by rw [← L2.out]; exact h.1))]
          go_wp2_with fail
          refine wp_region_quiet_below (by kernel_rfl) (by kernel_rfl) ?_
          iterate 13 (go_big_quiet_step (fail))
          refine wpQuiet_nil ?_
          intro _ hw'
          obtain ⟨⟨dq2, osq2⟩, hw''⟩ := hw'
          subst hw''
          have B6 := keepT B5 (below_regrown w5 dq2 osq2)
          go_wp2
          go_ret2
          exact ⟨none, 0, 0, by rw [HV.out]; rfl, by rw [HV.out]; exact own_nilE _ _, B6⟩
      · have HV : Hid (openR eph ws bs tg x = ([], 1)) := by
          show _ = _
          unfold openR
          rw [if_pos ⟨HS.out, HK.out⟩, HID0.out, find_no ws id (by rw [L1.out]; exact HN.out)]
        go_wp2
        go_ret2
        exact ⟨none, 0, 0, by rw [HV.out]; rfl, by rw [HV.out]; exact own_nilE _ _, B4⟩
    · have HV : Hid (openR eph ws bs tg x = ([], 1)) := by show _ = _; unfold openR; rw [if_neg (fun h => hk h.2)]
      go_enter Try.func18, Try.ntmps18
      go_upto_region 1 with fail
      rw [← HW.out]
      clear HW
      go_wp2_with fail
      refine (isSecret_any x _).mono ?_
      rintro e w1 ⟨rfl, hw⟩
      have hw2 := hw.symm
      subst hw2
      rw [decide_eq_true hs]
      go_wp2_with fail
      refine (isKey_any eph _).mono ?_
      rintro e w1 ⟨rfl, hw⟩
      have hw2 := hw.symm
      subst hw2
      rw [decide_eq_false hk]
      go_wp2
      go_ret2
      exact ⟨none, 0, 0, by rw [HV.out]; rfl, by rw [HV.out]; exact own_nilE _ _, B0⟩
  · have HV : Hid (openR eph ws bs tg x = ([], 1)) := by show _ = _; unfold openR; rw [if_neg (fun h => hs h.1)]
    go_enter Try.func18, Try.ntmps18
    go_upto_region 1 with fail
    rw [← HW.out]
    clear HW
    go_wp2_with fail
    refine (isSecret_any x _).mono ?_
    rintro e w1 ⟨rfl, hw⟩
    have hw2 := hw.symm
    subst hw2
    rw [decide_eq_false hs]
    go_wp2
    go_ret2
    exact ⟨none, 0, 0, by rw [HV.out]; rfl, by rw [HV.out]; exact own_nilE _ _, B0⟩

end Go.Proofs.Ytcgmcdelgfemkaa
