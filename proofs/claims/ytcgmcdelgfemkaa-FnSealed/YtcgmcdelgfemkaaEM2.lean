import Derived.Test.YtcgmcdelgfemkaaEM1
namespace Go.Proofs.Ytcgmcdelgfemkaa
open Go.RowKit

/-- The j-th eight bytes of the stream of k. -/
def strmW (k : Int) (j : Nat) : List Int := eightI (triN smX (eightI k) (putI (j : Int)))
def strm (k : Int) : Nat → List Int
  | 0 => []
  | j + 1 => strm k j ++ strmW k j
theorem strm_len (k : Int) (j : Nat) : (strm k j).length = 8 * j := by
  induction j with
  | zero => rfl
  | succ j ih => rw [strm, List.length_append, ih, strmW, eightI_len]; omega
def nblk (n : Nat) : Nat := (n + 7) / 8
def maskL (k : Int) (bs : List Int) : List Int := xorL bs (strm k (nblk bs.length))
def pkN (s : ByteArray) (salt : List Int) (r : Nat) : Int := stepsN (triN psX (strL s) salt) r
theorem pkN_bd (s : ByteArray) (salt : List Int) (r : Nat) : U64 (pkN s salt r) := stepsN_bd _ (triN_bd _ _ _) r
theorem own_nilE (B : Nat) (w : World) : Own B w none 0 0 [] := ⟨World.ownsRow_nil w B 5 1, by simp⟩
theorem own_zeroE (B : Nat) (w : World) (g : Nat) (hg : w.heap.size = g) (h : B ≤ w.heap.size) : Own B (w.alloc (.cells #[] 5)) (some ⟨g, 0, none⟩) 0 0 [] := by
  subst hg
  exact ⟨World.ownsRow_lit w #[] 0 h (by decide) rfl, by simp⟩
def lkP (n s m : Nat) (r : Int) : Prop := n ≤ 4000 ∧ s ≤ 100 ∧ m ≤ 16 ∧ 1 ≤ r ∧ r ≤ 1000

set_option maxRecDepth 10000 in
set_option maxHeartbeats 2000000 in
theorem masked_any (k : Int) (a : Option Addr) (n c : Nat) (bs : List Int) (w : World) (hk : U64 k) (h : Row w a n bs) (hn : n ≤ 100000) (_hc : a = none → c = 0) :
    Calls Try.prog 26 #[.int .u64 k, .slice a n c] w fun e w' => ∃ a' c', e = .returned (.slice a' n c') ∧ Own w.heap.size w' a' n c' (maskL k bs) ∧ Below w.heap.size w w' := by
  obtain ⟨i0, hi, hz0, hz1, hz2⟩ := info_parts Try.info5
  have H0 : Hid (Row w a n bs) := h
  have HK : Hid (U64 k) := hk
  have HLN : Hid (bs.length = n) := h.len
  clear h hk
  go_enter Try.func26, Try.ntmps26
  go_wp2
  go_loopw [5, 6] (fun o i wr => ∃ (j m cc : Nat) (ao : Option Addr), j ≤ nblk n ∧ Hid (m = 8 * j) ∧ i = .int .i64 j ∧ o = .slice ao m cc ∧ Own w.heap.size wr ao m cc (strm k j) ∧ Below w.heap.size w wr) (fun _ i _ => nblk n - (intOf i).toNat)
  case atStart => exact ⟨0, 0, 0, none, Nat.zero_le _, rfl, rfl, rfl, own_nilE _ _, Below.refl _ _⟩
  case round =>
    obtain ⟨j, m, cc, ao, hj, HM, rfl, rfl, hor, hbr⟩ := hrel
    have hws := hbr.size
    have hmb : m ≤ 100008 := by have := HM.out; unfold nblk at hj; omega
    have hjb : j ≤ 100008 := by unfold nblk at hj; omega
    by_cases hlt : m < n
    · have hlti : (m : Int) < (n : Int) := by omega
      have hjl : j < nblk n := by have := HM.out; unfold nblk; omega
      have HT : Hid (total [smX, eightI k, putI (j : Int)] ≤ 2097152) := by
        show _ ≤ _
        have h1 := putI_len (j : Int) (by omega)
        refine tri_total _ _ _ ?_
        rw [eightI_len]
        simp only [smX, List.length_cons, List.length_nil]; omega
      have hcv := Lib.run_convert_bytes_const (P := Try.prog) wr 22 5 #[.int .u8 115, .int .u8 116, .int .u8 114, .int .u8 101, .int .u8 97, .int .u8 109] 6 6 Try.underlying22 Try.underlying5
      have hrw : Row (wr.alloc (.cells #[.int .u8 115, .int .u8 116, .int .u8 114, .int .u8 101, .int .u8 97, .int .u8 109] 5 (6, 7))) (some ⟨wr.heap.size, 0, none⟩) 6 smX := row_word wr smX (6, 7) smX_byte
      have hb0 : Below wr.heap.size wr (wr.alloc (.cells #[.int .u8 115, .int .u8 116, .int .u8 114, .int .u8 101, .int .u8 97, .int .u8 109] 5 (6, 7))) := (Below.refl _ _).alloc (Nat.le_refl _) _
      go_wp2_with fail
      clear hcv
      obtain ⟨w0, hw0⟩ : ∃ w0, w0 = wr.alloc (.cells #[.int .u8 115, .int .u8 116, .int .u8 114, .int .u8 101, .int .u8 97, .int .u8 109] 5 (6, 7)) := ⟨_, rfl⟩
      rw [← hw0] at hrw hb0 ⊢
      clear hw0
      refine (digestBytes_any k _ HK.out.1 HK.out.2).mono ?_
      rintro e w1 ⟨g1, rfl, hr1, _, hb1⟩
      have he1 : (some (⟨g1, 0, none⟩ : Addr)) = none → 8 = 0 := (fun h => by cases h)
      have hor1 := hor.kept (keepT hb0 hb1)
      have B1 : Below w.heap.size w w1 := keepT hbr (keepT hb0 hb1)
      go_wp2_with fail
      refine (implPutNum_any (j : Int) _ (by omega)).mono ?_
      rintro e w2 ⟨a2, c2, rfl, ho2, hb2⟩
      obtain ⟨m2, hm2⟩ : ∃ m2, m2 = (putI (j : Int)).length := ⟨_, rfl⟩
      rw [← hm2] at ho2 ⊢
      clear hm2
      have B2 : Below w.heap.size w w2 := keepT B1 hb2
      have HRS : Hid (Rows2 (w2.alloc (.cells #[.slice (some ⟨wr.heap.size, 0, none⟩) 6 6, .slice (some ⟨g1, 0, none⟩) 8 8, .slice a2 m2 c2] 22)) (some ⟨w2.heap.size, 0, none⟩) 3 [smX, eightI k, putI (j : Int)]) :=
        tri_rows w2 22 _ _ _ _ _ _ _ _ _ _ _ _ ((hrw.kept hb1).kept hb2) (fun h => by cases h) (hr1.kept hb2) he1 ho2.toRow ho2.nil
      have B3 : Below w.heap.size w (w2.alloc (.cells #[.slice (some ⟨wr.heap.size, 0, none⟩) 6 6, .slice (some ⟨g1, 0, none⟩) 8 8, .slice a2 m2 c2] 22)) := B2.alloc B2.size _
      have b3 : Below w2.heap.size w2 (w2.alloc (.cells #[.slice (some ⟨wr.heap.size, 0, none⟩) 6 6, .slice (some ⟨g1, 0, none⟩) 8 8, .slice a2 m2 c2] 22)) := (Below.refl _ _).alloc (Nat.le_refl _) _
      have hor3 := (hor1.kept hb2).kept b3
      clear hr1 he1 hrw ho2 hor1 hb2 hb1 hb0 hor b3
      go_wp2_with fail
      refine (implHashParts_any _ 3 3 [smX, eightI k, putI (j : Int)] _ HRS.out (by decide) HT.out).mono ?_
      rintro e w3 ⟨rfl, hb3⟩
      have hor4 := hor3.kept hb3
      have B4 : Below w.heap.size w w3 := keepT B3 hb3
      obtain ⟨v, hv⟩ : ∃ v, v = hashL (partsL [smX, eightI k, putI (j : Int)]) := ⟨_, rfl⟩
      have hvb : U64 v := by rw [hv]; exact hashL_bd _
      have HV : Hid (strm k (j + 1) = strm k j ++ eightI v) := by show _ = _; rw [hv]; rfl
      rw [← hv]
      clear hv hb3 hor3 B3
      go_wp2_with fail
      refine (digestBytes_any v _ hvb.1 hvb.2).mono ?_
      rintro e w4 ⟨g4, rfl, hr4, _, hb4⟩
      have he4 : (some (⟨g4, 0, none⟩ : Addr)) = none → 8 = 0 := (fun h => by cases h)
      have hor5 := hor4.kept hb4
      have B5 : Below w.heap.size w w4 := keepT B4 hb4
      have hs5 := B5.size
      clear hor4 hb4 B4
      go_wp2_with (at_builtin; refine wpList_append_row _ rfl (.tmp 23) (.tmp 25) 22 rfl w.heap.size i0 Try.underlying22 hi hz0 hz1 hz2 _ _ _ rfl hor5.row (some ⟨g4, 0, none⟩) 8 8 (eightI v) rfl hr4 he4 (by omega) (by omega) ?_; intro v6 w6 hv6 hg6)
      obtain ⟨a6, c6, rfl, ho6⟩ := own_appended (ys := eightI v) hv6 hor5.byte (eightI_byte v)
      have B6 : Below w.heap.size w w6 := below_appended B5 (by omega) hor5.row hg6
      rw [← HV.out] at ho6
      go_roundw
      case rel => exact ⟨j + 1, m + 8, c6, a6, by omega, (by have := HM.out; show _ = _; omega), by go_num, rfl, ho6, B6⟩
      case measure => simp [intOf]; omega
    · have hlti : ¬ (m : Int) < (n : Int) := by omega
      have HE : Hid (maskL k bs = xorL bs (strm k j)) := by
        show _ = _
        unfold maskL
        rw [HLN.out]
        have h1 := HM.out
        have : nblk n = j := by unfold nblk at hj ⊢; omega
        rw [this]
      go_wp2_with fail
      refine (implXor_any a ao n m c cc bs (strm k j) _ (H0.out.kept hbr) hor.toRow (by omega) (by omega)).mono ?_
      rintro e w7 ⟨a7, c7, rfl, ho7, hb7⟩
      go_wp2
      go_ret
      exact ⟨a7, c7, rfl, by rw [HE.out]; exact ho7.mono hws, keepT hbr hb7⟩

set_option maxRecDepth 10000 in
set_option maxHeartbeats 2000000 in
theorem l17Stream_any (k : Int) (a : Option Addr) (n c : Nat) (bs : List Int) (w : World) (hk : U64 k) (h : Row w a n bs) (hn : n ≤ 100000) (hc : a = none → c = 0) :
    Calls Try.prog 31 #[.int .u64 k, .slice a n c] w fun e w' => ∃ a' c', e = .returned (.slice a' n c') ∧ Own w.heap.size w' a' n c' (maskL k bs) ∧ Below w.heap.size w w' := by
  obtain ⟨i0, hi, hz0, hz1, hz2⟩ := info_parts Try.info5
  have H0 : Hid (Row w a n bs) := h
  have HK : Hid (U64 k) := hk
  have HLN : Hid (bs.length = n) := h.len
  clear h hk
  have hoe := own_empty w
  have hbe : Below w.heap.size w (w.alloc (.cells #[] 5)) := (Below.refl _ _).alloc (Nat.le_refl _) _
  go_enter Try.func31, Try.ntmps31
  go_wp2
  go_loopw [5, 6] (fun o i wr => ∃ (j m cc : Nat) (ao : Option Addr), j ≤ nblk n ∧ Hid (m = 8 * j) ∧ i = .int .i64 j ∧ o = .slice ao m cc ∧ Own w.heap.size wr ao m cc (strm k j) ∧ Below w.heap.size w wr) (fun _ i _ => nblk n - (intOf i).toNat)
  case atStart => exact ⟨0, 0, 0, _, Nat.zero_le _, rfl, rfl, rfl, hoe, hbe⟩
  case round =>
    obtain ⟨j, m, cc, ao, hj, HM, rfl, rfl, hor, hbr⟩ := hrel
    have hws := hbr.size
    have hmb : m ≤ 100008 := by have := HM.out; unfold nblk at hj; omega
    have hjb : j ≤ 100008 := by unfold nblk at hj; omega
    by_cases hlt : m < n
    · have hlti : (m : Int) < (n : Int) := by omega
      have hjl : j < nblk n := by have := HM.out; unfold nblk; omega
      have HT : Hid (total [smX, eightI k, putI (j : Int)] ≤ 2097152) := by
        show _ ≤ _
        have h1 := putI_len (j : Int) (by omega)
        refine tri_total _ _ _ ?_
        rw [eightI_len]
        simp only [smX, List.length_cons, List.length_nil]; omega
      have hcv := Lib.run_convert_bytes_const (P := Try.prog) wr 22 5 #[.int .u8 115, .int .u8 116, .int .u8 114, .int .u8 101, .int .u8 97, .int .u8 109] 6 6 Try.underlying22 Try.underlying5
      have hrw : Row (wr.alloc (.cells #[.int .u8 115, .int .u8 116, .int .u8 114, .int .u8 101, .int .u8 97, .int .u8 109] 5 (6, 7))) (some ⟨wr.heap.size, 0, none⟩) 6 smX := row_word wr smX (6, 7) smX_byte
      have hb0 : Below wr.heap.size wr (wr.alloc (.cells #[.int .u8 115, .int .u8 116, .int .u8 114, .int .u8 101, .int .u8 97, .int .u8 109] 5 (6, 7))) := (Below.refl _ _).alloc (Nat.le_refl _) _
      go_wp2_with fail
      clear hcv
      obtain ⟨w0, hw0⟩ : ∃ w0, w0 = wr.alloc (.cells #[.int .u8 115, .int .u8 116, .int .u8 114, .int .u8 101, .int .u8 97, .int .u8 109] 5 (6, 7)) := ⟨_, rfl⟩
      rw [← hw0] at hrw hb0 ⊢
      clear hw0
      refine (l1Eight_any k _ HK.out.1 HK.out.2).mono ?_
      rintro e w1 ⟨a1, c1, rfl, ho1, hb1⟩
      have hr1 := ho1.toRow
      have he1 := ho1.nil
      have hor1 := hor.kept (keepT hb0 hb1)
      have B1 : Below w.heap.size w w1 := keepT hbr (keepT hb0 hb1)
      go_wp2_with fail
      refine (specPutNum_any (j : Int) _ (by omega)).mono ?_
      rintro e w2 ⟨a2, c2, rfl, ho2, hb2⟩
      obtain ⟨m2, hm2⟩ : ∃ m2, m2 = (putI (j : Int)).length := ⟨_, rfl⟩
      rw [← hm2] at ho2 ⊢
      clear hm2
      have B2 : Below w.heap.size w w2 := keepT B1 hb2
      have HRS : Hid (Rows2 (w2.alloc (.cells #[.slice (some ⟨wr.heap.size, 0, none⟩) 6 6, .slice a1 8 c1, .slice a2 m2 c2] 22)) (some ⟨w2.heap.size, 0, none⟩) 3 [smX, eightI k, putI (j : Int)]) :=
        tri_rows w2 22 _ _ _ _ _ _ _ _ _ _ _ _ ((hrw.kept hb1).kept hb2) (fun h => by cases h) (hr1.kept hb2) he1 ho2.toRow ho2.nil
      have B3 : Below w.heap.size w (w2.alloc (.cells #[.slice (some ⟨wr.heap.size, 0, none⟩) 6 6, .slice a1 8 c1, .slice a2 m2 c2] 22)) := B2.alloc B2.size _
      have b3 : Below w2.heap.size w2 (w2.alloc (.cells #[.slice (some ⟨wr.heap.size, 0, none⟩) 6 6, .slice a1 8 c1, .slice a2 m2 c2] 22)) := (Below.refl _ _).alloc (Nat.le_refl _) _
      have hor3 := (hor1.kept hb2).kept b3
      clear hr1 he1 hrw ho2 hor1 hb2 hb1 hb0 hor b3
      go_wp2_with fail
      refine (specHashAll_any _ 3 3 [smX, eightI k, putI (j : Int)] _ HRS.out (by decide) HT.out).mono ?_
      rintro e w3 ⟨rfl, hb3⟩
      have hor4 := hor3.kept hb3
      have B4 : Below w.heap.size w w3 := keepT B3 hb3
      obtain ⟨v, hv⟩ : ∃ v, v = hashL (partsL [smX, eightI k, putI (j : Int)]) := ⟨_, rfl⟩
      have hvb : U64 v := by rw [hv]; exact hashL_bd _
      have HV : Hid (strm k (j + 1) = strm k j ++ eightI v) := by show _ = _; rw [hv]; rfl
      rw [← hv]
      clear hv hb3 hor3 B3
      go_wp2_with fail
      refine (l1Eight_any v _ hvb.1 hvb.2).mono ?_
      rintro e w4 ⟨a4, c4, rfl, ho4, hb4⟩
      have hr4 := ho4.toRow
      have he4 := ho4.nil
      have hor5 := hor4.kept hb4
      have B5 : Below w.heap.size w w4 := keepT B4 hb4
      have hs5 := B5.size
      clear hor4 hb4 B4
      go_wp2_with (at_builtin; refine wpList_append_row _ rfl (.tmp 15) (.tmp 24) 22 rfl w.heap.size i0 Try.underlying22 hi hz0 hz1 hz2 _ _ _ rfl hor5.row a4 8 c4 (eightI v) rfl hr4 he4 (by omega) (by omega) ?_; intro v6 w6 hv6 hg6)
      obtain ⟨a6, c6, rfl, ho6⟩ := own_appended (ys := eightI v) hv6 hor5.byte (eightI_byte v)
      have B6 : Below w.heap.size w w6 := below_appended B5 (by omega) hor5.row hg6
      rw [← HV.out] at ho6
      go_roundw
      case rel => exact ⟨j + 1, m + 8, c6, a6, by omega, (by have := HM.out; show _ = _; omega), by go_num, rfl, ho6, B6⟩
      case measure => simp [intOf]; omega
    · have hlti : ¬ (m : Int) < (n : Int) := by omega
      have HE : Hid (maskL k bs = xorL bs (strm k j)) := by
        show _ = _
        unfold maskL
        rw [HLN.out]
        have h1 := HM.out
        have : nblk n = j := by unfold nblk at hj ⊢; omega
        rw [this]
      go_wp2_with fail
      refine (specXor_any a ao n m c cc bs (strm k j) _ (H0.out.kept hbr) hor.toRow hc (by omega) (by omega)).mono ?_
      rintro e w7 ⟨a7, c7, rfl, ho7, hb7⟩
      go_wp2
      go_ret
      exact ⟨a7, c7, rfl, by rw [HE.out]; exact ho7.mono hws, keepT hbr hb7⟩

set_option maxRecDepth 10000 in
set_option maxHeartbeats 400000 in
theorem lockOk_t (a : Option Addr) (n c : Nat) (s : ByteArray) (b : Option Addr) (m d : Nat) (r : Int) (w : World) (h : lkP n s.size m r) : Calls Try.prog 24 #[.slice a n c, .string s, .slice b m d, .int .i64 r] w fun e w' => e = .returned (.bool true) ∧ w' = w := by
  have z1 : decide ((n : Int) ≤ 4000) = true := decide_eq_true (by have := h.1; omega)
  have z2 : decide ((s.size : Int) ≤ 100) = true := decide_eq_true (by have := h.2.1; omega)
  have z3 : decide ((m : Int) ≤ 16) = true := decide_eq_true (by have := h.2.2.1; omega)
  have H4 : Hid (1 ≤ r ∧ r ≤ 1000) := h.2.2.2
  clear h
  go_enter Try.func24, Try.ntmps24
  go_wp2_with fail
  refine (inBounds_t r 1 1000 _ H4.out).mono ?_
  rintro e w1 ⟨rfl, hw⟩
  have hw2 := hw.symm
  subst hw2
  go_wp2
  go_ret
  exact ⟨rfl, rfl⟩

set_option maxRecDepth 10000 in
set_option maxHeartbeats 400000 in
theorem lockOk_f (a : Option Addr) (n c : Nat) (s : ByteArray) (b : Option Addr) (m d : Nat) (r : Int) (w : World) (h : ¬ lkP n s.size m r) : Calls Try.prog 24 #[.slice a n c, .string s, .slice b m d, .int .i64 r] w fun e w' => e = .returned (.bool false) ∧ w' = w := by
  by_cases h1 : n ≤ 4000
  · have z1 : decide ((n : Int) ≤ 4000) = true := decide_eq_true (by omega)
    by_cases h2 : s.size ≤ 100
    · have z2 : decide ((s.size : Int) ≤ 100) = true := decide_eq_true (by omega)
      by_cases h3 : m ≤ 16
      · have z3 : decide ((m : Int) ≤ 16) = true := decide_eq_true (by omega)
        have H4 : Hid (¬ (1 ≤ r ∧ r ≤ 1000)) := fun h4 => h ⟨h1, h2, h3, h4⟩
        clear h h1 h2 h3
        go_enter Try.func24, Try.ntmps24
        go_wp2_with fail
        refine (inBounds_f r 1 1000 _ H4.out).mono ?_
        rintro e w1 ⟨rfl, hw⟩
        have hw2 := hw.symm
        subst hw2
        go_wp2
        go_ret
        exact ⟨rfl, rfl⟩
      · have z3 : decide ((m : Int) ≤ 16) = false := decide_eq_false (by omega)
        clear h h1 h2 h3
        go_enter Try.func24, Try.ntmps24
        go_wp2
        go_ret
        exact ⟨rfl, rfl⟩
    · have z2 : decide ((s.size : Int) ≤ 100) = false := decide_eq_false (by omega)
      clear h h1 h2
      go_enter Try.func24, Try.ntmps24
      go_wp2
      go_ret
      exact ⟨rfl, rfl⟩
  · have z1 : decide ((n : Int) ≤ 4000) = false := decide_eq_false (by omega)
    clear h h1
    go_enter Try.func24, Try.ntmps24
    go_wp2
    go_ret
    exact ⟨rfl, rfl⟩

set_option maxRecDepth 10000 in
set_option maxHeartbeats 400000 in
theorem l17LockOk_t (a : Option Addr) (n c : Nat) (s : ByteArray) (b : Option Addr) (m d : Nat) (r : Int) (w : World) (h : lkP n s.size m r) : Calls Try.prog 29 #[.slice a n c, .string s, .slice b m d, .int .i64 r] w fun e w' => e = .returned (.bool true) ∧ w' = w := by
  have z1 : decide ((n : Int) ≤ 4000) = true := decide_eq_true (by have := h.1; omega)
  have z2 : decide ((s.size : Int) ≤ 100) = true := decide_eq_true (by have := h.2.1; omega)
  have z3 : decide ((m : Int) ≤ 16) = true := decide_eq_true (by have := h.2.2.1; omega)
  have H4 : Hid (1 ≤ r ∧ r ≤ 1000) := h.2.2.2
  clear h
  go_enter Try.func29, Try.ntmps29
  go_wp2_with fail
  refine (l1In_t r 1 1000 _ H4.out).mono ?_
  rintro e w1 ⟨rfl, hw⟩
  have hw2 := hw.symm
  subst hw2
  go_wp2
  go_ret
  exact ⟨rfl, rfl⟩

set_option maxRecDepth 10000 in
set_option maxHeartbeats 400000 in
theorem l17LockOk_f (a : Option Addr) (n c : Nat) (s : ByteArray) (b : Option Addr) (m d : Nat) (r : Int) (w : World) (h : ¬ lkP n s.size m r) : Calls Try.prog 29 #[.slice a n c, .string s, .slice b m d, .int .i64 r] w fun e w' => e = .returned (.bool false) ∧ w' = w := by
  by_cases h1 : n ≤ 4000
  · have z1 : decide ((n : Int) ≤ 4000) = true := decide_eq_true (by omega)
    by_cases h2 : s.size ≤ 100
    · have z2 : decide ((s.size : Int) ≤ 100) = true := decide_eq_true (by omega)
      by_cases h3 : m ≤ 16
      · have z3 : decide ((m : Int) ≤ 16) = true := decide_eq_true (by omega)
        have H4 : Hid (¬ (1 ≤ r ∧ r ≤ 1000)) := fun h4 => h ⟨h1, h2, h3, h4⟩
        clear h h1 h2 h3
        go_enter Try.func29, Try.ntmps29
        go_wp2_with fail
        refine (l1In_f r 1 1000 _ H4.out).mono ?_
        rintro e w1 ⟨rfl, hw⟩
        have hw2 := hw.symm
        subst hw2
        go_wp2
        go_ret
        exact ⟨rfl, rfl⟩
      · have z3 : decide ((m : Int) ≤ 16) = false := decide_eq_false (by omega)
        clear h h1 h2 h3
        go_enter Try.func29, Try.ntmps29
        go_wp2
        go_ret
        exact ⟨rfl, rfl⟩
    · have z2 : decide ((s.size : Int) ≤ 100) = false := decide_eq_false (by omega)
      clear h h1 h2
      go_enter Try.func29, Try.ntmps29
      go_wp2
      go_ret
      exact ⟨rfl, rfl⟩
  · have z1 : decide ((n : Int) ≤ 4000) = false := decide_eq_false (by omega)
    clear h h1
    go_enter Try.func29, Try.ntmps29
    go_wp2
    go_ret
    exact ⟨rfl, rfl⟩

set_option maxRecDepth 10000 in
set_option maxHeartbeats 1000000 in
theorem lockKey_any (s : ByteArray) (a : Option Addr) (n c : Nat) (bs : List Int) (r : Nat) (w : World) (h : Row w a n bs) (hs : s.size ≤ 100) (hn : n ≤ 16) (hc : a = none → c = 0) (hr : r ≤ 1000) :
    Calls Try.prog 25 #[.string s, .slice a n c, .int .i64 r] w fun e w' => e = .returned (.int .u64 (pkN s bs r)) ∧ Below w.heap.size w w' := by
  have H0 : Hid (Row w a n bs) := h
  have HT : Hid (total [psX, strL s, bs] ≤ 2097152) := by
    show _ ≤ _
    have h2 := h.len
    refine tri_total _ _ _ ?_
    rw [strL_len]
    simp only [psX, List.length_cons, List.length_nil]; omega
  clear h
  have hcv := Lib.run_convert_bytes_const (P := Try.prog) w 22 5 #[.int .u8 112, .int .u8 97, .int .u8 115, .int .u8 115] 4 4 Try.underlying22 Try.underlying5
  have hrw : Row (w.alloc (.cells #[.int .u8 112, .int .u8 97, .int .u8 115, .int .u8 115] 5 (4, 5))) (some ⟨w.heap.size, 0, none⟩) 4 psX := row_word w psX (4, 5) psX_byte
  have hb0 : Below w.heap.size w (w.alloc (.cells #[.int .u8 112, .int .u8 97, .int .u8 115, .int .u8 115] 5 (4, 5))) := (Below.refl _ _).alloc (Nat.le_refl _) _
  obtain ⟨cp, W, hcv2, hgd, hb1⟩ := conv_strT (w.alloc (.cells #[.int .u8 112, .int .u8 97, .int .u8 115, .int .u8 115] 5 (4, 5))) s
  have B1 : Below w.heap.size w W := keepT hb0 hb1
  have HRS : Hid (Rows2 (W.alloc (.cells #[.slice (some ⟨w.heap.size, 0, none⟩) 4 4, .slice (some ⟨(w.alloc (.cells #[.int .u8 112, .int .u8 97, .int .u8 115, .int .u8 115] 5 (4, 5))).heap.size, 0, none⟩) s.size cp, .slice a n c] 22)) (some ⟨W.heap.size, 0, none⟩) 3 [psX, strL s, bs]) :=
    tri_rows W 22 _ _ _ _ _ _ _ _ _ _ _ _ (hrw.kept hb1) (fun h => by cases h) hgd.1 (fun h => by cases h) (H0.out.kept B1) hc
  have B3 : Below w.heap.size w (W.alloc (.cells #[.slice (some ⟨w.heap.size, 0, none⟩) 4 4, .slice (some ⟨(w.alloc (.cells #[.int .u8 112, .int .u8 97, .int .u8 115, .int .u8 115] 5 (4, 5))).heap.size, 0, none⟩) s.size cp, .slice a n c] 22)) := B1.alloc B1.size _
  have hsz : (w.alloc (.cells #[.int .u8 112, .int .u8 97, .int .u8 115, .int .u8 115] 5 (4, 5))).heap.size = w.heap.size + 1 := by simp
  rw [hsz] at HRS B3 hcv2
  clear hrw hgd hb1 hsz
  go_enter Try.func25, Try.ntmps25
  go_wp2_with fail
  refine (implHashParts_any _ 3 3 [psX, strL s, bs] _ HRS.out (by decide) HT.out).mono ?_
  rintro e w3 ⟨rfl, hb3⟩
  have B4 := keepT B3 hb3
  have HVB : Hid (U64 (hashL (partsL [psX, strL s, bs]))) := hashL_bd _
  go_wp2_with fail
  refine (stepped_any _ r _ HVB.out hr).mono ?_
  rintro e w4 ⟨rfl, hb4⟩
  go_wp2
  go_ret
  exact ⟨rfl, keepT B4 hb4⟩

set_option maxRecDepth 10000 in
set_option maxHeartbeats 1000000 in
theorem l17PassKey_any (s : ByteArray) (a : Option Addr) (n c : Nat) (bs : List Int) (r : Nat) (w : World) (h : Row w a n bs) (hs : s.size ≤ 100) (hn : n ≤ 16) (hc : a = none → c = 0) (hr : r ≤ 1000) :
    Calls Try.prog 30 #[.string s, .slice a n c, .int .i64 r] w fun e w' => e = .returned (.int .u64 (pkN s bs r)) ∧ Below w.heap.size w w' := by
  have H0 : Hid (Row w a n bs) := h
  have HT : Hid (total [psX, strL s, bs] ≤ 2097152) := by
    show _ ≤ _
    have h2 := h.len
    refine tri_total _ _ _ ?_
    rw [strL_len]
    simp only [psX, List.length_cons, List.length_nil]; omega
  clear h
  have hcv := Lib.run_convert_bytes_const (P := Try.prog) w 22 5 #[.int .u8 112, .int .u8 97, .int .u8 115, .int .u8 115] 4 4 Try.underlying22 Try.underlying5
  have hrw : Row (w.alloc (.cells #[.int .u8 112, .int .u8 97, .int .u8 115, .int .u8 115] 5 (4, 5))) (some ⟨w.heap.size, 0, none⟩) 4 psX := row_word w psX (4, 5) psX_byte
  have hb0 : Below w.heap.size w (w.alloc (.cells #[.int .u8 112, .int .u8 97, .int .u8 115, .int .u8 115] 5 (4, 5))) := (Below.refl _ _).alloc (Nat.le_refl _) _
  obtain ⟨cp, W, hcv2, hgd, hb1⟩ := conv_strT (w.alloc (.cells #[.int .u8 112, .int .u8 97, .int .u8 115, .int .u8 115] 5 (4, 5))) s
  have B1 : Below w.heap.size w W := keepT hb0 hb1
  have HRS : Hid (Rows2 (W.alloc (.cells #[.slice (some ⟨w.heap.size, 0, none⟩) 4 4, .slice (some ⟨(w.alloc (.cells #[.int .u8 112, .int .u8 97, .int .u8 115, .int .u8 115] 5 (4, 5))).heap.size, 0, none⟩) s.size cp, .slice a n c] 22)) (some ⟨W.heap.size, 0, none⟩) 3 [psX, strL s, bs]) :=
    tri_rows W 22 _ _ _ _ _ _ _ _ _ _ _ _ (hrw.kept hb1) (fun h => by cases h) hgd.1 (fun h => by cases h) (H0.out.kept B1) hc
  have B3 : Below w.heap.size w (W.alloc (.cells #[.slice (some ⟨w.heap.size, 0, none⟩) 4 4, .slice (some ⟨(w.alloc (.cells #[.int .u8 112, .int .u8 97, .int .u8 115, .int .u8 115] 5 (4, 5))).heap.size, 0, none⟩) s.size cp, .slice a n c] 22)) := B1.alloc B1.size _
  have hsz : (w.alloc (.cells #[.int .u8 112, .int .u8 97, .int .u8 115, .int .u8 115] 5 (4, 5))).heap.size = w.heap.size + 1 := by simp
  rw [hsz] at HRS B3 hcv2
  clear hrw hgd hb1 hsz
  go_enter Try.func30, Try.ntmps30
  go_wp2_with fail
  refine (specHashAll_any _ 3 3 [psX, strL s, bs] _ HRS.out (by decide) HT.out).mono ?_
  rintro e w3 ⟨rfl, hb3⟩
  have B4 := keepT B3 hb3
  have HVB : Hid (U64 (hashL (partsL [psX, strL s, bs]))) := hashL_bd _
  obtain ⟨v, hv⟩ : ∃ v, v = hashL (partsL [psX, strL s, bs]) := ⟨_, rfl⟩
  have HV : Hid (pkN s bs r = stepsN v r) := by show _ = _; rw [hv]; rfl
  rw [← hv] at HVB ⊢
  clear hv hb3 hcv hcv2
  go_wp2
  go_loopw [7, 8] (fun d i wr => ∃ (k : Nat) (x : Int), k ≤ r ∧ i = .int .i64 k ∧ d = .int .u64 x ∧ Hid (x = stepsN v k) ∧ Below w.heap.size w wr) (fun _ i _ => r - (intOf i).toNat)
  case atStart => exact ⟨0, v, Nat.zero_le _, rfl, rfl, rfl, B4⟩
  case round =>
    obtain ⟨k, x, hk, rfl, rfl, HX, hbr⟩ := hrel
    by_cases hlt : k < r
    · have hx : U64 x := by rw [HX.out]; exact stepsN_bd v HVB.out k
      have HN : Hid (hashL (eightI x) = stepsN v (k + 1)) := by show _ = _; rw [stepsN, ← HX.out]; rfl
      have hlti : (k : Int) < (r : Int) := by omega
      clear HX
      go_wp2_with fail
      refine (l1Eight_any x _ hx.1 hx.2).mono ?_
      rintro e w5 ⟨ag, cg, rfl, hown, hb5⟩
      go_wp2_with fail
      refine (specHash_any _ 8 _ (eightI x) _ hown.toRow (by decide)).mono ?_
      rintro e w6 ⟨rfl, rfl⟩
      rw [HN.out]
      go_wp2
      go_roundw
      case rel => exact ⟨k + 1, _, by omega, by go_num, rfl, rfl, keepT hbr hb5⟩
      case measure => simp [intOf]; omega
    · obtain rfl : k = r := by omega
      go_wp2
      go_ret
      exact ⟨by rw [HV.out, HX.out]; rfl, hbr⟩

set_option maxRecDepth 10000 in
set_option maxHeartbeats 1000000 in
theorem clone_any (a : Option Addr) (n cap : Nat) (bs : List Int) (w : World) (h : Row w a n bs) (hnil : a = none → cap = 0) (hn : n ≤ 1048576) :
    Calls Try.prog 27 #[.slice a n cap] w fun e w' => ∃ a' cap', e = .returned (.slice a' n cap') ∧ Own w.heap.size w' a' n cap' bs ∧ Below w.heap.size w w' := by
  obtain ⟨i0, hi, hz0, hz1, hz2⟩ := info_parts Try.info5
  cases a with
  | none =>
    obtain ⟨rfl, rfl⟩ := row_none h
    obtain rfl := hnil rfl
    clear h
    have he : ∀ w : World, (binOp .eql 22 (.slice none 0 0) (.slice none 0 0)).run Try.prog w = .ok (.bool true) w := fun _ => rfl
    go_enter Try.func27, Try.ntmps27
    go_wp2
    go_ret
    exact ⟨none, 0, rfl, own_nilE _ _, Below.refl _ _⟩
  | some ad =>
    have hB1 : Below w.heap.size w (w.alloc (.cells #[] 5)) := (Below.refl _ _).alloc (Nat.le_refl _) _
    have HO : Hid (Own w.heap.size (w.alloc (.cells #[] 5)) (some ⟨w.heap.size, 0, none⟩) 0 0 []) := own_zeroE _ _ _ rfl (Nat.le_refl _)
    have HR : Hid (Row w (some ad) n bs) := h
    clear h
    have he : ∀ w : World, (binOp .eql 22 (.slice (some ad) n cap) (.slice none 0 0)).run Try.prog w = .ok (.bool false) w := fun _ => rfl
    go_enter Try.func27, Try.ntmps27
    go_wp2_with (at_builtin; refine wpList_append_row _ rfl (.tmp 5) (.tmp 6) 22 rfl w.heap.size i0 Try.underlying22 hi hz0 hz1 hz2 _ _ _ rfl HO.out.row (some ad) n cap bs rfl (HR.out.kept hB1) hnil (by omega) hB1.size ?_; intro v1 w1 hv1 hg1; obtain ⟨a1, c1, rfl, ho1⟩ := own_appended (xs := []) (ys := bs) hv1 HO.out.byte HR.out.byte; have hb1 : Below w.heap.size w w1 := below_appended hB1 hB1.size HO.out.row hg1)
    go_ret
    have ho1' : Own w.heap.size w1 a1 n c1 bs := by simpa using ho1
    exact ⟨a1, c1, by simp [Array.getD], ho1', hb1⟩

end Go.Proofs.Ytcgmcdelgfemkaa
