import Derived.Test.YtcgmcdelgfemkaaEM8
import Derived.Test.YtcgmcdelgfemkaaEM3
namespace Go.Proofs.Ytcgmcdelgfemkaa
open Go.RowKit

structure EnvV where
  eph : Int
  ws : List (Int × Int)
  bs : List Int
  tg : Int
  ok : Bool
def evv (eph : Int) (wa : Option Addr) (wn wc : Nat) (ba : Option Addr) (bn bc : Nat) (tg : Int) : Value := .agg #[.int .i64 eph, .slice wa wn wc, .slice ba bn bc, .int .u64 tg]
def sealP (n : Nat) (ps : List (Int × Int × Int)) (eph : Int) : Prop := n ≤ 4000 ∧ (1 ≤ ps.length ∧ ps.length ≤ 20) ∧ AllG ps ps.length ∧ secP eph
def sealT (bs : List Int) (ps : List (Int × Int × Int)) (eph : Int) : EnvV := ⟨gp 4 eph, ps.map (wrapP (ctN eph bs) eph), maskL (ctN eph bs) bs, tagN (ctN eph bs) (maskL (ctN eph bs) bs), true⟩
open Classical in
noncomputable def sealR (bs : List Int) (ps : List (Int × Int × Int)) (eph : Int) : EnvV := if sealP bs.length ps eph then sealT bs ps eph else ⟨0, [], [], 0, false⟩
theorem maskL_lenE (k : Int) (bs : List Int) : (maskL k bs).length = bs.length := by
  unfold maskL xorL
  split
  · rfl
  · exact xorTo_len _ _ _
theorem sealR_len (bs : List Int) (ps : List (Int × Int × Int)) (eph : Int) : (sealR bs ps eph).ws.length ≤ 20 ∧ (sealR bs ps eph).bs.length ≤ 4000 := by
  unfold sealR
  split
  · rename_i h
    obtain ⟨h1, h2, _⟩ := h
    exact ⟨by show (ps.map _).length ≤ 20; rw [List.length_map]; exact h2.2, by show (maskL _ bs).length ≤ 4000; rw [maskL_lenE]; exact h1⟩
  · exact ⟨by simp, by simp⟩
structure EvW (B E : Nat) (w : World) (wa : Option Addr) (wn wc : Nat) (ws : List (Int × Int)) (ba : Option Addr) (bn bc : Nat) (bs : List Int) : Prop where
  wr : RowWr w wa wn ws
  br : Row w ba bn bs
  wo : 0 < wn → OwnWr B w wa wn wc ws
  bo : 0 < bn → Own B w ba bn bc bs
  sep : ∃ M, B ≤ M ∧ M ≤ E ∧ (In wa wn B M ∧ In ba bn M E ∨ In ba bn B M ∧ In wa wn M E)
theorem EvW.kept {B E : Nat} {w w' : World} {wa : Option Addr} {wn wc : Nat} {ws : List (Int × Int)} {ba : Option Addr} {bn bc : Nat} {bs : List Int} (h : EvW B E w wa wn wc ws ba bn bc bs) (hb : Below w.heap.size w w') : EvW B E w' wa wn wc ws ba bn bc bs :=
  ⟨h.wr.kept hb, h.br.kept hb, fun hp => (h.wo hp).kept hb, fun hp => (h.bo hp).kept hb, h.sep⟩
theorem EvW.in_ {B E : Nat} {w : World} {wa : Option Addr} {wn wc : Nat} {ws : List (Int × Int)} {ba : Option Addr} {bn bc : Nat} {bs : List Int} (h : EvW B E w wa wn wc ws ba bn bc bs) : In wa wn B E ∧ In ba bn B E := by
  obtain ⟨M, h1, h2, h3⟩ := h.sep
  rcases h3 with ⟨h3, h4⟩ | ⟨h3, h4⟩
  · exact ⟨h3.mono (Nat.le_refl _) h2, h4.mono h1 (Nat.le_refl _)⟩
  · exact ⟨h4.mono h1 (Nat.le_refl _), h3.mono (Nat.le_refl _) h2⟩
theorem EvW.touch {B E lo hi : Nat} {w w' : World} {wa : Option Addr} {wn wc : Nat} {ws : List (Int × Int)} {ba : Option Addr} {bn bc : Nat} {bs : List Int} (h : EvW B E w wa wn wc ws ba bn bc bs) (ht : Touch lo hi w w') (hd : E ≤ lo ∨ hi ≤ B) : EvW B E w' wa wn wc ws ba bn bc bs :=
  ⟨h.wr.touch h.in_.1 hd ht, h.br.touch h.in_.2 hd ht, fun hp => (h.wo hp).touch h.in_.1 hd ht hp, fun hp => (h.bo hp).touch h.in_.2 hd ht hp, h.sep⟩
theorem EvW.zero (B E : Nat) (w : World) (h : B ≤ E) : EvW B E w none 0 0 [] none 0 0 [] :=
  ⟨⟨rfl, fun k hk => absurd hk (Nat.not_lt_zero _), UWr.nil⟩, ⟨rfl, fun k hk => absurd hk (Nat.not_lt_zero _), by simp⟩, fun hp => absurd hp (Nat.lt_irrefl _), fun hp => absurd hp (Nat.lt_irrefl _), B, Nat.le_refl _, h, .inl ⟨(fun _ _ h => by cases h), (fun _ _ h => by cases h)⟩⟩
/-- An envelope in a block. -/
def BlkV (w : World) (g : Nat) (c0 c1 c2 c3 : Value) : Prop := w.heap[g]? = some (.cells #[c0, c1, c2, c3] 44)
theorem BlkV.cells {w : World} {g : Nat} {c0 c1 c2 c3 : Value} (h : BlkV w g c0 c1 c2 c3) : (w.cell? ⟨g, 0, none⟩ = some c0 ∧ w.cell? ⟨g, 1, none⟩ = some c1 ∧ w.cell? ⟨g, 2, none⟩ = some c2 ∧ w.cell? ⟨g, 3, none⟩ = some c3) ∧ w.frozen? ⟨g, 0, none⟩ = false ∧ w.frozen? ⟨g, 1, none⟩ = false ∧ w.frozen? ⟨g, 2, none⟩ = false ∧ w.frozen? ⟨g, 3, none⟩ = false :=
  ⟨⟨(cell_of_row _ _ 0 _ 44 (0, 0) h).trans rfl, (cell_of_row _ _ 1 _ 44 (0, 0) h).trans rfl, (cell_of_row _ _ 2 _ 44 (0, 0) h).trans rfl, (cell_of_row _ _ 3 _ 44 (0, 0) h).trans rfl⟩, frozen_of_row w _ 0 _ 44 h, frozen_of_row w _ 1 _ 44 h, frozen_of_row w _ 2 _ 44 h, frozen_of_row w _ 3 _ 44 h⟩
theorem BlkV.lt {w : World} {g : Nat} {c0 c1 c2 c3 : Value} (h : BlkV w g c0 c1 c2 c3) : g < w.heap.size := (Array.getElem?_eq_some_iff.1 h).1
theorem BlkV.kept {w w' : World} {g : Nat} {c0 c1 c2 c3 : Value} (h : BlkV w g c0 c1 c2 c3) (hb : Below w.heap.size w w') : BlkV w' g c0 c1 c2 c3 := (hb.block _ h.lt).trans h
theorem BlkV.touch {lo hi : Nat} {w w' : World} {g : Nat} {c0 c1 c2 c3 : Value} (h : BlkV w g c0 c1 c2 c3) (ht : Touch lo hi w w') (hg : g < lo ∨ hi ≤ g) : BlkV w' g c0 c1 c2 c3 := (ht.block _ h.lt hg).trans h
theorem results_ev {fn : Func} {t u : Tmp} (h : fn.results = #[.cell t 44, .tmp u]) (tmps : Array Value) (g : Nat) (ht : tmps.getD t undef = .pointer (some ⟨g, 0, none⟩)) (v : Value) (hv : tmps.getD u undef = v) (w : World) (c0 c1 c2 c3 : Value)
    (hb : w.heap[g]? = some (.cells #[c0, c1, c2, c3] 44 (0, 0))) : (results fn tmps).run Try.prog w = .ok (.tuple #[.agg #[c0, c1, c2, c3], v]) w := by
  have d0 : w.cell? ⟨g, 0, none⟩ = some c0 := (cell_of_row _ g 0 _ 44 (0, 0) hb).trans rfl
  have d1 : w.cell? ⟨g, 1, none⟩ = some c1 := (cell_of_row _ g 1 _ 44 (0, 0) hb).trans rfl
  have d2 : w.cell? ⟨g, 2, none⟩ = some c2 := (cell_of_row _ g 2 _ 44 (0, 0) hb).trans rfl
  have d3 : w.cell? ⟨g, 3, none⟩ = some c3 := (cell_of_row _ g 3 _ 44 (0, 0) hb).trans rfl
  clear hb
  have ht' : tmps[t]?.getD undef = .pointer (some ⟨g, 0, none⟩) := by rw [← ht]; simp
  have hv' : tmps[u]?.getD undef = v := by rw [← hv]; simp
  simp [results, h, go_sem, ht', hv', d0, d1, d2, d3]
theorem set4_other (w : World) (g l : Nat) (v0 v1 v2 v3 : Value) (h : l ≠ g) : ((((w.setCell ⟨g, 0, none⟩ v0).setCell ⟨g, 1, none⟩ v1).setCell ⟨g, 2, none⟩ v2).setCell ⟨g, 3, none⟩ v3).heap[l]? = w.heap[l]? :=
  (Below.heap_setCell _ _ _ _ h).trans ((Below.heap_setCell _ _ _ _ h).trans ((Below.heap_setCell _ _ _ _ h).trans (Below.heap_setCell _ _ _ _ h)))
theorem touch4 (w : World) (g : Nat) (v0 v1 v2 v3 : Value) : Touch g (g + 1) w ((((w.setCell ⟨g, 0, none⟩ v0).setCell ⟨g, 1, none⟩ v1).setCell ⟨g, 2, none⟩ v2).setCell ⟨g, 3, none⟩ v3) :=
  ⟨rfl, rfl, rfl, by simp, fun k _ hk => set4_other w g k _ _ _ _ (by omega)⟩
theorem sizeV (w : World) (g : Nat) (v0 v1 v2 v3 : Value) : ((((w.setCell ⟨g, 0, none⟩ v0).setCell ⟨g, 1, none⟩ v1).setCell ⟨g, 2, none⟩ v2).setCell ⟨g, 3, none⟩ v3).heap.size = w.heap.size := by simp
theorem belowV {B : Nat} {w w' : World} (h : Below B w w') (g : Nat) (hg : B ≤ g) (v0 v1 v2 v3 : Value) : Below B w ((((w'.setCell ⟨g, 0, none⟩ v0).setCell ⟨g, 1, none⟩ v1).setCell ⟨g, 2, none⟩ v2).setCell ⟨g, 3, none⟩ v3) :=
  (((h.setCell hg v0).setCell hg v1).setCell hg v2).setCell hg v3
def SmA (t : EnvV) (w : World) (e : Ending) (w' : World) : Prop :=
  ∃ wa wn wc ba bn bc, e = .returned (.tuple #[evv t.eph wa wn wc ba bn bc t.tg, .bool t.ok]) ∧ EvW w.heap.size w'.heap.size w' wa wn wc t.ws ba bn bc t.bs ∧ (wa = none → wc = 0) ∧ (ba = none → bc = 0) ∧ Below w.heap.size w w'
theorem secP_key {x : Int} (h : secP x) : keyOf x = gp 4 x := by unfold keyOf; rw [if_pos h]

set_option maxRecDepth 10000 in
set_option maxHeartbeats 8000000 in
theorem implSealMsg_any (a : Option Addr) (n c : Nat) (bs : List Int) (b : Option Addr) (m d : Nat) (ps : List (Int × Int × Int)) (eph : Int) (w : World) (h1 : Row w a n bs) (hc1 : a = none → c = 0) (hn : n ≤ 9223372036854775807) (h2 : RowPu w b m ps) (hm : m ≤ 9223372036854775807) (hi64 : ∀ j, j < m → (ps.getD j (0, 0, 0)).2.2 ≤ 9223372036854775807) (hem : eph ≤ 9223372036854775807) :
    Calls Try.prog 15 #[.slice a n c, .slice b m d, .int .i64 eph] w (SmA (sealR bs ps eph) w) := by
  have H1 : Hid (Row w a n bs) := h1
  have H2 : Hid (RowPu w b m ps) := h2
  have L1 : Hid (bs.length = n) := h1.len
  have L2 : Hid (ps.length = m) := h2.len
  have HM : Hid (∀ j, j < m → (ps.getD j (0, 0, 0)).2.2 ≤ 9223372036854775807) := hi64
  clear h1 h2 hi64
  obtain ⟨wb, hwb⟩ : ∃ wb, wb = (w.alloc (.cells #[.int .i64 eph] 2)).alloc (.cells #[.int .i64 0, .slice none 0 0, .slice none 0 0, .int .u64 0] 44) := ⟨_, rfl⟩
  have B0 : Below w.heap.size w wb := by rw [hwb]; exact two_below _ _ _
  have hx := two_blocks w (.cells #[.int .i64 eph] 2) (.cells #[.int .i64 0, .slice none 0 0, .slice none 0 0, .int .u64 0] 44)
  rw [← hwb] at hx
  obtain ⟨hx0, hx1⟩ := hx
  have HE0 : Hid (wb.heap[w.heap.size]? = some (.cells #[.int .i64 eph] 2)) := hx0
  have HZ : Hid (BlkV wb (w.heap.size + 1) (.int .i64 0) (.slice none 0 0) (.slice none 0 0) (.int .u64 0)) := hx1
  have hl0 : w.heap.size < wb.heap.size := (Array.getElem?_eq_some_iff.1 hx0).1
  have hl1 : w.heap.size + 1 < wb.heap.size := HZ.out.lt
  have HEC : ∀ W, Below wb.heap.size wb W → W.cell? ⟨w.heap.size, 0, none⟩ = some (.int .i64 eph) := fun W hW => (cell_of_row _ _ 0 _ 2 (0, 0) ((hW.block _ hl0).trans HE0.out)).trans rfl
  have HW : Hid (_ = _) := hwb
  clear hwb hx0 hx1
  by_cases h0 : n ≤ 4000
  · have z0 : ¬ (4000 : Int) < (n : Int) := by omega
    by_cases h3 : 1 ≤ (m : Int) ∧ (m : Int) ≤ 20
    · have H3 : Hid (1 ≤ (m : Int) ∧ (m : Int) ≤ 20) := h3
      have hm20 : m ≤ 20 := by omega
      have hm1 : 1 ≤ m := by omega
      clear h3
      obtain ⟨⟨u0, u1, u2, u3⟩, v0, v1, v2, v3⟩ := HZ.out.cells
      go_enter Try.func15, Try.ntmps15
      go_upto_region 1 with fail
      rw [← HW.out]
      clear HW
      go_wp2_with fail
      refine (inBounds_t (m : Int) 1 20 _ H3.out).mono ?_
      rintro e w1 ⟨rfl, hw⟩
      have hw2 := hw.symm
      subst hw2
      go_wp2_with fail
      refine (everyGroup_any b m d ps _ (H2.out.kept B0) hm).mono ?_
      rintro e w1 ⟨r, rfl, HR, hb1⟩
      have B1 := keepT B0 hb1
      have HZ1 : Hid (BlkV w1 (w.heap.size + 1) (.int .i64 0) (.slice none 0 0) (.slice none 0 0) (.int .u64 0)) := HZ.out.kept hb1
      clear u0 u1 u2 u3 v0 v1 v2 v3
      obtain ⟨⟨u0, u1, u2, u3⟩, v0, v1, v2, v3⟩ := HZ1.out.cells
      cases r with
      | false =>
        have HP : Hid (¬ (n ≤ 4000 ∧ (1 ≤ ps.length ∧ ps.length ≤ 20) ∧ AllG ps ps.length ∧ secP eph)) := fun h => by
          have := HR.out.2 (by rw [← L2.out]; exact h.2.2.1)
          cases this
        have HV : Hid (sealR bs ps eph = ⟨0, [], [], 0, false⟩) := by show _ = _; unfold sealR; rw [if_neg (fun h => HP.out (by rw [← L1.out]; exact h))]
        go_wp2
        try simp only [Exit.inBlock, Exit.then]
        refine bodyPost_ret (results_ev rfl _ (w.heap.size + 1) rfl _ rfl _ _ _ _ _ (heap_set4 HZ1.out _ _ _ _)) rfl ?_
        rw [HV.out]
        exact ⟨none, 0, 0, none, 0, 0, rfl, EvW.zero _ _ _ (by rw [sizeV]; exact B1.size), (fun _ => rfl), (fun _ => rfl), belowV B1 _ (by omega) _ _ _ _⟩
      | true =>
        have HG : Hid (AllG ps m) := HR.out.1 rfl
        have c1 := HEC _ hb1
        clear HR
        go_wp2_with fail
        refine (isSecret_any eph _).mono ?_
        rintro e w2 ⟨rfl, hw⟩
        have hw2 := hw.symm
        subst hw2
        by_cases hs : secP eph
        · rw [decide_eq_true hs]
          have HS : Hid (secP eph) := hs
          have HV : Hid (sealR bs ps eph = sealT bs ps eph) := by show _ = _; unfold sealR; rw [if_pos (show sealP bs.length ps eph from ⟨by rw [L1.out]; exact h0, by rw [L2.out]; exact ⟨hm1, hm20⟩, by rw [L2.out]; exact HG.out, hs⟩)]
          have heb : 1 ≤ eph ∧ eph ≤ 500000002 := hs
          clear hs
          obtain ⟨he0, he1⟩ := heb
          have HT : Hid (total [ctX, putI eph, bs] ≤ 2097152) := by
            show _ ≤ _
            have h1 := putI_len eph hem
            have h2 := L1.out
            refine tri_total _ _ _ ?_
            simp only [ctX, List.length_cons, List.length_nil]; omega
          have hcv := Lib.run_convert_bytes_const (P := Try.prog) w1 22 5 #[.int .u8 99, .int .u8 111, .int .u8 110, .int .u8 116, .int .u8 101, .int .u8 110, .int .u8 116] 7 7 Try.underlying22 Try.underlying5
          have hrw : Row (w1.alloc (.cells #[.int .u8 99, .int .u8 111, .int .u8 110, .int .u8 116, .int .u8 101, .int .u8 110, .int .u8 116] 5 (7, 8))) (some ⟨w1.heap.size, 0, none⟩) 7 ctX := row_word w1 ctX (7, 8) ctX_byte
          have hb0 : Below w1.heap.size w1 (w1.alloc (.cells #[.int .u8 99, .int .u8 111, .int .u8 110, .int .u8 116, .int .u8 101, .int .u8 110, .int .u8 116] 5 (7, 8))) := (Below.refl _ _).alloc (Nat.le_refl _) _
          have c1' : (w1.alloc (.cells #[.int .u8 99, .int .u8 111, .int .u8 110, .int .u8 116, .int .u8 101, .int .u8 110, .int .u8 116] 5 (7, 8))).cell? ⟨w.heap.size, 0, none⟩ = some (.int .i64 eph) := HEC _ (keepT hb1 hb0)
          go_wp2_with fail
          clear hcv
          obtain ⟨w0, hw0⟩ : ∃ w0, w0 = w1.alloc (.cells #[.int .u8 99, .int .u8 111, .int .u8 110, .int .u8 116, .int .u8 101, .int .u8 110, .int .u8 116] 5 (7, 8)) := ⟨_, rfl⟩
          rw [← hw0] at hrw hb0 ⊢
          clear hw0
          refine (implPutNum_any eph _ hem).mono ?_
          rintro e w3 ⟨a3, c3, rfl, ho3, hb3⟩
          obtain ⟨m3, hm3⟩ : ∃ m3, m3 = (putI eph).length := ⟨_, rfl⟩
          rw [← hm3] at ho3 ⊢
          clear hm3
          have K3 : Below wb.heap.size wb w3 := keepT (keepT hb1 hb0) hb3
          have HRS : Hid (Rows2 (w3.alloc (.cells #[.slice (some ⟨w1.heap.size, 0, none⟩) 7 7, .slice a3 m3 c3, .slice a n c] 22)) (some ⟨w3.heap.size, 0, none⟩) 3 [ctX, putI eph, bs]) :=
            tri_rows w3 22 _ _ _ _ _ _ _ _ _ _ _ _ (hrw.kept hb3) (fun h => by cases h) ho3.toRow ho3.nil (H1.out.kept (keepT B0 K3)) hc1
          have K3' : Below wb.heap.size wb (w3.alloc (.cells #[.slice (some ⟨w1.heap.size, 0, none⟩) 7 7, .slice a3 m3 c3, .slice a n c] 22)) := K3.alloc K3.size _
          clear ho3 hrw
          go_wp2_with fail
          refine (implHashParts_any _ 3 3 [ctX, putI eph, bs] _ HRS.out (by decide) HT.out).mono ?_
          rintro e w4 ⟨rfl, hb4⟩
          have K4 := keepT K3' hb4
          obtain ⟨k, hk⟩ : ∃ k, k = hashL (partsL [ctX, putI eph, bs]) := ⟨_, rfl⟩
          have hkb : U64 k := by rw [hk]; exact hashL_bd _
          have HK : Hid (ctN eph bs = k) := by show _ = _; rw [hk]; rfl
          rw [← hk]
          clear hk u0 u1 u2 u3 v0 v1 v2 v3
          obtain ⟨w5, hw5⟩ : ∃ w5, w5 = w4.alloc (.cells #[.int .u64 k] 26) := ⟨_, rfl⟩
          have hb5 : Below w4.heap.size w4 w5 := by rw [hw5]; exact (Below.refl _ _).alloc (Nat.le_refl _) _
          have HKB : Hid (w5.heap[w4.heap.size]? = some (.cells #[.int .u64 k] 26)) := by rw [hw5]; exact heap_alloc_new w4 _
          have HW5 : Hid (_ = _) := hw5
          clear hw5
          have hl5 : w4.heap.size < w5.heap.size := (Array.getElem?_eq_some_iff.1 HKB.out).1
          have HKC : ∀ W, Below w5.heap.size w5 W → W.cell? ⟨w4.heap.size, 0, none⟩ = some (.int .u64 k) := fun W hW => (cell_of_row _ _ 0 _ 26 (0, 0) ((hW.block _ hl5).trans HKB.out)).trans rfl
          have K5 := keepT K4 hb5
          go_upto_region 4 with fail
          rw [← HW5.out]
          clear HW5
          go_wp2_with fail
          refine (eachWrap_any b m d ps w4.heap.size w.heap.size k eph _ (H2.out.kept (keepT B0 K5)) hm20 HG.out HM.out HS.out hl5 (Nat.lt_of_lt_of_le hl0 K5.size) (HKC _ (Below.refl _ _)) (HEC _ K5)).mono ?_
          rintro e w6 ⟨a6, c6, rfl, ho6, hb6⟩
          have K6 := keepT K5 hb6
          have k6 := HKC _ hb6
          go_wp2_with fail
          refine (masked_any k a n c bs _ hkb (H1.out.kept (keepT B0 K6)) (by omega) hc1).mono ?_
          rintro e w7 ⟨a7, c7, rfl, ho7, hb7⟩
          have K7 := keepT K6 hb7
          have hb67 := keepT hb6 hb7
          clear k6
          have hd7 : Below w7.heap.size w7 w7.drew := (Below.refl _ _).drew
          have k7 := HKC _ hb67
          have k7d := HKC _ (keepT hb67 hd7)
          have e7 := HEC _ K7
          have e7d := HEC _ (keepT K7 hd7)
          have HO7 : Hid (Own w6.heap.size w7 a7 n c7 (maskL k bs)) := ho7
          have HO6 : Hid (OwnWr w5.heap.size w7 a6 m c6 (ps.map (wrapP k eph))) := ho6.kept hb7
          have HI6 : Hid (In a6 m w5.heap.size w6.heap.size) := ho6.in_
          have HI7 : Hid (In a7 n w6.heap.size w7.heap.size) := ho7.in_
          have s5 := K5.size
          have s6 := hb6.size
          have s7 := hb7.size
          obtain ⟨ky, hky⟩ : ∃ ky, ky = keyOf eph := ⟨_, rfl⟩
          have HKY : Hid (keyOf eph = ky) := hky.symm
          obtain ⟨tg, htg⟩ : ∃ tg, tg = tagN k (maskL k bs) := ⟨_, rfl⟩
          have HTG : Hid (tagN k (maskL k bs) = tg) := htg.symm
          have HVV : Hid (sealR bs ps eph = ⟨ky, ps.map (wrapP k eph), maskL k bs, tg, true⟩) := by show _ = _; rw [HV.out]; unfold sealT; rw [HK.out, HTG.out, ← HKY.out, secP_key HS.out]
          have HTA := fun W (hW : Below w7.heap.size w7 W) => sealTag_any k a7 n c7 (maskL k bs) W hkb (HO7.out.toRow.kept hW) (by omega) ho7.nil
          rw [HTG.out] at HTA
          have HKO := fun W => implKeyOf_any eph W
          rw [HKY.out] at HKO
          clear hky htg ho6 ho7 hb6 hb7 HV
          go_upto_region 6 with fail
          go_region_law
            (first
              | (go_simp; go_at_call 48; refine (HKO _).mono ?_; rintro e wp ⟨rfl, hw⟩; have hw2 := hw.symm; subst hw2)
              | (go_simp; go_at_call 28; refine (HTA _ hd7).mono ?_; rintro e w8 ⟨rfl, hb8⟩; have K78 := keepT hd7 hb8; have k8 := HKC _ (keepT hb67 K78); have e8 := HEC _ (keepT K7 K78); have Z8 : BlkV w8 (w.heap.size + 1) (.int .i64 0) (.slice none 0 0) (.slice none 0 0) (.int .u64 0) := HZ.out.kept (keepT K7 K78); have C8 := Z8.cells; obtain ⟨⟨u0, u1, u2, u3⟩, v0, v1, v2, v3⟩ := C8))
          all_goals
            clear k7 k7d e7 e7d k8 e8 u0 u1 u2 u3 v0 v1 v2 v3
            have s8 := K78.size
            go_wp2
            try simp only [Exit.inBlock, Exit.then]
            refine bodyPost_ret (results_ev rfl _ (w.heap.size + 1) rfl _ rfl _ _ _ _ _ (heap_set4 Z8 _ _ _ _)) rfl ?_
            rw [HVV.out]
            have T := touch4 w8 (w.heap.size + 1) (.int .i64 ky) (.slice a6 m c6) (.slice a7 n c7) (.int .u64 tg)
            have R6 := (HO6.out.kept K78).toRow.touch HI6.out (.inr (by omega)) T
            have R7 := (HO7.out.kept K78).toRow.touch HI7.out (.inr (by omega)) T
            exact ⟨a6, m, c6, a7, n, c7, rfl, ⟨R6, R7, fun hp => ((HO6.out.kept K78).touch HI6.out (.inr (by omega)) T hp).mono (by omega), fun hp => ((HO7.out.kept K78).touch HI7.out (.inr (by omega)) T hp).mono (by omega), w6.heap.size, by omega, by rw [sizeV]; omega, .inl ⟨HI6.out.mono (by omega) (Nat.le_refl _), HI7.out.mono (Nat.le_refl _) (by rw [sizeV]; omega)⟩⟩, HO6.out.nil, HO7.out.nil, belowV (keepT B0 (keepT K7 K78)) _ (by omega) _ _ _ _⟩
        · rw [decide_eq_false hs]
          have HP : Hid (¬ sealP bs.length ps eph) := fun h => hs h.2.2.2
          have HV : Hid (sealR bs ps eph = ⟨0, [], [], 0, false⟩) := by show _ = _; unfold sealR; rw [if_neg HP.out]
          clear hs
          go_wp2
          try simp only [Exit.inBlock, Exit.then]
          refine bodyPost_ret (results_ev rfl _ (w.heap.size + 1) rfl _ rfl _ _ _ _ _ (heap_set4 HZ1.out _ _ _ _)) rfl ?_
          rw [HV.out]
          exact ⟨none, 0, 0, none, 0, 0, rfl, EvW.zero _ _ _ (by rw [sizeV]; exact B1.size), (fun _ => rfl), (fun _ => rfl), belowV B1 _ (by omega) _ _ _ _⟩
    · have H3 : Hid (¬ (1 ≤ (m : Int) ∧ (m : Int) ≤ 20)) := h3
      have HP : Hid (¬ sealP bs.length ps eph) := fun h => h3 (by have := h.2.1; rw [L2.out] at this; omega)
      have HV : Hid (sealR bs ps eph = ⟨0, [], [], 0, false⟩) := by show _ = _; unfold sealR; rw [if_neg HP.out]
      clear h3
      obtain ⟨⟨u0, u1, u2, u3⟩, v0, v1, v2, v3⟩ := HZ.out.cells
      go_enter Try.func15, Try.ntmps15
      go_upto_region 1 with fail
      rw [← HW.out]
      clear HW
      go_wp2_with fail
      refine (inBounds_f (m : Int) 1 20 _ H3.out).mono ?_
      rintro e w1 ⟨rfl, hw⟩
      have hw2 := hw.symm
      subst hw2
      go_wp2
      try simp only [Exit.inBlock, Exit.then]
      refine bodyPost_ret (results_ev rfl _ (w.heap.size + 1) rfl _ rfl _ _ _ _ _ (heap_set4 HZ.out _ _ _ _)) rfl ?_
      rw [HV.out]
      exact ⟨none, 0, 0, none, 0, 0, rfl, EvW.zero _ _ _ (by rw [sizeV]; exact B0.size), (fun _ => rfl), (fun _ => rfl), belowV B0 _ (by omega) _ _ _ _⟩
  · have z0 : (4000 : Int) < (n : Int) := by omega
    have HP : Hid (¬ sealP bs.length ps eph) := fun h => h0 (by rw [← L1.out]; exact h.1)
    have HV : Hid (sealR bs ps eph = ⟨0, [], [], 0, false⟩) := by show _ = _; unfold sealR; rw [if_neg HP.out]
    clear h0
    obtain ⟨⟨u0, u1, u2, u3⟩, v0, v1, v2, v3⟩ := HZ.out.cells
    go_enter Try.func15, Try.ntmps15
    go_upto_region 1 with fail
    rw [← HW.out]
    clear HW
    go_wp2
    try simp only [Exit.inBlock, Exit.then]
    refine bodyPost_ret (results_ev rfl _ (w.heap.size + 1) rfl _ rfl _ _ _ _ _ (heap_set4 HZ.out _ _ _ _)) rfl ?_
    rw [HV.out]
    exact ⟨none, 0, 0, none, 0, 0, rfl, EvW.zero _ _ _ (by rw [sizeV]; exact B0.size), (fun _ => rfl), (fun _ => rfl), belowV B0 _ (by omega) _ _ _ _⟩

end Go.Proofs.Ytcgmcdelgfemkaa
