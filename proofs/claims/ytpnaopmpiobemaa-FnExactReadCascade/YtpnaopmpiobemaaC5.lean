import Derived.Test.YtpnaopmpiobemaaC4
namespace Go.Proofs.Ytpnaopmpiobemaa
open Go.RowKit

/-- k rows, from the first on, have x, and no more do. -/
structure Lead (bss : List (List Int)) (x : Int) (k : Nat) : Prop where
  le : k ≤ bss.length
  all : ∀ j, j < k → inRow (bss.getD j []) j x = true
  stop : k < bss.length → inRow (bss.getD k []) k x = false
theorem Lead.unique {bss : List (List Int)} {x : Int} {k l : Nat} (h : Lead bss x k) (g : Lead bss x l) : k = l := by
  rcases Nat.lt_trichotomy k l with e | e | e
  · have h1 := h.stop (Nat.lt_of_lt_of_le e g.le); rw [g.all k e] at h1; cases h1
  · exact e
  · have h1 := g.stop (Nat.lt_of_lt_of_le e h.le); rw [h.all l e] at h1; cases h1
/-- What InCascade says. -/
def InC (bss : List (List Int)) (x : Int) : Prop := RowsP bss bss.length ∧ ∃ k, Lead bss x k ∧ k % 2 = 1
theorem odd_int (k : Nat) : ((k : Int) % 2 = 1) ↔ k % 2 = 1 := by omega
theorem inC_of {bss : List (List Int)} {x : Int} {k : Nat} (ho : RowsP bss bss.length) (h : Lead bss x k) (e : k % 2 = 1) : InC bss x := ⟨ho, k, h, e⟩
theorem not_inC_of {bss : List (List Int)} {x : Int} {k : Nat} (h : Lead bss x k) (e : ¬ (k % 2 = 1)) : ¬ InC bss x := fun ⟨_, l, hl, hle⟩ => e (by rw [h.unique hl]; exact hle)

set_option maxRecDepth 10000 in
set_option maxHeartbeats 4000000 in
theorem implInCascade_any (a : Option Addr) (n c : Nat) (bss : List (List Int)) (x : Int) (w : World) (h : Rows2 w a n bss) (hn : n ≤ 9223372036854775807) (hp : ∀ k, k < n → (bss.getD k []).length ≤ 9223372036854775807) (hx : 0 ≤ x ∧ x ≤ 18446744073709551615) :
    Calls Try.prog 18 #[.agg #[.slice a n c], .int .u64 x] w (SaysG (InC bss x) w) := by
  have HL : Hid (bss.length = n) := h.len
  have HP : Hid (∀ k, k < n → (bss.getD k []).length ≤ 9223372036854775807) := hp
  obtain ⟨wb, hwb⟩ : ∃ wb, wb = w.alloc (.cells #[.slice a n c] 25) := ⟨_, rfl⟩
  have hbb : Below w.heap.size w wb := by rw [hwb]; exact (Below.refl _ _).alloc (Nat.le_refl _) _
  have hbx : wb.heap[w.heap.size]? = some (.cells #[.slice a n c] 25) := by rw [hwb]; exact heap_alloc_new w _
  have hsz : w.heap.size < wb.heap.size := (Array.getElem?_eq_some_iff.1 hbx).1
  have kb : wb.cell? ⟨w.heap.size, 0, none⟩ = some (.slice a n c) := (cell_of_row _ _ 0 _ 25 (0, 0) hbx).trans rfl
  have HWB : Hid (_ = _) := hwb
  have H0 : Hid (Rows2 w a n bss) := h
  clear hwb hbx h hp
  go_enter Try.func18, Try.ntmps18
  go_upto_region 1 with fail
  rw [← HWB.out]
  clear HWB
  go_wp2_with fail
  refine (rowsOk_any a n c bss _ (H0.out.kept hbb) hn HP.out).mono ?_
  rintro e w1 ⟨r, rfl, HR, hb1⟩
  have B1 : Below w.heap.size w w1 := keepT hbb hb1
  have k1 : w1.cell? ⟨w.heap.size, 0, none⟩ = some (.slice a n c) := (hb1.cell (p := ⟨w.heap.size, 0, none⟩) hsz).trans kb
  have hs1 := hb1.size
  cases r with
  | false =>
    have HN : Hid (¬ InC bss x) := fun hi => by
      have := HR.out.2 (by rw [← HL.out]; exact hi.1)
      cases this
    go_wp2
    go_ret
    exact saysG_f HN.out B1
  | true =>
    obtain ⟨h30, hne⟩ := HR.out.1 rfl
    have HO : Hid (RowsP bss bss.length) := by rw [HL.out]; exact ⟨h30, hne⟩
    have HNE : Hid (NoEmpty bss n) := hne
    have HK1 : Hid (_ = _) := k1
    have HB1 : Hid (_) := B1
    clear hne HR kb hbb hb1 k1 B1
    go_wp2
    go_loopw [5] (fun i wr => ∃ k : Nat, k ≤ n ∧ i = .int .i64 k ∧ Hid (∀ j : Nat, j < k → inRow (bss.getD j []) j x = true) ∧ Below w1.heap.size w1 wr) (fun i _ => n - (intOf i).toNat)
    case atStart => exact ⟨0, Nat.zero_le _, rfl, fun j hj => absurd hj (Nat.not_lt_zero _), Below.refl _ _⟩
    case round =>
      obtain ⟨k, hk, rfl, HA, hbr⟩ := hrel
      have hws := hbr.size
      have kr : wr.cell? ⟨w.heap.size, 0, none⟩ = some (.slice a n c) := (hbr.cell (p := ⟨w.heap.size, 0, none⟩) (by show w.heap.size < _; omega)).trans HK1.out
      have BR : Below w.heap.size w wr := keepT HB1.out hbr
      by_cases hlt : k < n
      · obtain ⟨b, off, rfl, hb, ak, nk, ck, hc, hrk, hnk⟩ := H0.out.get k hlt
        have hcr : wr.cell? ⟨b, off + k, none⟩ = some (.slice ak nk ck) := (BR.cell (p := ⟨b, off + k, none⟩) hb).trans hc
        have hnk' : nk ≤ 9223372036854775807 := by rw [← hrk.len]; exact HP.out k hlt
        have hnk0 : 0 < nk := by rw [← hrk.len]; exact HNE.out k hlt
        have HRK : Hid (Row wr ak nk (bss.getD k [])) := hrk.kept BR
        obtain ⟨bs, hbs⟩ : ∃ bs, bs = bss.getD k [] := ⟨_, rfl⟩
        have HBS : Hid (bs = bss.getD k []) := hbs
        rw [← hbs] at HRK
        have hki : (k : Int) ≤ 9223372036854775807 := by omega
        have hlti : (k : Int) < (n : Int) := by omega
        clear hc hrk hnk hbs
        go_wp2_with fail
        refine (has_any ak nk ck bs k x _ HRK.out hnk0 hnk' hx hki).mono ?_
        rintro e w2 ⟨rfl, hb2⟩
        have B2 : Below w1.heap.size w1 w2 := keepT hbr hb2
        have k2 : w2.cell? ⟨w.heap.size, 0, none⟩ = some (.slice (some ⟨b, off, none⟩) n c) := (hb2.cell (p := ⟨w.heap.size, 0, none⟩) (by show w.heap.size < _; omega)).trans kr
        obtain ⟨r, hr⟩ : ∃ r, r = inRow bs k x := ⟨_, rfl⟩
        have HRR : Hid (r = inRow (bss.getD k []) k x) := by rw [← HBS.out]; exact hr
        rw [← hr]
        clear hr HRK HBS
        cases r with
        | true =>
          go_wp2
          go_roundw
          case rel => exact ⟨k + 1, by omega, by go_num, fun j hj => by
            by_cases e : j < k
            · exact HA.out j e
            · obtain rfl : j = k := by omega
              exact HRR.out.symm, B2⟩
          case measure => simp [intOf]; omega
        | false =>
          have HLd : Hid (Lead bss x k) := ⟨by rw [HL.out]; omega, HA.out, fun _ => HRR.out.symm⟩
          have BB : Below w.heap.size w w2 := keepT HB1.out B2
          by_cases ho : k % 2 = 1
          · have ho' : (k : Int) % 2 = 1 := by omega
            go_wp2
            go_ret
            exact saysG_t (inC_of HO.out HLd.out ho) BB
          · have ho' : (k : Int) % 2 = 0 := by omega
            go_wp2
            go_ret
            exact saysG_f (not_inC_of HLd.out ho) BB
      · obtain rfl : k = n := by omega
        have HLd : Hid (Lead bss x k) := ⟨by rw [HL.out]; omega, HA.out, fun h => absurd h (by rw [HL.out]; exact hlt)⟩
        by_cases ho : k % 2 = 1
        · have ho' : (k : Int) % 2 = 1 := by omega
          go_wp2
          go_ret
          exact saysG_t (inC_of HO.out HLd.out ho) BR
        · have ho' : (k : Int) % 2 = 0 := by omega
          go_wp2
          go_ret
          exact saysG_f (not_inC_of HLd.out ho) BR

set_option maxRecDepth 10000 in
set_option maxHeartbeats 4000000 in
theorem specInCascade_any (a : Option Addr) (n c : Nat) (bss : List (List Int)) (x : Int) (w : World) (h : Rows2 w a n bss) (hn : n ≤ 9223372036854775807) (hp : ∀ k, k < n → (bss.getD k []).length ≤ 9223372036854775807) (hx : 0 ≤ x ∧ x ≤ 18446744073709551615) :
    Calls Try.prog 16 #[.agg #[.slice a n c], .int .u64 x] w (SaysG (InC bss x) w) := by
  have HL : Hid (bss.length = n) := h.len
  have HP : Hid (∀ k, k < n → (bss.getD k []).length ≤ 9223372036854775807) := hp
  have H0 : Hid (Rows2 w a n bss) := h
  clear h hp
  by_cases h30 : n ≤ 30
  · obtain ⟨wb, hwb⟩ : ∃ wb, wb = w.alloc (.cells #[.slice a n c] 25) := ⟨_, rfl⟩
    have hbb : Below w.heap.size w wb := by rw [hwb]; exact (Below.refl _ _).alloc (Nat.le_refl _) _
    have hbx : wb.heap[w.heap.size]? = some (.cells #[.slice a n c] 25) := by rw [hwb]; exact heap_alloc_new w _
    have hsz : w.heap.size < wb.heap.size := (Array.getElem?_eq_some_iff.1 hbx).1
    have kb : wb.cell? ⟨w.heap.size, 0, none⟩ = some (.slice a n c) := (cell_of_row _ _ 0 _ 25 (0, 0) hbx).trans rfl
    have HWB : Hid (_ = _) := hwb
    have h30' : (n : Int) ≤ 30 := by omega
    have HB1 : Hid (Below w.heap.size w wb) := hbb
    clear hwb hbx hbb
    go_enter Try.func16, Try.ntmps16
    go_upto_region 1 with fail
    rw [← HWB.out]
    clear HWB
    go_wp2
    go_loop [6] (fun i => ∃ k : Nat, k ≤ n ∧ i = .int .i64 k ∧ Hid (NoEmpty bss k)) (fun i => n - (intOf i).toNat)
    case atStart => exact ⟨0, Nat.zero_le _, rfl, fun j hj => absurd hj (Nat.not_lt_zero _)⟩
    case round =>
      obtain ⟨m, hm, rfl, HE⟩ := hrel
      by_cases hlt : m < n
      · obtain ⟨b, off, rfl, hb, ak, nk, ck, hc, hrk, hnk⟩ := H0.out.get m hlt
        have hcr : wb.cell? ⟨b, off + m, none⟩ = some (.slice ak nk ck) := (HB1.out.cell (p := ⟨b, off + m, none⟩) hb).trans hc
        have HLN : Hid ((bss.getD m []).length = nk) := hrk.len
        have hnk' : nk ≤ 9223372036854775807 := by rw [← hrk.len]; exact HP.out m hlt
        have hlti : (m : Int) < (n : Int) := by omega
        clear hc hrk hnk
        by_cases h0 : nk = 0
        · subst h0
          have HN : Hid (¬ InC bss x) := fun hi => by
            have := hi.1.2 m (by rw [HL.out]; exact hlt)
            rw [HLN.out] at this
            exact absurd this (Nat.lt_irrefl _)
          go_wp2
          go_ret
          exact saysG_f HN.out HB1.out
        · have h0' : ¬ ((nk : Int) = 0) := by omega
          go_wp2
          go_round
          case rel => exact ⟨m + 1, by omega, by go_num, fun j hj => by
            by_cases e : j < m
            · exact HE.out j e
            · obtain rfl : j = m := by omega
              rw [HLN.out]; omega⟩
          case measure => simp [intOf]; omega
      · obtain rfl : m = n := by omega
        have HO : Hid (RowsP bss bss.length) := by rw [HL.out]; exact ⟨h30, HE.out⟩
        go_wp2
        go_loopw [5] (fun i wr => ∃ k : Nat, k ≤ m ∧ i = .int .i64 k ∧ Hid (∀ j : Nat, j < k → inRow (bss.getD j []) j x = true) ∧ Below wb.heap.size wb wr) (fun i _ => m - (intOf i).toNat)
        case atStart => exact ⟨0, Nat.zero_le _, rfl, fun j hj => absurd hj (Nat.not_lt_zero _), Below.refl _ _⟩
        case round =>
          obtain ⟨k, hk, rfl, HA, hbr⟩ := hrel
          have hws := hbr.size
          have kr : wr.cell? ⟨w.heap.size, 0, none⟩ = some (.slice a m c) := (hbr.cell (p := ⟨w.heap.size, 0, none⟩) hsz).trans kb
          have BR : Below w.heap.size w wr := keepT HB1.out hbr
          by_cases hlk : k < m
          · obtain ⟨b, off, rfl, hb, ak, nk, ck, hc, hrk, hnk⟩ := H0.out.get k hlk
            have hcr : wr.cell? ⟨b, off + k, none⟩ = some (.slice ak nk ck) := (BR.cell (p := ⟨b, off + k, none⟩) hb).trans hc
            have hnk' : nk ≤ 9223372036854775807 := by rw [← hrk.len]; exact HP.out k hlk
            have hnk0 : 0 < nk := by rw [← hrk.len]; exact HE.out k hlk
            have HRK : Hid (Row wr ak nk (bss.getD k [])) := hrk.kept BR
            obtain ⟨bs, hbs⟩ : ∃ bs, bs = bss.getD k [] := ⟨_, rfl⟩
            have HBS : Hid (bs = bss.getD k []) := hbs
            rw [← hbs] at HRK
            have hki : (k : Int) ≤ 9223372036854775807 := by omega
            have hlti : (k : Int) < (m : Int) := by omega
            clear hc hrk hnk hbs
            go_wp2_with fail
            refine (l11In_any ak nk ck bs k x _ HRK.out hnk0 hnk' hx hki).mono ?_
            rintro e w2 ⟨rfl, hb2⟩
            have B2 : Below wb.heap.size wb w2 := keepT hbr hb2
            have k2 : w2.cell? ⟨w.heap.size, 0, none⟩ = some (.slice (some ⟨b, off, none⟩) m c) := (hb2.cell (p := ⟨w.heap.size, 0, none⟩) (by show w.heap.size < _; omega)).trans kr
            obtain ⟨r, hr⟩ : ∃ r, r = inRow bs k x := ⟨_, rfl⟩
            have HRR : Hid (r = inRow (bss.getD k []) k x) := by rw [← HBS.out]; exact hr
            rw [← hr]
            clear hr HRK HBS
            cases r with
            | true =>
              go_wp2
              go_roundw
              case rel => exact ⟨k + 1, by omega, by go_num, fun j hj => by
                by_cases e : j < k
                · exact HA.out j e
                · obtain rfl : j = k := by omega
                  exact HRR.out.symm, B2⟩
              case measure => simp [intOf]; omega
            | false =>
              have HLd : Hid (Lead bss x k) := ⟨by rw [HL.out]; omega, HA.out, fun _ => HRR.out.symm⟩
              have BB : Below w.heap.size w w2 := keepT HB1.out B2
              by_cases ho : k % 2 = 1
              · have ho' : (k : Int) % 2 = 1 := by omega
                go_wp2
                go_ret
                exact saysG_t (inC_of HO.out HLd.out ho) BB
              · have ho' : (k : Int) % 2 = 0 := by omega
                go_wp2
                go_ret
                exact saysG_f (not_inC_of HLd.out ho) BB
          · obtain rfl : k = m := by omega
            have HLd : Hid (Lead bss x k) := ⟨by rw [HL.out]; omega, HA.out, fun h => absurd h (by rw [HL.out]; exact hlk)⟩
            by_cases ho : k % 2 = 1
            · have ho' : (k : Int) % 2 = 1 := by omega
              go_wp2
              go_ret
              exact saysG_t (inC_of HO.out HLd.out ho) BR
            · have ho' : (k : Int) % 2 = 0 := by omega
              go_wp2
              go_ret
              exact saysG_f (not_inC_of HLd.out ho) BR
  · have h30' : (30 : Int) < (n : Int) := by omega
    have HN : Hid (¬ InC bss x) := fun hi => absurd hi.1.1 (by rw [HL.out]; exact h30)
    go_enter Try.func16, Try.ntmps16
    go_wp2
    go_ret
    exact saysG_f HN.out ((Below.refl _ _).alloc (Nat.le_refl _) _)

end Go.Proofs.Ytpnaopmpiobemaa
