import Derived.Test.YtglmaoigjnoklaaF5
import Derived.Deep.RegionHeld3
namespace Go.Proofs.Ytglmaoigjnoklaa
open Go.RowKit

theorem seq_next (xs : List ST) (L : Nat → Sp) (ks : List Int) (s : Sp) (k p : Nat) (hk : k < ks.length) (hp : (p : Int) = ks.getD k 0) : (ks.drop k).foldl (seqStep xs L) s = (ks.drop (k + 1)).foldl (seqStep xs L) ((s.cat (flagSp (xs.getD p default).opt)).cat ⟨if (xs.getD p default).opt then 0 else (L p).f, (L p).m, (L p).k⟩) := by
  rw [List.drop_eq_getElem_cons hk, List.foldl_cons]
  have e : ks[k].toNat = p := by
    have : ks.getD k 0 = ks[k] := by simp [hk]
    rw [this] at hp
    rw [← hp, Int.toNat_natCast]
  unfold seqStep
  rw [e]

theorem cell_block_same {w w' : World} {b : Nat} (h : w'.heap[b]? = w.heap[b]?) (i : Nat) : w'.cell? ⟨b, i, none⟩ = w.cell? ⟨b, i, none⟩ := by simp [World.cell?, h]

set_option maxHeartbeats 8000000 in
theorem seqSpan_any (xs : List ST) (aL : Option Addr) (n cL : Nat) (x : ST) (a : Option Addr) (nk ck g cg : Nat) (L : Nat → Sp) (w : World) (hL : Sts w aL n xs) (hr : Row64 w a nk x.kids) (hnk : nk ≤ 12) (hg : SpRow w g n L) (hok : ∀ i, (L i).ok 1000000000000000) (hin : ∀ k, k < nk → 0 ≤ x.kids.getD k 0 ∧ x.kids.getD k 0 < n) :
    Calls Try.prog 40 #[.slice aL n cL, stv x a nk ck, .slice (some ⟨g, 0, none⟩) n cg] w fun e w' => e = .returned (spv (seqSp xs L x)) ∧ Below w.heap.size w w' := by
  have HLs : Hid (Sts w aL n xs) := hL
  have HR : Hid (Row64 w a nk x.kids) := hr
  have HL : Hid (x.kids.length = nk) := hr.len
  have HG : Hid (SpRow w g n L) := hg
  have hgl := hg.lt
  have HI : Hid (_) := hin
  have HOK : Hid (_) := hok
  obtain ⟨W0, hW0⟩ : ∃ W0, W0 = ((w.alloc (.cells #[.int .i64 x.kind, .int .i64 x.lo, .int .i64 x.hi, .bool x.ext, .bool x.opt, .slice a nk ck] 37)).alloc (.cells #[.int .i64 0, .int .i64 0, .bool false] 45)) := ⟨_, rfl⟩
  have hB0 : Below w.heap.size w W0 := by rw [hW0]; exact bA2 _ _ _
  have hS0 : W0.heap.size = w.heap.size + 1 + 1 := by rw [hW0]; simp
  have b0 := hA1 w (.cells #[.int .i64 x.kind, .int .i64 x.lo, .int .i64 x.hi, .bool x.ext, .bool x.opt, .slice a nk ck] 37) (.cells #[.int .i64 0, .int .i64 0, .bool false] 45)
  have BS : BoxS 37 w.heap.size W0 x a nk ck := ⟨by rw [hW0]; exact b0.1⟩
  have X1 : Box3 W0 (w.heap.size + 1) ⟨0, 0, false⟩ := ⟨by rw [hW0]; exact b0.2⟩
  obtain ⟨c0, c1, c2, c3, c4, c5⟩ := BS.cells
  clear b0 hr hg hin hok hL
  unfold stv
  go_enter Try.func40, Try.ntmps40
  go_upto_region 1 with fail
  rw [← hW0]
  clear hW0
  go_wp2_with fail
  refine (flagSpan_any x.ext _).mono ?_
  rintro e w1 ⟨rfl, hb1⟩
  replace BS := BS.kept hb1
  replace X1 := X1.kept hb1
  have hB1 := hB0.trans (hb1.mono hB0.size)
  have hz1 := hb1.size
  obtain ⟨s0, hs0⟩ : ∃ s0, s0 = flagSp x.ext := ⟨_, rfl⟩
  rw [← hs0]
  obtain ⟨W1, hW1⟩ : ∃ W1, W1 = w1.alloc (.cells #[.int .i64 s0.f, .int .i64 s0.m, .bool x.ext] 45) := ⟨_, rfl⟩
  have hb2 : Below w1.heap.size w1 W1 := by rw [hW1]; exact (Below.refl _ _).alloc (Nat.le_refl _) _
  have X2 : Box3 W1 w1.heap.size ⟨s0.f, s0.m, x.ext⟩ := by rw [hW1]; exact ⟨heap_alloc_new w1 _⟩
  have hsz : w.heap.size + 1 < w1.heap.size := by omega
  obtain ⟨_, _, _, e3, _, _⟩ := BS.cells
  have e3w : ∀ o, (w1.alloc o).cell? ⟨w.heap.size, 3, none⟩ = some (.bool x.ext) := fun o => (((Below.refl w1.heap.size w1).alloc (Nat.le_refl _) o).cell (p := ⟨w.heap.size, 3, none⟩) (by show w.heap.size < _; omega)).trans e3
  replace BS := BS.kept hb2
  have F0 : Hid (_ ∧ _ ∧ _) := ⟨X2, X1.kept hb2, hB1.trans (hb2.mono hB1.size)⟩
  have S0 : Hid (s0 = flagSp x.ext) := hs0
  simp only [spv]
  clear hs0 X1 X2 hB0 hB1 hb1 hb2 c0 c1 c2 c3 c4 c5 e3
  have HW1 : Hid (_ = _) := hW1
  clear hW1
  go_upto_region 3 with fail
  rw [← HW1.out]
  clear HW1 e3w
  obtain ⟨_, _, _, _, _, d5⟩ := BS.cells
  obtain ⟨gs, hgs0⟩ : ∃ gs, gs = w1.heap.size := ⟨_, rfl⟩
  rw [← hgs0] at F0 hsz ⊢
  clear hgs0 hz1 BS
  go_wp2
  go_loopw [20] (fun i wr => ∃ (k : Nat) (s : Sp), k ≤ nk ∧ i = .int .i64 k ∧ Box3 wr gs s ∧ Hid (s.ok (1 + 1000000000000001 * k)) ∧ Hid (seqSp xs L x = (x.kids.drop k).foldl (seqStep xs L) s) ∧ Box3 wr (w.heap.size + 1) ⟨0, 0, false⟩ ∧ Below w.heap.size w wr) (fun i _ => nk - (intOf i).toNat)
  case atStart => exact ⟨0, _, Nat.zero_le _, rfl, F0.out.1, (by show Sp.ok _ _; rw [S0.out]; exact flagSp_ok x.ext), (by show _ = _; rw [List.drop_zero, S0.out]; rfl), F0.out.2.1, F0.out.2.2⟩
  case round =>
    obtain ⟨k, s, hk, rfl, X, OKB, HM, X1, hbr⟩ := hrel
    by_cases hkn : k < nk
    · obtain ⟨b, off, rfl, hl2, hc2⟩ := HR.out.get k hkn
      have hcr := (hbr.cell (p := ⟨b, off + k, none⟩) hl2).trans hc2
      have hin := HI.out k hkn
      obtain ⟨r, hr⟩ : ∃ r : Nat, (r : Int) = x.kids.getD k 0 := ⟨(x.kids.getD k 0).toNat, by omega⟩
      rw [← hr] at hcr hin
      have hrn : r < n := by omega
      have HM2 : Hid (seqSp xs L x = (x.kids.drop (k + 1)).foldl (seqStep xs L) ((s.cat (flagSp (xs.getD r default).opt)).cat ⟨if (xs.getD r default).opt then 0 else (L r).f, (L r).m, (L r).k⟩)) := by
        show _ = _
        rw [HM.out]
        exact seq_next xs L x.kids s k r (by rw [HL.out]; exact hkn) hr
      obtain ⟨bl, offl, rfl, hlb, ak, nk2, ck2, hcs, _, _⟩ := HLs.out.get r hrn
      obtain ⟨_, _, _, _, c4, _⟩ := hcs.of (w' := wr) (fun i => hbr.cell (p := ⟨bl, i, none⟩) hlb)
      obtain ⟨y0, y1, y2⟩ := (HG.out.same (hbr.block g hgl)).cell r hrn
      have hqo := HOK.out r
      obtain ⟨q, hq⟩ : ∃ q, q = L r := ⟨_, rfl⟩
      rw [← hq] at HM2 y0 y1 y2 hqo
      have p1 : (r : Int) < (n : Int) := by omega
      have p2 : (k : Int) < (nk : Int) := by omega
      have p3 : (0 : Int) ≤ (r : Int) := by omega
      have OKS : Hid (s.ok 2000000000000000000) := OKB.out.mono (by omega)
      have HQO : Hid (q.ok 1000000000000000) := hqo
      obtain ⟨op, hop⟩ : ∃ op, op = (xs.getD r default).opt := ⟨_, rfl⟩
      rw [← hop] at c4 HM2
      clear hc2 hr hq hin HM hcs hqo hop
      cases op with
      | true =>
        have OKF : Hid ((⟨0, q.m, q.k⟩ : Sp).ok 2000000000000000000) := ⟨by show (0 : Int) ≤ 0; decide, by show (0 : Int) ≤ _; decide, HQO.out.2.2.1, Int.le_trans HQO.out.2.2.2 (by decide)⟩
        have HOK3 : ∀ {u t v : Sp}, u = flagSp true → t = s.cat u → v = t.cat ⟨0, q.m, q.k⟩ → Hid (v.ok (1 + 1000000000000001 * ((k + 1 : Nat) : Int))) := fun hu ht hv => by
          show Sp.ok _ _
          rw [hv, ht, hu]
          exact (cat_ok (cat_ok OKB.out (flagSp_ok true)) (o := ⟨0, q.m, q.k⟩) (C := 1000000000000000) ⟨by show (0 : Int) ≤ 0; decide, by show (0 : Int) ≤ _; decide, HQO.out.2.2.1, HQO.out.2.2.2⟩).mono (by omega)
        have HM3 : ∀ {u t v : Sp}, u = flagSp true → t = s.cat u → v = t.cat ⟨0, q.m, q.k⟩ → Hid (seqSp xs L x = (x.kids.drop (k + 1)).foldl (seqStep xs L) v) := fun hu ht hv => by
          show _ = _
          rw [HM2.out, hv, ht, hu]
          rfl
        obtain ⟨V0, hV0⟩ : ∃ V0, V0 = wr.alloc (.cells #[.int .i64 0, .int .i64 q.m, .bool q.k] 45) := ⟨_, rfl⟩
        have hbv : Below wr.heap.size wr V0 := by rw [hV0]; exact (Below.refl _ _).alloc (Nat.le_refl _) _
        have XF : Box3 V0 wr.heap.size ⟨0, q.m, q.k⟩ := by rw [hV0]; exact ⟨heap_alloc_new wr _⟩
        have FX : Hid (_ ∧ _ ∧ _ ∧ _) := ⟨X.kept hbv, X1.kept hbv, XF, hbr.trans (hbv.mono hbr.size)⟩
        have c4v : V0.cell? ⟨bl, offl + r * 6 + 4, none⟩ = some (.bool true) := (hbv.cell (p := ⟨bl, offl + r * 6 + 4, none⟩) (Nat.lt_of_lt_of_le hlb hbr.size)).trans c4
        obtain ⟨x0, x1, x2⟩ := FX.out.1.hold
        obtain ⟨v0, v1, v2⟩ := XF.hold
        have c4w : ∀ o, (wr.alloc o).cell? ⟨bl, offl + r * 6 + 4, none⟩ = some (.bool true) := fun o => (((Below.refl wr.heap.size wr).alloc (Nat.le_refl _) o).cell (p := ⟨bl, offl + r * 6 + 4, none⟩) (Nat.lt_of_lt_of_le hlb hbr.size)).trans c4
        have HV0 : Hid (V0 = wr.alloc (.cells #[.int .i64 0, .int .i64 q.m, .bool q.k] 45)) := hV0
        have hgs : gs < wr.heap.size := X.lt
        have hblgs : bl ≠ gs := by omega
        clear hV0 hbv XF X X1 c4
        go_upto_region 9 with fail
        rw [← HV0.out]
        clear HV0 c4w hcr y0 y1 y2
        have HSS : Hid (∀ w'', Box3 w'' wr.heap.size ⟨0, q.m, q.k⟩ → w''.cell? ⟨bl, offl + r * 6 + 4, none⟩ = some (.bool true) → (fun w' => w'.cell? ⟨wr.heap.size, 0, none⟩ = some (.int .i64 0) ∧ w'.cell? ⟨wr.heap.size, 1, none⟩ = some (.int .i64 q.m) ∧ w'.cell? ⟨wr.heap.size, 2, none⟩ = some (.bool q.k) ∧ w'.cell? ⟨bl, offl + r * 6 + 4, none⟩ = some (.bool true)) w'') := fun w'' X c => ⟨X.c0, X.c1, X.c2, c⟩
        have hbl : bl < V0.heap.size := Nat.lt_of_lt_of_le hlb FX.out.2.2.2.size
        have SS0 : (fun w' => w'.cell? ⟨wr.heap.size, 0, none⟩ = some (.int .i64 0) ∧ w'.cell? ⟨wr.heap.size, 1, none⟩ = some (.int .i64 q.m) ∧ w'.cell? ⟨wr.heap.size, 2, none⟩ = some (.bool q.k) ∧ w'.cell? ⟨bl, offl + r * 6 + 4, none⟩ = some (.bool true)) V0.drew := HSS.out V0 FX.out.2.2.1 c4v
        refine wp_region_held_drew (S := fun w' => w'.cell? ⟨wr.heap.size, 0, none⟩ = some (.int .i64 0) ∧ w'.cell? ⟨wr.heap.size, 1, none⟩ = some (.int .i64 q.m) ∧ w'.cell? ⟨wr.heap.size, 2, none⟩ = some (.bool q.k) ∧ w'.cell? ⟨bl, offl + r * 6 + 4, none⟩ = some (.bool true)) (by kernel_rfl) SS0 (fun hHeld => ?_)
        refine wpAnyH_take (i := 1) (oi := { dst := some 35, op := Op.move (Operand.tmp 0), type := 25, pos := "l04_packed.go:449", after := #[], guard := none }) (v := ?_) rfl (by kernel_rfl) (by kernel_rfl) (by kernel_rfl) (fun _ _ _ h => h) (Or.inl ⟨by rfl, ?_⟩) (by assumption) ?_
        rotate_left
        · intro w hSw
          (try dsimp only at hSw)
          go_simp
          try with_reducible rfl
        try simp only [Act.put, List.setIfInBounds_toArray, List.set_cons_zero, List.set_cons_succ]
        refine wpAnyH_take (i := 2) (oi := { dst := some 36, op := Op.move (Operand.tmp 9), type := 2, pos := "l04_packed.go:449", after := #[], guard := none }) (v := ?_) rfl (by kernel_rfl) (by kernel_rfl) (by kernel_rfl) (fun _ _ _ h => h) (Or.inl ⟨by rfl, ?_⟩) (by assumption) ?_
        rotate_left
        · intro w hSw
          (try dsimp only at hSw)
          go_simp
          try with_reducible rfl
        try simp only [Act.put, List.setIfInBounds_toArray, List.set_cons_zero, List.set_cons_succ]
        refine wpAnyH_take (i := 3) (oi := { dst := some 37, op := Op.indexAddr 25 (Operand.tmp 35) (Operand.tmp 36), type := 0, pos := "l04_packed.go:449", after := #[{ on := 1, ground := Ground.data }, { on := 2, ground := Ground.data }], guard := none }) (v := ?_) rfl (by kernel_rfl) (by kernel_rfl) (by kernel_rfl) (fun _ _ _ h => h) (Or.inl ⟨by rfl, ?_⟩) (by assumption) ?_
        rotate_left
        · intro w hSw
          (try dsimp only at hSw)
          go_simp
          try with_reducible rfl
        try simp only [Act.put, List.setIfInBounds_toArray, List.set_cons_zero, List.set_cons_succ]
        refine wpAnyH_take (i := 4) (oi := { dst := some 38, op := Op.fieldAddr 37 (Operand.tmp 37) 4, type := 0, pos := "l04_packed.go:449", after := #[{ on := 3, ground := Ground.data }], guard := none }) (v := ?_) rfl (by kernel_rfl) (by kernel_rfl) (by kernel_rfl) (fun _ _ _ h => h) (Or.inl ⟨by rfl, ?_⟩) (by assumption) ?_
        rotate_left
        · intro w hSw
          (try dsimp only at hSw)
          go_simp
          try with_reducible rfl
        try simp only [Act.put, List.setIfInBounds_toArray, List.set_cons_zero, List.set_cons_succ]
        refine wpAnyH_take (i := 5) (oi := { dst := some 39, op := Op.load 4 (Operand.tmp 38), type := 4, pos := "l04_packed.go:449", after := #[{ on := 4, ground := Ground.data }], guard := none }) (v := ?_) rfl (by kernel_rfl) (by kernel_rfl) (by kernel_rfl) (fun _ _ _ h => h) (Or.inl ⟨by rfl, ?_⟩) (by assumption) ?_
        rotate_left
        · intro w hSw
          (try dsimp only at hSw)
          go_simp
          try with_reducible rfl
        try simp only [Act.put, List.setIfInBounds_toArray, List.set_cons_zero, List.set_cons_succ]
        refine wpAnyH_take (i := 8) (oi := { dst := some 42, op := Op.load 45 (Operand.tmp 10), type := 45, pos := "l04_packed.go:449", after := #[], guard := none }) (v := ?_) rfl (by kernel_rfl) (by kernel_rfl) (by kernel_rfl) (fun _ _ _ h => h) (Or.inl ⟨by rfl, ?_⟩) (by assumption) ?_
        rotate_left
        · intro w hSw
          (try dsimp only at hSw)
          go_simp
          try with_reducible rfl
        try simp only [Act.put, List.setIfInBounds_toArray, List.set_cons_zero, List.set_cons_succ]
        refine wpAnyH_ready (rs := [0, 6]) (by kernel_rfl) (by simp) ?_
        refine AllReadyH.cons (o := { dst := some 34, op := Op.load 45 (Operand.tmp 7), type := 45, pos := "l04_packed.go:449", after := #[], guard := none }) rfl (fun K hK => ?_) (AllReadyH.cons (o := { dst := some 40, op := Op.call { callee := Callee.value (Operand.func 46), args := #[Operand.tmp 39], argTypes := #[4] }, type := 45, pos := "l04_packed.go:449", after := #[{ on := 5, ground := Ground.data }], guard := none }) rfl (fun K hK => ?_) AllReadyH.nil)
        · go_simp
          refine hK.out _ _ ?_ (fun hHeld2 => ?_)
          · exact SS0
          clear hK K
          try clear hHeld
          have hHeld := hHeld2
          clear hHeld2
          try simp only [Act.put, List.setIfInBounds_toArray, List.set_cons_zero, List.set_cons_succ]
          refine wpAnyH_ready (rs := [6]) (by kernel_rfl) (by simp) ?_
          refine AllReadyH.cons (o := { dst := some 40, op := Op.call { callee := Callee.value (Operand.func 46), args := #[Operand.tmp 39], argTypes := #[4] }, type := 45, pos := "l04_packed.go:449", after := #[{ on := 5, ground := Ground.data }], guard := none }) rfl (fun K hK => ?_) AllReadyH.nil
          go_simp
          (go_at_call 46; refine (flagSpan_any true _).mono ?_; rintro e w1 ⟨rfl, hb_w1⟩; obtain ⟨u, hu⟩ : ∃ zz : Sp, zz = flagSp true := ⟨_, rfl⟩; have Hu : Hid (u = flagSp true) := hu; rw [← hu]; clear hu; have E1 : Hid (_ ∧ _ ∧ _ ∧ _) := ⟨FX.out.1.kept (V0.drew_below hb_w1), FX.out.2.1.kept (V0.drew_below hb_w1), FX.out.2.2.1.kept (V0.drew_below hb_w1), FX.out.2.2.2.trans ((V0.drew_below hb_w1).mono FX.out.2.2.2.size)⟩; obtain ⟨x0b, x1b, x2b⟩ := E1.out.1.hold; obtain ⟨v0b, v1b, v2b⟩ := E1.out.2.2.1.hold; have c41 : w1.cell? ⟨bl, offl + r * 6 + 4, none⟩ = some (.bool true) := ((V0.drew_below hb_w1).cell (p := ⟨bl, offl + r * 6 + 4, none⟩) hbl).trans c4v; have hz1 := (V0.drew_below hb_w1).size; have SS1 := HSS.out w1 E1.out.2.2.1 c41; clear hb_w1; simp only [spv])
          try go_wp2_with fail
          refine hK.out _ _ ?_ (fun hHeld2 => ?_)
          · exact SS1
          clear hK K
          try clear hHeld
          have hHeld := hHeld2
          clear hHeld2
          try simp only [Act.put, List.setIfInBounds_toArray, List.set_cons_zero, List.set_cons_succ]
          refine wpAnyH_ready (rs := [7]) (by kernel_rfl) (by simp) ?_
          refine AllReadyH.cons (o := { dst := some 41, op := Op.call { callee := Callee.value (Operand.func 45), args := #[Operand.tmp 34, Operand.tmp 40], argTypes := #[45, 45] }, type := 45, pos := "l04_packed.go:449", after := #[{ on := 0, ground := Ground.data }, { on := 6, ground := Ground.data }, { on := 6, ground := Ground.chain }], guard := none }) rfl (fun K hK => ?_) AllReadyH.nil
          go_simp
          (go_at_call 45; refine (with_any s u _ (OKS.out) (by rw [Hu.out]; exact (flagSp_ok _).mono (by decide))).mono ?_; rintro e w2 ⟨rfl, hb_w2⟩; obtain ⟨t, ht⟩ : ∃ zz : Sp, zz = s.cat u := ⟨_, rfl⟩; have Ht : Hid (t = s.cat u) := ht; rw [← ht]; clear ht; have E2 : Hid (_ ∧ _ ∧ _ ∧ _) := ⟨E1.out.1.kept hb_w2, E1.out.2.1.kept hb_w2, E1.out.2.2.1.kept hb_w2, E1.out.2.2.2.trans (hb_w2.mono E1.out.2.2.2.size)⟩; obtain ⟨v0c, v1c, v2c⟩ := E2.out.2.2.1.hold; have c42 : w2.cell? ⟨bl, offl + r * 6 + 4, none⟩ = some (.bool true) := (hb_w2.cell (p := ⟨bl, offl + r * 6 + 4, none⟩) (Nat.lt_of_lt_of_le hbl hz1)).trans c41; have hz2 := hb_w2.size; have SS2 := HSS.out w2 E2.out.2.2.1 c42; clear hb_w2; simp only [spv])
          try go_wp2_with fail
          refine hK.out _ _ ?_ (fun hHeld2 => ?_)
          · exact SS2
          clear hK K
          try clear hHeld
          have hHeld := hHeld2
          clear hHeld2
          try simp only [Act.put, List.setIfInBounds_toArray, List.set_cons_zero, List.set_cons_succ]
          refine wpAnyH_ready (rs := [9]) (by kernel_rfl) (by simp) ?_
          refine AllReadyH.cons (o := { dst := some 43, op := Op.call { callee := Callee.value (Operand.func 45), args := #[Operand.tmp 41, Operand.tmp 42], argTypes := #[45, 45] }, type := 45, pos := "l04_packed.go:449", after := #[{ on := 7, ground := Ground.data }, { on := 8, ground := Ground.data }, { on := 7, ground := Ground.chain }], guard := none }) rfl (fun K hK => ?_) AllReadyH.nil
          go_simp
          (go_at_call 45; refine (with_any t ⟨0, q.m, q.k⟩ _ (by rw [Ht.out, Hu.out]; exact (cat_ok OKB.out (flagSp_ok _)).mono (by omega)) OKF.out).mono ?_; rintro e w3 ⟨rfl, hb_w3⟩; obtain ⟨v, hv⟩ : ∃ zz : Sp, zz = t.cat ⟨0, q.m, q.k⟩ := ⟨_, rfl⟩; have Hv : Hid (v = t.cat ⟨0, q.m, q.k⟩) := hv; rw [← hv]; clear hv; have E3 : Hid (_ ∧ _ ∧ _ ∧ _) := ⟨E2.out.1.kept hb_w3, E2.out.2.1.kept hb_w3, E2.out.2.2.1.kept hb_w3, E2.out.2.2.2.trans (hb_w3.mono E2.out.2.2.2.size)⟩; obtain ⟨x0d, x1d, x2d⟩ := E3.out.1.hold; have f0d := E3.out.1.fr 0; have f1d := E3.out.1.fr 1; have f2d := E3.out.1.fr 2; have c43 : w3.cell? ⟨bl, offl + r * 6 + 4, none⟩ = some (.bool true) := (hb_w3.cell (p := ⟨bl, offl + r * 6 + 4, none⟩) (Nat.lt_of_lt_of_le (Nat.lt_of_lt_of_le hbl hz1) hz2)).trans c42; have SS3 := HSS.out w3 E3.out.2.2.1 c43; have SS4 := HSS.out _ (E3.out.2.2.1.same (set3_other w3 gs wr.heap.size v (by omega))) ((cell_block_same (set3_other w3 gs bl v hblgs) (offl + r * 6 + 4)).trans c43); clear hb_w3; simp only [spv])
          try go_wp2_with fail
          refine hK.out _ _ ?_ (fun hHeld2 => ?_)
          · exact SS3
          clear hK K
          try clear hHeld
          have hHeld := hHeld2
          clear hHeld2
          try simp only [Act.put, List.setIfInBounds_toArray, List.set_cons_zero, List.set_cons_succ]
          refine wpAnyH_ready (rs := [10]) (by kernel_rfl) (by simp) ?_
          refine AllReadyH.cons (o := { dst := none, op := Op.store 45 (Operand.tmp 7) (Operand.tmp 43), type := 0, pos := "l04_packed.go:449", after := #[{ on := 9, ground := Ground.data }, { on := 9, ground := Ground.chain }, { on := 0, ground := Ground.phase }, { on := 1, ground := Ground.phase }, { on := 2, ground := Ground.phase }, { on := 3, ground := Ground.phase }, { on := 4, ground := Ground.phase }, { on := 5, ground := Ground.phase }, { on := 6, ground := Ground.phase }, { on := 7, ground := Ground.phase }, { on := 8, ground := Ground.phase }, { on := 9, ground := Ground.phase }], guard := none }) rfl (fun K hK => ?_) AllReadyH.nil
          go_simp
          refine hK.out _ _ ?_ (fun hHeld2 => ?_)
          · exact SS4
          clear hK K
          try clear hHeld
          have hHeld := hHeld2
          clear hHeld2
          try simp only [Act.put, List.setIfInBounds_toArray, List.set_cons_zero, List.set_cons_succ]
          refine wpAnyH_done (by kernel_rfl) ?_ _
          have FN : Hid (_ ∧ _ ∧ _) := ⟨E3.out.1.set3 v, E3.out.2.1.same (set3_other w3 gs (w.heap.size + 1) v (by omega)), below_set3 E3.out.2.2.2 gs (by omega) v⟩
          go_wp2
          go_roundw
          case rel => first | exact ⟨k + 1, by omega, by go_num, v, FN.out.1, HOK3 Hu.out Ht.out Hv.out, HM3 Hu.out Ht.out Hv.out, FN.out.2.1, FN.out.2.2⟩ | exact ⟨k + 1, v, by omega, by go_num, FN.out.1, HOK3 Hu.out Ht.out Hv.out, HM3 Hu.out Ht.out Hv.out, FN.out.2.1, FN.out.2.2⟩
          case measure => simp [intOf]; omega
        · go_simp
          (go_at_call 46; refine (flagSpan_any true _).mono ?_; rintro e w1 ⟨rfl, hb_w1⟩; obtain ⟨u, hu⟩ : ∃ zz : Sp, zz = flagSp true := ⟨_, rfl⟩; have Hu : Hid (u = flagSp true) := hu; rw [← hu]; clear hu; have E1 : Hid (_ ∧ _ ∧ _ ∧ _) := ⟨FX.out.1.kept (V0.drew_below hb_w1), FX.out.2.1.kept (V0.drew_below hb_w1), FX.out.2.2.1.kept (V0.drew_below hb_w1), FX.out.2.2.2.trans ((V0.drew_below hb_w1).mono FX.out.2.2.2.size)⟩; obtain ⟨x0b, x1b, x2b⟩ := E1.out.1.hold; obtain ⟨v0b, v1b, v2b⟩ := E1.out.2.2.1.hold; have c41 : w1.cell? ⟨bl, offl + r * 6 + 4, none⟩ = some (.bool true) := ((V0.drew_below hb_w1).cell (p := ⟨bl, offl + r * 6 + 4, none⟩) hbl).trans c4v; have hz1 := (V0.drew_below hb_w1).size; have SS1 := HSS.out w1 E1.out.2.2.1 c41; clear hb_w1; simp only [spv])
          try go_wp2_with fail
          refine hK.out _ _ ?_ (fun hHeld2 => ?_)
          · exact SS1
          clear hK K
          try clear hHeld
          have hHeld := hHeld2
          clear hHeld2
          try simp only [Act.put, List.setIfInBounds_toArray, List.set_cons_zero, List.set_cons_succ]
          refine wpAnyH_ready (rs := [0]) (by kernel_rfl) (by simp) ?_
          refine AllReadyH.cons (o := { dst := some 34, op := Op.load 45 (Operand.tmp 7), type := 45, pos := "l04_packed.go:449", after := #[], guard := none }) rfl (fun K hK => ?_) AllReadyH.nil
          go_simp
          refine hK.out _ _ ?_ (fun hHeld2 => ?_)
          · exact SS1
          clear hK K
          try clear hHeld
          have hHeld := hHeld2
          clear hHeld2
          try simp only [Act.put, List.setIfInBounds_toArray, List.set_cons_zero, List.set_cons_succ]
          refine wpAnyH_ready (rs := [7]) (by kernel_rfl) (by simp) ?_
          refine AllReadyH.cons (o := { dst := some 41, op := Op.call { callee := Callee.value (Operand.func 45), args := #[Operand.tmp 34, Operand.tmp 40], argTypes := #[45, 45] }, type := 45, pos := "l04_packed.go:449", after := #[{ on := 0, ground := Ground.data }, { on := 6, ground := Ground.data }, { on := 6, ground := Ground.chain }], guard := none }) rfl (fun K hK => ?_) AllReadyH.nil
          go_simp
          (go_at_call 45; refine (with_any s u _ (OKS.out) (by rw [Hu.out]; exact (flagSp_ok _).mono (by decide))).mono ?_; rintro e w2 ⟨rfl, hb_w2⟩; obtain ⟨t, ht⟩ : ∃ zz : Sp, zz = s.cat u := ⟨_, rfl⟩; have Ht : Hid (t = s.cat u) := ht; rw [← ht]; clear ht; have E2 : Hid (_ ∧ _ ∧ _ ∧ _) := ⟨E1.out.1.kept hb_w2, E1.out.2.1.kept hb_w2, E1.out.2.2.1.kept hb_w2, E1.out.2.2.2.trans (hb_w2.mono E1.out.2.2.2.size)⟩; obtain ⟨v0c, v1c, v2c⟩ := E2.out.2.2.1.hold; have c42 : w2.cell? ⟨bl, offl + r * 6 + 4, none⟩ = some (.bool true) := (hb_w2.cell (p := ⟨bl, offl + r * 6 + 4, none⟩) (Nat.lt_of_lt_of_le hbl hz1)).trans c41; have hz2 := hb_w2.size; have SS2 := HSS.out w2 E2.out.2.2.1 c42; clear hb_w2; simp only [spv])
          try go_wp2_with fail
          refine hK.out _ _ ?_ (fun hHeld2 => ?_)
          · exact SS2
          clear hK K
          try clear hHeld
          have hHeld := hHeld2
          clear hHeld2
          try simp only [Act.put, List.setIfInBounds_toArray, List.set_cons_zero, List.set_cons_succ]
          refine wpAnyH_ready (rs := [9]) (by kernel_rfl) (by simp) ?_
          refine AllReadyH.cons (o := { dst := some 43, op := Op.call { callee := Callee.value (Operand.func 45), args := #[Operand.tmp 41, Operand.tmp 42], argTypes := #[45, 45] }, type := 45, pos := "l04_packed.go:449", after := #[{ on := 7, ground := Ground.data }, { on := 8, ground := Ground.data }, { on := 7, ground := Ground.chain }], guard := none }) rfl (fun K hK => ?_) AllReadyH.nil
          go_simp
          (go_at_call 45; refine (with_any t ⟨0, q.m, q.k⟩ _ (by rw [Ht.out, Hu.out]; exact (cat_ok OKB.out (flagSp_ok _)).mono (by omega)) OKF.out).mono ?_; rintro e w3 ⟨rfl, hb_w3⟩; obtain ⟨v, hv⟩ : ∃ zz : Sp, zz = t.cat ⟨0, q.m, q.k⟩ := ⟨_, rfl⟩; have Hv : Hid (v = t.cat ⟨0, q.m, q.k⟩) := hv; rw [← hv]; clear hv; have E3 : Hid (_ ∧ _ ∧ _ ∧ _) := ⟨E2.out.1.kept hb_w3, E2.out.2.1.kept hb_w3, E2.out.2.2.1.kept hb_w3, E2.out.2.2.2.trans (hb_w3.mono E2.out.2.2.2.size)⟩; obtain ⟨x0d, x1d, x2d⟩ := E3.out.1.hold; have f0d := E3.out.1.fr 0; have f1d := E3.out.1.fr 1; have f2d := E3.out.1.fr 2; have c43 : w3.cell? ⟨bl, offl + r * 6 + 4, none⟩ = some (.bool true) := (hb_w3.cell (p := ⟨bl, offl + r * 6 + 4, none⟩) (Nat.lt_of_lt_of_le (Nat.lt_of_lt_of_le hbl hz1) hz2)).trans c42; have SS3 := HSS.out w3 E3.out.2.2.1 c43; have SS4 := HSS.out _ (E3.out.2.2.1.same (set3_other w3 gs wr.heap.size v (by omega))) ((cell_block_same (set3_other w3 gs bl v hblgs) (offl + r * 6 + 4)).trans c43); clear hb_w3; simp only [spv])
          try go_wp2_with fail
          refine hK.out _ _ ?_ (fun hHeld2 => ?_)
          · exact SS3
          clear hK K
          try clear hHeld
          have hHeld := hHeld2
          clear hHeld2
          try simp only [Act.put, List.setIfInBounds_toArray, List.set_cons_zero, List.set_cons_succ]
          refine wpAnyH_ready (rs := [10]) (by kernel_rfl) (by simp) ?_
          refine AllReadyH.cons (o := { dst := none, op := Op.store 45 (Operand.tmp 7) (Operand.tmp 43), type := 0, pos := "l04_packed.go:449", after := #[{ on := 9, ground := Ground.data }, { on := 9, ground := Ground.chain }, { on := 0, ground := Ground.phase }, { on := 1, ground := Ground.phase }, { on := 2, ground := Ground.phase }, { on := 3, ground := Ground.phase }, { on := 4, ground := Ground.phase }, { on := 5, ground := Ground.phase }, { on := 6, ground := Ground.phase }, { on := 7, ground := Ground.phase }, { on := 8, ground := Ground.phase }, { on := 9, ground := Ground.phase }], guard := none }) rfl (fun K hK => ?_) AllReadyH.nil
          go_simp
          refine hK.out _ _ ?_ (fun hHeld2 => ?_)
          · exact SS4
          clear hK K
          try clear hHeld
          have hHeld := hHeld2
          clear hHeld2
          try simp only [Act.put, List.setIfInBounds_toArray, List.set_cons_zero, List.set_cons_succ]
          refine wpAnyH_done (by kernel_rfl) ?_ _
          have FN : Hid (_ ∧ _ ∧ _) := ⟨E3.out.1.set3 v, E3.out.2.1.same (set3_other w3 gs (w.heap.size + 1) v (by omega)), below_set3 E3.out.2.2.2 gs (by omega) v⟩
          go_wp2
          go_roundw
          case rel => first | exact ⟨k + 1, by omega, by go_num, v, FN.out.1, HOK3 Hu.out Ht.out Hv.out, HM3 Hu.out Ht.out Hv.out, FN.out.2.1, FN.out.2.2⟩ | exact ⟨k + 1, v, by omega, by go_num, FN.out.1, HOK3 Hu.out Ht.out Hv.out, HM3 Hu.out Ht.out Hv.out, FN.out.2.1, FN.out.2.2⟩
          case measure => simp [intOf]; omega
      | false =>
        have OKF : Hid ((⟨q.f, q.m, q.k⟩ : Sp).ok 2000000000000000000) := HQO.out.mono (by decide)
        have HOK3 : ∀ {u t v : Sp}, u = flagSp false → t = s.cat u → v = t.cat ⟨q.f, q.m, q.k⟩ → Hid (v.ok (1 + 1000000000000001 * ((k + 1 : Nat) : Int))) := fun hu ht hv => by
          show Sp.ok _ _
          rw [hv, ht, hu]
          exact (cat_ok (cat_ok OKB.out (flagSp_ok false)) (o := ⟨q.f, q.m, q.k⟩) HQO.out).mono (by omega)
        have HM3 : ∀ {u t v : Sp}, u = flagSp false → t = s.cat u → v = t.cat ⟨q.f, q.m, q.k⟩ → Hid (seqSp xs L x = (x.kids.drop (k + 1)).foldl (seqStep xs L) v) := fun hu ht hv => by
          show _ = _
          rw [HM2.out, hv, ht, hu]
          rfl
        obtain ⟨V0, hV0⟩ : ∃ V0, V0 = wr.alloc (.cells #[.int .i64 q.f, .int .i64 q.m, .bool q.k] 45) := ⟨_, rfl⟩
        have hbv : Below wr.heap.size wr V0 := by rw [hV0]; exact (Below.refl _ _).alloc (Nat.le_refl _) _
        have XF : Box3 V0 wr.heap.size ⟨q.f, q.m, q.k⟩ := by rw [hV0]; exact ⟨heap_alloc_new wr _⟩
        have FX : Hid (_ ∧ _ ∧ _ ∧ _) := ⟨X.kept hbv, X1.kept hbv, XF, hbr.trans (hbv.mono hbr.size)⟩
        have c4v : V0.cell? ⟨bl, offl + r * 6 + 4, none⟩ = some (.bool false) := (hbv.cell (p := ⟨bl, offl + r * 6 + 4, none⟩) (Nat.lt_of_lt_of_le hlb hbr.size)).trans c4
        obtain ⟨x0, x1, x2⟩ := FX.out.1.hold
        obtain ⟨v0, v1, v2⟩ := XF.hold
        have c4w : ∀ o, (wr.alloc o).cell? ⟨bl, offl + r * 6 + 4, none⟩ = some (.bool false) := fun o => (((Below.refl wr.heap.size wr).alloc (Nat.le_refl _) o).cell (p := ⟨bl, offl + r * 6 + 4, none⟩) (Nat.lt_of_lt_of_le hlb hbr.size)).trans c4
        have HV0 : Hid (V0 = wr.alloc (.cells #[.int .i64 q.f, .int .i64 q.m, .bool q.k] 45)) := hV0
        have hgs : gs < wr.heap.size := X.lt
        have hblgs : bl ≠ gs := by omega
        clear hV0 hbv XF X X1 c4
        go_upto_region 9 with fail
        rw [← HV0.out]
        clear HV0 c4w hcr y0 y1 y2
        have HSS : Hid (∀ w'', Box3 w'' wr.heap.size ⟨q.f, q.m, q.k⟩ → w''.cell? ⟨bl, offl + r * 6 + 4, none⟩ = some (.bool false) → (fun w' => w'.cell? ⟨wr.heap.size, 0, none⟩ = some (.int .i64 q.f) ∧ w'.cell? ⟨wr.heap.size, 1, none⟩ = some (.int .i64 q.m) ∧ w'.cell? ⟨wr.heap.size, 2, none⟩ = some (.bool q.k) ∧ w'.cell? ⟨bl, offl + r * 6 + 4, none⟩ = some (.bool false)) w'') := fun w'' X c => ⟨X.c0, X.c1, X.c2, c⟩
        have hbl : bl < V0.heap.size := Nat.lt_of_lt_of_le hlb FX.out.2.2.2.size
        have SS0 : (fun w' => w'.cell? ⟨wr.heap.size, 0, none⟩ = some (.int .i64 q.f) ∧ w'.cell? ⟨wr.heap.size, 1, none⟩ = some (.int .i64 q.m) ∧ w'.cell? ⟨wr.heap.size, 2, none⟩ = some (.bool q.k) ∧ w'.cell? ⟨bl, offl + r * 6 + 4, none⟩ = some (.bool false)) V0.drew := HSS.out V0 FX.out.2.2.1 c4v
        refine wp_region_held_drew (S := fun w' => w'.cell? ⟨wr.heap.size, 0, none⟩ = some (.int .i64 q.f) ∧ w'.cell? ⟨wr.heap.size, 1, none⟩ = some (.int .i64 q.m) ∧ w'.cell? ⟨wr.heap.size, 2, none⟩ = some (.bool q.k) ∧ w'.cell? ⟨bl, offl + r * 6 + 4, none⟩ = some (.bool false)) (by kernel_rfl) SS0 (fun hHeld => ?_)
        refine wpAnyH_take (i := 1) (oi := { dst := some 35, op := Op.move (Operand.tmp 0), type := 25, pos := "l04_packed.go:449", after := #[], guard := none }) (v := ?_) rfl (by kernel_rfl) (by kernel_rfl) (by kernel_rfl) (fun _ _ _ h => h) (Or.inl ⟨by rfl, ?_⟩) (by assumption) ?_
        rotate_left
        · intro w hSw
          (try dsimp only at hSw)
          go_simp
          try with_reducible rfl
        try simp only [Act.put, List.setIfInBounds_toArray, List.set_cons_zero, List.set_cons_succ]
        refine wpAnyH_take (i := 2) (oi := { dst := some 36, op := Op.move (Operand.tmp 9), type := 2, pos := "l04_packed.go:449", after := #[], guard := none }) (v := ?_) rfl (by kernel_rfl) (by kernel_rfl) (by kernel_rfl) (fun _ _ _ h => h) (Or.inl ⟨by rfl, ?_⟩) (by assumption) ?_
        rotate_left
        · intro w hSw
          (try dsimp only at hSw)
          go_simp
          try with_reducible rfl
        try simp only [Act.put, List.setIfInBounds_toArray, List.set_cons_zero, List.set_cons_succ]
        refine wpAnyH_take (i := 3) (oi := { dst := some 37, op := Op.indexAddr 25 (Operand.tmp 35) (Operand.tmp 36), type := 0, pos := "l04_packed.go:449", after := #[{ on := 1, ground := Ground.data }, { on := 2, ground := Ground.data }], guard := none }) (v := ?_) rfl (by kernel_rfl) (by kernel_rfl) (by kernel_rfl) (fun _ _ _ h => h) (Or.inl ⟨by rfl, ?_⟩) (by assumption) ?_
        rotate_left
        · intro w hSw
          (try dsimp only at hSw)
          go_simp
          try with_reducible rfl
        try simp only [Act.put, List.setIfInBounds_toArray, List.set_cons_zero, List.set_cons_succ]
        refine wpAnyH_take (i := 4) (oi := { dst := some 38, op := Op.fieldAddr 37 (Operand.tmp 37) 4, type := 0, pos := "l04_packed.go:449", after := #[{ on := 3, ground := Ground.data }], guard := none }) (v := ?_) rfl (by kernel_rfl) (by kernel_rfl) (by kernel_rfl) (fun _ _ _ h => h) (Or.inl ⟨by rfl, ?_⟩) (by assumption) ?_
        rotate_left
        · intro w hSw
          (try dsimp only at hSw)
          go_simp
          try with_reducible rfl
        try simp only [Act.put, List.setIfInBounds_toArray, List.set_cons_zero, List.set_cons_succ]
        refine wpAnyH_take (i := 5) (oi := { dst := some 39, op := Op.load 4 (Operand.tmp 38), type := 4, pos := "l04_packed.go:449", after := #[{ on := 4, ground := Ground.data }], guard := none }) (v := ?_) rfl (by kernel_rfl) (by kernel_rfl) (by kernel_rfl) (fun _ _ _ h => h) (Or.inl ⟨by rfl, ?_⟩) (by assumption) ?_
        rotate_left
        · intro w hSw
          (try dsimp only at hSw)
          go_simp
          try with_reducible rfl
        try simp only [Act.put, List.setIfInBounds_toArray, List.set_cons_zero, List.set_cons_succ]
        refine wpAnyH_take (i := 8) (oi := { dst := some 42, op := Op.load 45 (Operand.tmp 10), type := 45, pos := "l04_packed.go:449", after := #[], guard := none }) (v := ?_) rfl (by kernel_rfl) (by kernel_rfl) (by kernel_rfl) (fun _ _ _ h => h) (Or.inl ⟨by rfl, ?_⟩) (by assumption) ?_
        rotate_left
        · intro w hSw
          (try dsimp only at hSw)
          go_simp
          try with_reducible rfl
        try simp only [Act.put, List.setIfInBounds_toArray, List.set_cons_zero, List.set_cons_succ]
        refine wpAnyH_ready (rs := [0, 6]) (by kernel_rfl) (by simp) ?_
        refine AllReadyH.cons (o := { dst := some 34, op := Op.load 45 (Operand.tmp 7), type := 45, pos := "l04_packed.go:449", after := #[], guard := none }) rfl (fun K hK => ?_) (AllReadyH.cons (o := { dst := some 40, op := Op.call { callee := Callee.value (Operand.func 46), args := #[Operand.tmp 39], argTypes := #[4] }, type := 45, pos := "l04_packed.go:449", after := #[{ on := 5, ground := Ground.data }], guard := none }) rfl (fun K hK => ?_) AllReadyH.nil)
        · go_simp
          refine hK.out _ _ ?_ (fun hHeld2 => ?_)
          · exact SS0
          clear hK K
          try clear hHeld
          have hHeld := hHeld2
          clear hHeld2
          try simp only [Act.put, List.setIfInBounds_toArray, List.set_cons_zero, List.set_cons_succ]
          refine wpAnyH_ready (rs := [6]) (by kernel_rfl) (by simp) ?_
          refine AllReadyH.cons (o := { dst := some 40, op := Op.call { callee := Callee.value (Operand.func 46), args := #[Operand.tmp 39], argTypes := #[4] }, type := 45, pos := "l04_packed.go:449", after := #[{ on := 5, ground := Ground.data }], guard := none }) rfl (fun K hK => ?_) AllReadyH.nil
          go_simp
          (go_at_call 46; refine (flagSpan_any false _).mono ?_; rintro e w1 ⟨rfl, hb_w1⟩; obtain ⟨u, hu⟩ : ∃ zz : Sp, zz = flagSp false := ⟨_, rfl⟩; have Hu : Hid (u = flagSp false) := hu; rw [← hu]; clear hu; have E1 : Hid (_ ∧ _ ∧ _ ∧ _) := ⟨FX.out.1.kept (V0.drew_below hb_w1), FX.out.2.1.kept (V0.drew_below hb_w1), FX.out.2.2.1.kept (V0.drew_below hb_w1), FX.out.2.2.2.trans ((V0.drew_below hb_w1).mono FX.out.2.2.2.size)⟩; obtain ⟨x0b, x1b, x2b⟩ := E1.out.1.hold; obtain ⟨v0b, v1b, v2b⟩ := E1.out.2.2.1.hold; have c41 : w1.cell? ⟨bl, offl + r * 6 + 4, none⟩ = some (.bool false) := ((V0.drew_below hb_w1).cell (p := ⟨bl, offl + r * 6 + 4, none⟩) hbl).trans c4v; have hz1 := (V0.drew_below hb_w1).size; have SS1 := HSS.out w1 E1.out.2.2.1 c41; clear hb_w1; simp only [spv])
          try go_wp2_with fail
          refine hK.out _ _ ?_ (fun hHeld2 => ?_)
          · exact SS1
          clear hK K
          try clear hHeld
          have hHeld := hHeld2
          clear hHeld2
          try simp only [Act.put, List.setIfInBounds_toArray, List.set_cons_zero, List.set_cons_succ]
          refine wpAnyH_ready (rs := [7]) (by kernel_rfl) (by simp) ?_
          refine AllReadyH.cons (o := { dst := some 41, op := Op.call { callee := Callee.value (Operand.func 45), args := #[Operand.tmp 34, Operand.tmp 40], argTypes := #[45, 45] }, type := 45, pos := "l04_packed.go:449", after := #[{ on := 0, ground := Ground.data }, { on := 6, ground := Ground.data }, { on := 6, ground := Ground.chain }], guard := none }) rfl (fun K hK => ?_) AllReadyH.nil
          go_simp
          (go_at_call 45; refine (with_any s u _ (OKS.out) (by rw [Hu.out]; exact (flagSp_ok _).mono (by decide))).mono ?_; rintro e w2 ⟨rfl, hb_w2⟩; obtain ⟨t, ht⟩ : ∃ zz : Sp, zz = s.cat u := ⟨_, rfl⟩; have Ht : Hid (t = s.cat u) := ht; rw [← ht]; clear ht; have E2 : Hid (_ ∧ _ ∧ _ ∧ _) := ⟨E1.out.1.kept hb_w2, E1.out.2.1.kept hb_w2, E1.out.2.2.1.kept hb_w2, E1.out.2.2.2.trans (hb_w2.mono E1.out.2.2.2.size)⟩; obtain ⟨v0c, v1c, v2c⟩ := E2.out.2.2.1.hold; have c42 : w2.cell? ⟨bl, offl + r * 6 + 4, none⟩ = some (.bool false) := (hb_w2.cell (p := ⟨bl, offl + r * 6 + 4, none⟩) (Nat.lt_of_lt_of_le hbl hz1)).trans c41; have hz2 := hb_w2.size; have SS2 := HSS.out w2 E2.out.2.2.1 c42; clear hb_w2; simp only [spv])
          try go_wp2_with fail
          refine hK.out _ _ ?_ (fun hHeld2 => ?_)
          · exact SS2
          clear hK K
          try clear hHeld
          have hHeld := hHeld2
          clear hHeld2
          try simp only [Act.put, List.setIfInBounds_toArray, List.set_cons_zero, List.set_cons_succ]
          refine wpAnyH_ready (rs := [9]) (by kernel_rfl) (by simp) ?_
          refine AllReadyH.cons (o := { dst := some 43, op := Op.call { callee := Callee.value (Operand.func 45), args := #[Operand.tmp 41, Operand.tmp 42], argTypes := #[45, 45] }, type := 45, pos := "l04_packed.go:449", after := #[{ on := 7, ground := Ground.data }, { on := 8, ground := Ground.data }, { on := 7, ground := Ground.chain }], guard := none }) rfl (fun K hK => ?_) AllReadyH.nil
          go_simp
          (go_at_call 45; refine (with_any t ⟨q.f, q.m, q.k⟩ _ (by rw [Ht.out, Hu.out]; exact (cat_ok OKB.out (flagSp_ok _)).mono (by omega)) OKF.out).mono ?_; rintro e w3 ⟨rfl, hb_w3⟩; obtain ⟨v, hv⟩ : ∃ zz : Sp, zz = t.cat ⟨q.f, q.m, q.k⟩ := ⟨_, rfl⟩; have Hv : Hid (v = t.cat ⟨q.f, q.m, q.k⟩) := hv; rw [← hv]; clear hv; have E3 : Hid (_ ∧ _ ∧ _ ∧ _) := ⟨E2.out.1.kept hb_w3, E2.out.2.1.kept hb_w3, E2.out.2.2.1.kept hb_w3, E2.out.2.2.2.trans (hb_w3.mono E2.out.2.2.2.size)⟩; obtain ⟨x0d, x1d, x2d⟩ := E3.out.1.hold; have f0d := E3.out.1.fr 0; have f1d := E3.out.1.fr 1; have f2d := E3.out.1.fr 2; have c43 : w3.cell? ⟨bl, offl + r * 6 + 4, none⟩ = some (.bool false) := (hb_w3.cell (p := ⟨bl, offl + r * 6 + 4, none⟩) (Nat.lt_of_lt_of_le (Nat.lt_of_lt_of_le hbl hz1) hz2)).trans c42; have SS3 := HSS.out w3 E3.out.2.2.1 c43; have SS4 := HSS.out _ (E3.out.2.2.1.same (set3_other w3 gs wr.heap.size v (by omega))) ((cell_block_same (set3_other w3 gs bl v hblgs) (offl + r * 6 + 4)).trans c43); clear hb_w3; simp only [spv])
          try go_wp2_with fail
          refine hK.out _ _ ?_ (fun hHeld2 => ?_)
          · exact SS3
          clear hK K
          try clear hHeld
          have hHeld := hHeld2
          clear hHeld2
          try simp only [Act.put, List.setIfInBounds_toArray, List.set_cons_zero, List.set_cons_succ]
          refine wpAnyH_ready (rs := [10]) (by kernel_rfl) (by simp) ?_
          refine AllReadyH.cons (o := { dst := none, op := Op.store 45 (Operand.tmp 7) (Operand.tmp 43), type := 0, pos := "l04_packed.go:449", after := #[{ on := 9, ground := Ground.data }, { on := 9, ground := Ground.chain }, { on := 0, ground := Ground.phase }, { on := 1, ground := Ground.phase }, { on := 2, ground := Ground.phase }, { on := 3, ground := Ground.phase }, { on := 4, ground := Ground.phase }, { on := 5, ground := Ground.phase }, { on := 6, ground := Ground.phase }, { on := 7, ground := Ground.phase }, { on := 8, ground := Ground.phase }, { on := 9, ground := Ground.phase }], guard := none }) rfl (fun K hK => ?_) AllReadyH.nil
          go_simp
          refine hK.out _ _ ?_ (fun hHeld2 => ?_)
          · exact SS4
          clear hK K
          try clear hHeld
          have hHeld := hHeld2
          clear hHeld2
          try simp only [Act.put, List.setIfInBounds_toArray, List.set_cons_zero, List.set_cons_succ]
          refine wpAnyH_done (by kernel_rfl) ?_ _
          have FN : Hid (_ ∧ _ ∧ _) := ⟨E3.out.1.set3 v, E3.out.2.1.same (set3_other w3 gs (w.heap.size + 1) v (by omega)), below_set3 E3.out.2.2.2 gs (by omega) v⟩
          go_wp2
          go_roundw
          case rel => first | exact ⟨k + 1, by omega, by go_num, v, FN.out.1, HOK3 Hu.out Ht.out Hv.out, HM3 Hu.out Ht.out Hv.out, FN.out.2.1, FN.out.2.2⟩ | exact ⟨k + 1, v, by omega, by go_num, FN.out.1, HOK3 Hu.out Ht.out Hv.out, HM3 Hu.out Ht.out Hv.out, FN.out.2.1, FN.out.2.2⟩
          case measure => simp [intOf]; omega
        · go_simp
          (go_at_call 46; refine (flagSpan_any false _).mono ?_; rintro e w1 ⟨rfl, hb_w1⟩; obtain ⟨u, hu⟩ : ∃ zz : Sp, zz = flagSp false := ⟨_, rfl⟩; have Hu : Hid (u = flagSp false) := hu; rw [← hu]; clear hu; have E1 : Hid (_ ∧ _ ∧ _ ∧ _) := ⟨FX.out.1.kept (V0.drew_below hb_w1), FX.out.2.1.kept (V0.drew_below hb_w1), FX.out.2.2.1.kept (V0.drew_below hb_w1), FX.out.2.2.2.trans ((V0.drew_below hb_w1).mono FX.out.2.2.2.size)⟩; obtain ⟨x0b, x1b, x2b⟩ := E1.out.1.hold; obtain ⟨v0b, v1b, v2b⟩ := E1.out.2.2.1.hold; have c41 : w1.cell? ⟨bl, offl + r * 6 + 4, none⟩ = some (.bool false) := ((V0.drew_below hb_w1).cell (p := ⟨bl, offl + r * 6 + 4, none⟩) hbl).trans c4v; have hz1 := (V0.drew_below hb_w1).size; have SS1 := HSS.out w1 E1.out.2.2.1 c41; clear hb_w1; simp only [spv])
          try go_wp2_with fail
          refine hK.out _ _ ?_ (fun hHeld2 => ?_)
          · exact SS1
          clear hK K
          try clear hHeld
          have hHeld := hHeld2
          clear hHeld2
          try simp only [Act.put, List.setIfInBounds_toArray, List.set_cons_zero, List.set_cons_succ]
          refine wpAnyH_ready (rs := [0]) (by kernel_rfl) (by simp) ?_
          refine AllReadyH.cons (o := { dst := some 34, op := Op.load 45 (Operand.tmp 7), type := 45, pos := "l04_packed.go:449", after := #[], guard := none }) rfl (fun K hK => ?_) AllReadyH.nil
          go_simp
          refine hK.out _ _ ?_ (fun hHeld2 => ?_)
          · exact SS1
          clear hK K
          try clear hHeld
          have hHeld := hHeld2
          clear hHeld2
          try simp only [Act.put, List.setIfInBounds_toArray, List.set_cons_zero, List.set_cons_succ]
          refine wpAnyH_ready (rs := [7]) (by kernel_rfl) (by simp) ?_
          refine AllReadyH.cons (o := { dst := some 41, op := Op.call { callee := Callee.value (Operand.func 45), args := #[Operand.tmp 34, Operand.tmp 40], argTypes := #[45, 45] }, type := 45, pos := "l04_packed.go:449", after := #[{ on := 0, ground := Ground.data }, { on := 6, ground := Ground.data }, { on := 6, ground := Ground.chain }], guard := none }) rfl (fun K hK => ?_) AllReadyH.nil
          go_simp
          (go_at_call 45; refine (with_any s u _ (OKS.out) (by rw [Hu.out]; exact (flagSp_ok _).mono (by decide))).mono ?_; rintro e w2 ⟨rfl, hb_w2⟩; obtain ⟨t, ht⟩ : ∃ zz : Sp, zz = s.cat u := ⟨_, rfl⟩; have Ht : Hid (t = s.cat u) := ht; rw [← ht]; clear ht; have E2 : Hid (_ ∧ _ ∧ _ ∧ _) := ⟨E1.out.1.kept hb_w2, E1.out.2.1.kept hb_w2, E1.out.2.2.1.kept hb_w2, E1.out.2.2.2.trans (hb_w2.mono E1.out.2.2.2.size)⟩; obtain ⟨v0c, v1c, v2c⟩ := E2.out.2.2.1.hold; have c42 : w2.cell? ⟨bl, offl + r * 6 + 4, none⟩ = some (.bool false) := (hb_w2.cell (p := ⟨bl, offl + r * 6 + 4, none⟩) (Nat.lt_of_lt_of_le hbl hz1)).trans c41; have hz2 := hb_w2.size; have SS2 := HSS.out w2 E2.out.2.2.1 c42; clear hb_w2; simp only [spv])
          try go_wp2_with fail
          refine hK.out _ _ ?_ (fun hHeld2 => ?_)
          · exact SS2
          clear hK K
          try clear hHeld
          have hHeld := hHeld2
          clear hHeld2
          try simp only [Act.put, List.setIfInBounds_toArray, List.set_cons_zero, List.set_cons_succ]
          refine wpAnyH_ready (rs := [9]) (by kernel_rfl) (by simp) ?_
          refine AllReadyH.cons (o := { dst := some 43, op := Op.call { callee := Callee.value (Operand.func 45), args := #[Operand.tmp 41, Operand.tmp 42], argTypes := #[45, 45] }, type := 45, pos := "l04_packed.go:449", after := #[{ on := 7, ground := Ground.data }, { on := 8, ground := Ground.data }, { on := 7, ground := Ground.chain }], guard := none }) rfl (fun K hK => ?_) AllReadyH.nil
          go_simp
          (go_at_call 45; refine (with_any t ⟨q.f, q.m, q.k⟩ _ (by rw [Ht.out, Hu.out]; exact (cat_ok OKB.out (flagSp_ok _)).mono (by omega)) OKF.out).mono ?_; rintro e w3 ⟨rfl, hb_w3⟩; obtain ⟨v, hv⟩ : ∃ zz : Sp, zz = t.cat ⟨q.f, q.m, q.k⟩ := ⟨_, rfl⟩; have Hv : Hid (v = t.cat ⟨q.f, q.m, q.k⟩) := hv; rw [← hv]; clear hv; have E3 : Hid (_ ∧ _ ∧ _ ∧ _) := ⟨E2.out.1.kept hb_w3, E2.out.2.1.kept hb_w3, E2.out.2.2.1.kept hb_w3, E2.out.2.2.2.trans (hb_w3.mono E2.out.2.2.2.size)⟩; obtain ⟨x0d, x1d, x2d⟩ := E3.out.1.hold; have f0d := E3.out.1.fr 0; have f1d := E3.out.1.fr 1; have f2d := E3.out.1.fr 2; have c43 : w3.cell? ⟨bl, offl + r * 6 + 4, none⟩ = some (.bool false) := (hb_w3.cell (p := ⟨bl, offl + r * 6 + 4, none⟩) (Nat.lt_of_lt_of_le (Nat.lt_of_lt_of_le hbl hz1) hz2)).trans c42; have SS3 := HSS.out w3 E3.out.2.2.1 c43; have SS4 := HSS.out _ (E3.out.2.2.1.same (set3_other w3 gs wr.heap.size v (by omega))) ((cell_block_same (set3_other w3 gs bl v hblgs) (offl + r * 6 + 4)).trans c43); clear hb_w3; simp only [spv])
          try go_wp2_with fail
          refine hK.out _ _ ?_ (fun hHeld2 => ?_)
          · exact SS3
          clear hK K
          try clear hHeld
          have hHeld := hHeld2
          clear hHeld2
          try simp only [Act.put, List.setIfInBounds_toArray, List.set_cons_zero, List.set_cons_succ]
          refine wpAnyH_ready (rs := [10]) (by kernel_rfl) (by simp) ?_
          refine AllReadyH.cons (o := { dst := none, op := Op.store 45 (Operand.tmp 7) (Operand.tmp 43), type := 0, pos := "l04_packed.go:449", after := #[{ on := 9, ground := Ground.data }, { on := 9, ground := Ground.chain }, { on := 0, ground := Ground.phase }, { on := 1, ground := Ground.phase }, { on := 2, ground := Ground.phase }, { on := 3, ground := Ground.phase }, { on := 4, ground := Ground.phase }, { on := 5, ground := Ground.phase }, { on := 6, ground := Ground.phase }, { on := 7, ground := Ground.phase }, { on := 8, ground := Ground.phase }, { on := 9, ground := Ground.phase }], guard := none }) rfl (fun K hK => ?_) AllReadyH.nil
          go_simp
          refine hK.out _ _ ?_ (fun hHeld2 => ?_)
          · exact SS4
          clear hK K
          try clear hHeld
          have hHeld := hHeld2
          clear hHeld2
          try simp only [Act.put, List.setIfInBounds_toArray, List.set_cons_zero, List.set_cons_succ]
          refine wpAnyH_done (by kernel_rfl) ?_ _
          have FN : Hid (_ ∧ _ ∧ _) := ⟨E3.out.1.set3 v, E3.out.2.1.same (set3_other w3 gs (w.heap.size + 1) v (by omega)), below_set3 E3.out.2.2.2 gs (by omega) v⟩
          go_wp2
          go_roundw
          case rel => first | exact ⟨k + 1, by omega, by go_num, v, FN.out.1, HOK3 Hu.out Ht.out Hv.out, HM3 Hu.out Ht.out Hv.out, FN.out.2.1, FN.out.2.2⟩ | exact ⟨k + 1, v, by omega, by go_num, FN.out.1, HOK3 Hu.out Ht.out Hv.out, HM3 Hu.out Ht.out Hv.out, FN.out.2.1, FN.out.2.2⟩
          case measure => simp [intOf]; omega
    · obtain rfl : nk = k := by omega
      have HE : Hid (seqSp xs L x = s) := by show _ = _; rw [HM.out, List.drop_eq_nil_of_le (by rw [HL.out]; exact Nat.le_refl _)]; rfl
      obtain ⟨x0, x1, x2⟩ := X.hold
      obtain ⟨z0, z1, z2⟩ := X1.hold
      have f0 := X1.fr 0
      have f1 := X1.fr 1
      have f2 := X1.fr 2
      have F : Hid (_ ∧ _) := ⟨X1.set3 s, below_set3 hbr (w.heap.size + 1) (by omega) s⟩
      clear HM X X1 OKB
      go_wp2
      try simp only [Exit.inBlock, Exit.then]
      exact bodyPost_ret (results_sp rfl _ (w.heap.size + 1) rfl _ s F.out.1) rfl ⟨by rw [HE.out]; try rfl, F.out.2⟩

end Go.Proofs.Ytglmaoigjnoklaa
