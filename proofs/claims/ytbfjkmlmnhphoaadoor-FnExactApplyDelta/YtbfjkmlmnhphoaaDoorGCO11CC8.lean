import Derived.Test.YtbfjkmlmnhphoaaDoorGCO8CO10
import Derived.Test.YtbfjkmlmnhphoaaDoorGCC7MJ0
set_option linter.unusedVariables false
namespace Go.Proofs.YtbfjkmlmnhphoaaDoor
open Go.RowKit Go.Maps

/-- What a list's map says of an entry: that it is there. -/
def RG : Value → Option (DataW Unit × List MemPlace) := fun _ => some (.lit (.bool true), [])
def kb (y : GP) : List UInt8 := keyBytes [.string (ftS y.parts).data.toList, .int .i64 y.ser]
def Sn (xs : List GP) (k : Nat) : DataW Unit := setOf (.lit (.bool true)) ((xs.take k).map fun y => Lit.string (kb y))
theorem Sn_zero (xs : List GP) : Sn xs 0 = .map [] := by simp [Sn, setOf]
theorem Sn_succ (xs : List GP) (k : Nat) (hk : k < xs.length) : Sn xs (k + 1) = (Sn xs k).put (.string (kb (xs.getD k default))) (.lit (.bool true)) := by
  unfold Sn
  rw [List.take_succ_eq_append_getElem hk, List.map_append, List.getD_eq_getElem?_getD, List.getElem?_eq_getElem hk]
  exact setOf_snoc _ _ _
def MpO (b n : Nat) (D : DataW Unit) (w : World) : Prop := w.ownsMap Tryd.prog 99 RG b n D
theorem MpO.kept {b n : Nat} {D : DataW Unit} {w w' : World} (h : MpO b n D w) (hb : Below w.heap.size w w') : MpO b n D w' := by
  have hl := World.ownsMap.lt h
  obtain ⟨es, clock, he, F, hs, hd⟩ := h
  exact ⟨es, clock, (hb.block b hl).trans he, F, hs, hd⟩

/-- What is known of a region (RJ). -/
def bk5 (an : Option Addr) (nn cn : Nat) (y : GP) (m : Nat) (D : DataW Unit) (G go B : Nat) : RSpec where
  m := 5
  n := 7
  slots := [13, 14, 15, 16, 100004, 100005, 100006]
  kills := [[], [], [], [], [], [], [4]]
  pres := [[], [], [], [], [], [], []]
  fact := fun k v w => match k with
    | 0 => v = .map (some G)
    | 1 => v = .agg #[.slice an nn cn, .int .i64 y.ser, .int .i64 y.tm, .int .i64 y.rs]
    | 2 => v = .agg #[.string (ftS y.parts), .int .i64 y.ser]
    | 3 => v = .agg #[.slice an nn cn, .int .i64 y.ser, .int .i64 y.tm, .int .i64 y.rs]
    | 4 => MpO G (m + 1) (D.put (.string (kb y)) (.lit (.bool true))) w
    | 5 => w.heap[go]? = some (.cells #[.slice an nn cn, .int .i64 y.ser, .int .i64 y.tm, .int .i64 y.rs] 63 (0, 0))
    | _ => MpO G m D w
set_option linter.unusedVariables false in
theorem bk5_stb (an : Option Addr) (nn cn : Nat) (y : GP) (m : Nat) (D : DataW Unit) (G go B : Nat) (k : Nat) (hk : k < 7) : StB ((bk5 an nn cn y m D G go (B)).fact k) := by
  match k, hk with
  | 0, _ => exact fun _ _ _ h _ => h
  | 1, _ => exact fun _ _ _ h _ => h
  | 2, _ => exact fun _ _ _ h _ => h
  | 3, _ => exact fun _ _ _ h _ => h
  | 4, _ => exact fun _ _ _ q_0 hb => q_0.kept hb
  | 5, _ => exact fun _ _ _ q_0 hb => below_kept q_0 hb
  | 6, _ => exact fun _ _ _ q_0 hb => q_0.kept hb
  | k + 7, hk => omega

set_option maxRecDepth 100000 in
set_option maxRecDepth 10000 in
set_option maxHeartbeats 4000000 in
theorem byKey_any (a : Option Addr) (n c : Nat) (xs : List GP) (w : World) (htab : Lib.TabIs Tryd.prog w "internal/strconv.uint64pow10" .u64 Lib.pow10Tab) (h : Gns w a n xs) (hn : n ≤ 1000) (hp : ∀ k, k < n → nameP (xs.getD k default).parts ∧ (Lit.int .i64 (xs.getD k default).ser).wf = true) :
    Calls Tryd.prog 72 #[.slice a n c] w fun e w' => e = .returned (.map (some w.heap.size)) ∧ MpO w.heap.size n (Sn xs n) w' ∧ Below w.heap.size w w' := by
  have hmm := @run_makeMap Tryd.prog
  have HK : Hid (Gns w a n xs) := h
  have HP : Hid (∀ k, k < n → nameP (xs.getD k default).parts ∧ (Lit.int .i64 (xs.getD k default).ser).wf = true) := hp
  have HT : Hid (∀ W, Below w.heap.size w W → Lib.TabIs Tryd.prog W "internal/strconv.uint64pow10" .u64 Lib.pow10Tab) := fun W hW => Lib.tabBelow_of_tabIs htab W hW
  have HL : Hid (xs.length = n) := h.len
  clear h hp htab
  go_enter Tryd.func72, Tryd.ntmps72
  go_wp2
  go_loopw [9] (fun i wr => ∃ k : Nat, k ≤ n ∧ i = .int .i64 k ∧ Hid (MpO w.heap.size k (Sn xs k) wr) ∧ Below w.heap.size w wr) (fun i _ => n - (intOf i).toNat)
  case atStart => exact ⟨0, Nat.zero_le _, rfl, by rw [Sn_zero]; exact World.ownsMap_made _ _ _ _, (Below.refl _ _).alloc (Nat.le_refl _) _⟩
  case round =>
    obtain ⟨wo, hwo⟩ : ∃ wo, wo = wr := ⟨_, rfl⟩
    subst hwo
    obtain ⟨k, hk, rfl, HM, hbr⟩ := hrel
    by_cases hkn : k < n
    · obtain ⟨b1, off1, an, nn, cn, rfl, hl1, hc1, hp1⟩ := HK.out.get k hkn
      have hpk := HP.out k hkn
      obtain ⟨y, hy⟩ : ∃ y, y = xs.getD k default := ⟨_, rfl⟩
      rw [← hy] at hc1 hp1 hpk
      have HSS : Hid (Sn xs (k + 1) = (Sn xs k).put (.string (kb y)) (.lit (.bool true))) := by show _ = _; rw [hy]; exact Sn_succ xs k (by rw [HL.out]; exact hkn)
      obtain ⟨d0, d1, d2, d3⟩ := hc1.of (w' := wo) (fun i => hbr.cell (p := ⟨b1, i, none⟩) hl1)
      obtain ⟨W1, hW1⟩ : ∃ W1, W1 = wo.alloc (.cells #[.slice an nn cn, .int .i64 y.ser, .int .i64 y.tm, .int .i64 y.rs] 63) := ⟨_, rfl⟩
      have hbW : Below wo.heap.size wo W1 := by rw [hW1]; exact (Below.refl _ _).alloc (Nat.le_refl _) _
      have HE1 : Hid (W1.heap[wo.heap.size]? = some (.cells #[.slice an nn cn, .int .i64 y.ser, .int .i64 y.tm, .int .i64 y.rs] 63 (0, 0))) := by show _ = _; rw [hW1]; exact heap_alloc_new wo _
      have hB1 : Below w.heap.size w W1 := hbr.trans (hbW.mono hbr.size)
      have hml := World.ownsMap.lt HM.out
      have HM1 : Hid (MpO w.heap.size k (Sn xs k) W1) := HM.out.kept hbW
      have HKO : Hid (∀ W, Below w.heap.size W1 W → Calls Tryd.prog 76 #[.agg #[.slice an nn cn, .int .i64 y.ser, .int .i64 y.tm, .int .i64 y.rs]] W fun e w' => e = .returned (.agg #[.string (ftS y.parts), .int .i64 y.ser]) ∧ Below W.heap.size W w') := fun W hW => goneKey_any an nn cn y W (HT.out W (hB1.trans hW)) (hp1.kept (hB1.trans hW)) hpk.1
      have HKI : Hid (Go.keyOf Tryd.prog 99 (.agg #[.string (ftS y.parts), .int .i64 y.ser]) = some (.string (kb y))) := key_is (by
        show (fbs y.parts).toArray.size ≤ maxLen
        have h1 := fbs_len y.parts (nameP_all hpk.1)
        have h2 := hpk.1.1
        rw [List.size_toArray]
        unfold maxLen
        omega) hpk.2
      have HMM : k < maxLen := by unfold maxLen; omega
      have HBB : w.heap.size ≤ W1.heap.size := hB1.size
      have hkni : (k : Int) < (n : Int) := by omega
      obtain ⟨D, hD⟩ : ∃ D, D = Sn xs k := ⟨_, rfl⟩
      rw [← hD] at HM1 HSS
      obtain ⟨m, hm⟩ : ∃ m, m = k := ⟨_, rfl⟩
      have HW1 : Hid (_ = _) := hW1
      clear hW1 hc1 hp1 hy hbW hpk HM hD
      go_upto_region 5 with fail
      rw [← HW1.out]
      clear HW1 d0 d1 d2 d3
      rw [← hm] at HM1 HMM
      refine wp_region_ri (bk5 an nn cn y m D w.heap.size wo.heap.size (w.heap.size)) [13, 14, 15, 16] (w.heap.size) (fun a0 => a0.tmps.size = 19 ∧ aT a0 3 = .map (some w.heap.size) ∧ aT a0 5 = .pointer (some ⟨wo.heap.size, 0, none⟩)) (by kernel_rfl) rfl (by kernel_rfl) rfl ⟨rfl, rfl, rfl⟩ (bk5_stb an nn cn y m D w.heap.size wo.heap.size (w.heap.size)) ?_ ?_ ?_
      · intro k hk hk2
        match k, hk, hk2 with
        | 5, _, _ => exact HE1.out
        | 6, _, _ => exact HM1.out
        | 0, hk, _ => exact absurd hk (by show ¬ (5 ≤ 0); omega)
        | 1, hk, _ => exact absurd hk (by show ¬ (5 ≤ 1); omega)
        | 2, hk, _ => exact absurd hk (by show ¬ (5 ≤ 2); omega)
        | 3, hk, _ => exact absurd hk (by show ¬ (5 ≤ 3); omega)
        | 4, hk, _ => exact absurd hk (by show ¬ (5 ≤ 4); omega)
        | k + 7, _, hk2 => exact absurd hk2 (by show ¬ (k + 7 < 7); omega)
      · rintro a0 ⟨hz, g3, g5⟩
        refine StepsRI.cons ?_ (StepsRI.cons ?_ (StepsRI.cons ?_ (StepsRI.cons ?_ (StepsRI.cons ?_ (StepsRI.nil)))))
        · intro lQ b W hI hUN hED KQ hKQ
          exact opw_move 3 rfl (hKQ.out _ _ (hI.put 0 13 rfl rfl (by rw [hz]; decide) rfl hUN rfl HBB (bk5_stb an nn cn y m D w.heap.size wo.heap.size (w.heap.size)) (Below.refl _ _) ((hI.fr.same 3 (by decide)).trans g3)))
        · intro lQ b W hI hUN hED KQ hKQ
          have hg := (hI.vot 5 (of_decide_eq_true rfl) (of_decide_eq_true rfl) rfl)
          refine wp_load_row 63 _ rfl (wo.heap.size) ((hI.fr.same 5 (by decide)).trans g5) 63 #[.slice an nn cn, .int .i64 y.ser, .int .i64 y.tm, .int .i64 y.rs] (0, 0) _ hg Tryd.underlying63 rfl (by kernel_rfl) ?_
          exact hKQ.out _ _ (hI.put 1 14 rfl rfl (by rw [hz]; decide) rfl hUN rfl HBB (bk5_stb an nn cn y m D w.heap.size wo.heap.size (w.heap.size)) (Below.refl _ _) rfl)
        · intro lQ b W hI hUN hED KQ hKQ
          have f0 := hI.got 1 (of_decide_eq_true rfl) (edge hED 1 (by kernel_rfl)) rfl
          replace f0 : aT b 14 = .agg #[.slice an nn cn, .int .i64 y.ser, .int .i64 y.tm, .int .i64 y.rs] := f0
          refine opw_call 76 #[.tmp 14] _ _ _ rfl Tryd.func76 (by kernel_rfl) rfl #[.agg #[.slice an nn cn, .int .i64 y.ser, .int .i64 y.tm, .int .i64 y.rs]] (by simp [ev, f0]) ?_
          refine (HKO.out W hI.bel).mono ?_
          rintro e W2 ⟨rfl, hb⟩
          exact ⟨_, rfl, hKQ.out _ _ (hI.put 2 15 rfl rfl (by rw [hz]; decide) rfl hUN rfl HBB (bk5_stb an nn cn y m D w.heap.size wo.heap.size (w.heap.size)) hb rfl)⟩
        · intro lQ b W hI hUN hED KQ hKQ
          have hg := (hI.vot 5 (of_decide_eq_true rfl) (of_decide_eq_true rfl) rfl)
          refine wp_load_row 63 _ rfl (wo.heap.size) ((hI.fr.same 5 (by decide)).trans g5) 63 #[.slice an nn cn, .int .i64 y.ser, .int .i64 y.tm, .int .i64 y.rs] (0, 0) _ hg Tryd.underlying63 rfl (by kernel_rfl) ?_
          exact hKQ.out _ _ (hI.put 3 16 rfl rfl (by rw [hz]; decide) rfl hUN rfl HBB (bk5_stb an nn cn y m D w.heap.size wo.heap.size (w.heap.size)) (Below.refl _ _) rfl)
        · intro lQ b W hI hUN hED KQ hKQ
          have f0 : aT b 13 = .map (some w.heap.size) := hI.got 0 (of_decide_eq_true rfl) (edge hED 0 (by kernel_rfl)) rfl
          have f1 : aT b 15 = .agg #[.string (ftS y.parts), .int .i64 y.ser] := hI.got 2 (of_decide_eq_true rfl) (edge hED 2 (by kernel_rfl)) rfl
          have f2 : aT b 16 = .agg #[.slice an nn cn, .int .i64 y.ser, .int .i64 y.tm, .int .i64 y.rs] := hI.got 3 (of_decide_eq_true rfl) (edge hED 3 (by kernel_rfl)) rfl
          have hM : MpO w.heap.size m D W := hI.vot1 6 4 (of_decide_eq_true rfl) (of_decide_eq_true rfl) hUN rfl
          have hbx : W.heap[wo.heap.size]? = some (.cells #[.slice an nn cn, .int .i64 y.ser, .int .i64 y.tm, .int .i64 y.rs] 63 (0, 0)) := hI.vot 5 (of_decide_eq_true rfl) (of_decide_eq_true rfl) rfl
          refine opw_mapUpdate 13 15 16 _ rfl 99 63 kLaw Tryd.underlying95 RG w.heap.size m D f0 hM HMM _ _ (.string (kb y)) f1 f2 HKI.out (.lit (.bool true)) [] rfl ?_
          intro W2 hM2 hgr
          refine hKQ.out _ _ (hI.store 4 (fun j hj => by cases hj) (hI.bel.grown hgr (Nat.le_trans HBB hI.bel.size) (fun q hq => by cases hq; exact Nat.le_refl _)) (fun k hk hne hkill v hfact => ?_) hM2)
          match k, hk, hne, hkill, hfact with
          | 0, _, _, _, hq => exact hq
          | 1, _, _, _, hq => exact hq
          | 2, _, _, _, hq => exact hq
          | 3, _, _, _, hq => exact hq
          | 4, _, hne, _, _ => exact absurd rfl hne
          | 5, _, _, _, hq => exact (hgr.block _ (Array.getElem?_eq_some_iff.1 hbx).1 (by intro e; simp only [Option.some.injEq] at e; omega)).trans hq
          | 6, _, _, hkill, _ => exact absurd (List.Mem.head _) hkill
          | k + 7, hk, _, _, _ => exact absurd hk (by show ¬ (k + 7 < 7); omega)
      · intro b W hf hb F
        have hk := F 4 (of_decide_eq_true rfl) rfl
        rw [hf.eq]
        simp only [puts, Act.put, List.setIfInBounds_toArray, List.set_cons_zero, List.set_cons_succ]
        clear hf F
        have HM2 : Hid (MpO w.heap.size (m + 1) (D.put (.string (kb y)) (.lit (.bool true))) W) := hk
        clear hk
        have HM3 : Hid (MpO w.heap.size (k + 1) (Sn xs (k + 1)) W) := by show MpO _ _ _ _; rw [HSS.out, ← hm]; exact HM2.out
        have hB2 : Below w.heap.size w W := hB1.trans hb
        clear HM2
        generalize aT b = AT
        clear b
        go_wp2
        go_roundw
        case rel => exact ⟨k + 1, by omega, by go_num, HM3.out, hB2⟩
        case measure => simp [intOf]; omega
    · have hkn' : k = n := by omega
      subst hkn'
      have hni : ¬ ((k : Int) < (k : Int)) := by omega
      go_wp2
      go_ret
      exact ⟨rfl, HM.out, hbr⟩

end Go.Proofs.YtbfjkmlmnhphoaaDoor

set_option linter.unusedVariables false
namespace Go.Proofs.YtbfjkmlmnhphoaaDoor
open Go.RowKit Go.Maps

/-- What a list's map says of an entry: its very value. -/
def RV : Value → Option (DataW Value × List MemPlace) := fun v => some (.held v, [])
/-- Entry k of the slice at a, as a value. -/
def entV (w : World) (a : Option Addr) (k : Nat) : Value := match a with
  | some ⟨b, off, none⟩ => .agg #[(w.cell? ⟨b, off + k * 4, none⟩).getD undef, (w.cell? ⟨b, off + k * 4 + 1, none⟩).getD undef, (w.cell? ⟨b, off + k * 4 + 2, none⟩).getD undef, (w.cell? ⟨b, off + k * 4 + 3, none⟩).getD undef]
  | _ => undef
theorem entV_eq {w : World} {b off k : Nat} {an : Option Addr} {nn cn : Nat} {y : GP} (h : Cells4 w b (off + k * 4) an nn cn y) : entV w (some ⟨b, off, none⟩) k = .agg #[.slice an nn cn, .int .i64 y.ser, .int .i64 y.tm, .int .i64 y.rs] := by
  obtain ⟨d0, d1, d2, d3⟩ := h
  simp only [entV, d0, d1, d2, d3, Option.getD_some]
def Vn (w : World) (a : Option Addr) (xs : List GP) (k : Nat) : DataW Value := (List.range k).foldl (fun D j => D.put (.string (kb (xs.getD j default))) (.held (entV w a j))) (.map [])
theorem Vn_zero (w : World) (a : Option Addr) (xs : List GP) : Vn w a xs 0 = .map [] := rfl
theorem Vn_succ (w : World) (a : Option Addr) (xs : List GP) (k : Nat) : Vn w a xs (k + 1) = (Vn w a xs k).put (.string (kb (xs.getD k default))) (.held (entV w a k)) := by
  unfold Vn
  rw [List.range_succ, List.foldl_append]
  rfl
def MpV (b n : Nat) (D : DataW Value) (w : World) : Prop := w.ownsMap Tryd.prog 99 RV b n D
theorem MpV.kept {b n : Nat} {D : DataW Value} {w w' : World} (h : MpV b n D w) (hb : Below w.heap.size w w') : MpV b n D w' := by
  have hl := World.ownsMap.lt h
  obtain ⟨es, clock, he, F, hs, hd⟩ := h
  exact ⟨es, clock, (hb.block b hl).trans he, F, hs, hd⟩

/-- What is known of a region (RJ). -/
def bv5 (an : Option Addr) (nn cn : Nat) (y : GP) (m : Nat) (D : DataW Value) (G go B : Nat) : RSpec where
  m := 5
  n := 7
  slots := [13, 14, 15, 16, 100004, 100005, 100006]
  kills := [[], [], [], [], [], [], [4]]
  pres := [[], [], [], [], [], [], []]
  fact := fun k v w => match k with
    | 0 => v = .map (some G)
    | 1 => v = .agg #[.slice an nn cn, .int .i64 y.ser, .int .i64 y.tm, .int .i64 y.rs]
    | 2 => v = .agg #[.string (ftS y.parts), .int .i64 y.ser]
    | 3 => v = .agg #[.slice an nn cn, .int .i64 y.ser, .int .i64 y.tm, .int .i64 y.rs]
    | 4 => MpV G (m + 1) (D.put (.string (kb y)) (.held (.agg #[.slice an nn cn, .int .i64 y.ser, .int .i64 y.tm, .int .i64 y.rs]))) w
    | 5 => w.heap[go]? = some (.cells #[.slice an nn cn, .int .i64 y.ser, .int .i64 y.tm, .int .i64 y.rs] 63 (0, 0))
    | _ => MpV G m D w
set_option linter.unusedVariables false in
theorem bv5_stb (an : Option Addr) (nn cn : Nat) (y : GP) (m : Nat) (D : DataW Value) (G go B : Nat) (k : Nat) (hk : k < 7) : StB ((bv5 an nn cn y m D G go (B)).fact k) := by
  match k, hk with
  | 0, _ => exact fun _ _ _ h _ => h
  | 1, _ => exact fun _ _ _ h _ => h
  | 2, _ => exact fun _ _ _ h _ => h
  | 3, _ => exact fun _ _ _ h _ => h
  | 4, _ => exact fun _ _ _ q_0 hb => q_0.kept hb
  | 5, _ => exact fun _ _ _ q_0 hb => below_kept q_0 hb
  | 6, _ => exact fun _ _ _ q_0 hb => q_0.kept hb
  | k + 7, hk => omega

set_option maxRecDepth 100000 in
set_option maxRecDepth 10000 in
set_option maxHeartbeats 4000000 in
theorem byKeyV_any (a : Option Addr) (n c : Nat) (xs : List GP) (w : World) (htab : Lib.TabIs Tryd.prog w "internal/strconv.uint64pow10" .u64 Lib.pow10Tab) (h : Gns w a n xs) (hn : n ≤ 1000) (hp : ∀ k, k < n → nameP (xs.getD k default).parts ∧ (Lit.int .i64 (xs.getD k default).ser).wf = true) :
    Calls Tryd.prog 72 #[.slice a n c] w fun e w' => e = .returned (.map (some w.heap.size)) ∧ MpV w.heap.size n (Vn w a xs n) w' ∧ Below w.heap.size w w' := by
  have hmm := @run_makeMap Tryd.prog
  have HK : Hid (Gns w a n xs) := h
  have HP : Hid (∀ k, k < n → nameP (xs.getD k default).parts ∧ (Lit.int .i64 (xs.getD k default).ser).wf = true) := hp
  have HT : Hid (∀ W, Below w.heap.size w W → Lib.TabIs Tryd.prog W "internal/strconv.uint64pow10" .u64 Lib.pow10Tab) := fun W hW => Lib.tabBelow_of_tabIs htab W hW
  have HL : Hid (xs.length = n) := h.len
  clear h hp htab
  go_enter Tryd.func72, Tryd.ntmps72
  go_wp2
  go_loopw [9] (fun i wr => ∃ k : Nat, k ≤ n ∧ i = .int .i64 k ∧ Hid (MpV w.heap.size k (Vn w a xs k) wr) ∧ Below w.heap.size w wr) (fun i _ => n - (intOf i).toNat)
  case atStart => exact ⟨0, Nat.zero_le _, rfl, by rw [Vn_zero]; exact World.ownsMap_made _ _ _ _, (Below.refl _ _).alloc (Nat.le_refl _) _⟩
  case round =>
    obtain ⟨wo, hwo⟩ : ∃ wo, wo = wr := ⟨_, rfl⟩
    subst hwo
    obtain ⟨k, hk, rfl, HM, hbr⟩ := hrel
    by_cases hkn : k < n
    · obtain ⟨b1, off1, an, nn, cn, rfl, hl1, hc1, hp1⟩ := HK.out.get k hkn
      have hpk := HP.out k hkn
      obtain ⟨y, hy⟩ : ∃ y, y = xs.getD k default := ⟨_, rfl⟩
      rw [← hy] at hc1 hp1 hpk
      have HSS : Hid (Vn w (some ⟨b1, off1, none⟩) xs (k + 1) = (Vn w (some ⟨b1, off1, none⟩) xs k).put (.string (kb y)) (.held (.agg #[.slice an nn cn, .int .i64 y.ser, .int .i64 y.tm, .int .i64 y.rs]))) := by show _ = _; rw [Vn_succ, ← hy, entV_eq hc1]
      obtain ⟨d0, d1, d2, d3⟩ := hc1.of (w' := wo) (fun i => hbr.cell (p := ⟨b1, i, none⟩) hl1)
      obtain ⟨W1, hW1⟩ : ∃ W1, W1 = wo.alloc (.cells #[.slice an nn cn, .int .i64 y.ser, .int .i64 y.tm, .int .i64 y.rs] 63) := ⟨_, rfl⟩
      have hbW : Below wo.heap.size wo W1 := by rw [hW1]; exact (Below.refl _ _).alloc (Nat.le_refl _) _
      have HE1 : Hid (W1.heap[wo.heap.size]? = some (.cells #[.slice an nn cn, .int .i64 y.ser, .int .i64 y.tm, .int .i64 y.rs] 63 (0, 0))) := by show _ = _; rw [hW1]; exact heap_alloc_new wo _
      have hB1 : Below w.heap.size w W1 := hbr.trans (hbW.mono hbr.size)
      have hml := World.ownsMap.lt HM.out
      have HM1 : Hid (MpV w.heap.size k (Vn w (some ⟨b1, off1, none⟩) xs k) W1) := HM.out.kept hbW
      have HKO : Hid (∀ W, Below w.heap.size W1 W → Calls Tryd.prog 76 #[.agg #[.slice an nn cn, .int .i64 y.ser, .int .i64 y.tm, .int .i64 y.rs]] W fun e w' => e = .returned (.agg #[.string (ftS y.parts), .int .i64 y.ser]) ∧ Below W.heap.size W w') := fun W hW => goneKey_any an nn cn y W (HT.out W (hB1.trans hW)) (hp1.kept (hB1.trans hW)) hpk.1
      have HKI : Hid (Go.keyOf Tryd.prog 99 (.agg #[.string (ftS y.parts), .int .i64 y.ser]) = some (.string (kb y))) := key_is (by
        show (fbs y.parts).toArray.size ≤ maxLen
        have h1 := fbs_len y.parts (nameP_all hpk.1)
        have h2 := hpk.1.1
        rw [List.size_toArray]
        unfold maxLen
        omega) hpk.2
      have HMM : k < maxLen := by unfold maxLen; omega
      have HBB : w.heap.size ≤ W1.heap.size := hB1.size
      have hkni : (k : Int) < (n : Int) := by omega
      obtain ⟨D, hD⟩ : ∃ D, D = Vn w (some ⟨b1, off1, none⟩) xs k := ⟨_, rfl⟩
      rw [← hD] at HM1 HSS
      obtain ⟨m, hm⟩ : ∃ m, m = k := ⟨_, rfl⟩
      have HW1 : Hid (_ = _) := hW1
      clear hW1 hc1 hp1 hy hbW hpk HM hD
      go_upto_region 5 with fail
      rw [← HW1.out]
      clear HW1 d0 d1 d2 d3
      rw [← hm] at HM1 HMM
      refine wp_region_ri (bv5 an nn cn y m D w.heap.size wo.heap.size (w.heap.size)) [13, 14, 15, 16] (w.heap.size) (fun a0 => a0.tmps.size = 19 ∧ aT a0 3 = .map (some w.heap.size) ∧ aT a0 5 = .pointer (some ⟨wo.heap.size, 0, none⟩)) (by kernel_rfl) rfl (by kernel_rfl) rfl ⟨rfl, rfl, rfl⟩ (bv5_stb an nn cn y m D w.heap.size wo.heap.size (w.heap.size)) ?_ ?_ ?_
      · intro k hk hk2
        match k, hk, hk2 with
        | 5, _, _ => exact HE1.out
        | 6, _, _ => exact HM1.out
        | 0, hk, _ => exact absurd hk (by show ¬ (5 ≤ 0); omega)
        | 1, hk, _ => exact absurd hk (by show ¬ (5 ≤ 1); omega)
        | 2, hk, _ => exact absurd hk (by show ¬ (5 ≤ 2); omega)
        | 3, hk, _ => exact absurd hk (by show ¬ (5 ≤ 3); omega)
        | 4, hk, _ => exact absurd hk (by show ¬ (5 ≤ 4); omega)
        | k + 7, _, hk2 => exact absurd hk2 (by show ¬ (k + 7 < 7); omega)
      · rintro a0 ⟨hz, g3, g5⟩
        refine StepsRI.cons ?_ (StepsRI.cons ?_ (StepsRI.cons ?_ (StepsRI.cons ?_ (StepsRI.cons ?_ (StepsRI.nil)))))
        · intro lQ b W hI hUN hED KQ hKQ
          exact opw_move 3 rfl (hKQ.out _ _ (hI.put 0 13 rfl rfl (by rw [hz]; decide) rfl hUN rfl HBB (bv5_stb an nn cn y m D w.heap.size wo.heap.size (w.heap.size)) (Below.refl _ _) ((hI.fr.same 3 (by decide)).trans g3)))
        · intro lQ b W hI hUN hED KQ hKQ
          have hg := (hI.vot 5 (of_decide_eq_true rfl) (of_decide_eq_true rfl) rfl)
          refine wp_load_row 63 _ rfl (wo.heap.size) ((hI.fr.same 5 (by decide)).trans g5) 63 #[.slice an nn cn, .int .i64 y.ser, .int .i64 y.tm, .int .i64 y.rs] (0, 0) _ hg Tryd.underlying63 rfl (by kernel_rfl) ?_
          exact hKQ.out _ _ (hI.put 1 14 rfl rfl (by rw [hz]; decide) rfl hUN rfl HBB (bv5_stb an nn cn y m D w.heap.size wo.heap.size (w.heap.size)) (Below.refl _ _) rfl)
        · intro lQ b W hI hUN hED KQ hKQ
          have f0 := hI.got 1 (of_decide_eq_true rfl) (edge hED 1 (by kernel_rfl)) rfl
          replace f0 : aT b 14 = .agg #[.slice an nn cn, .int .i64 y.ser, .int .i64 y.tm, .int .i64 y.rs] := f0
          refine opw_call 76 #[.tmp 14] _ _ _ rfl Tryd.func76 (by kernel_rfl) rfl #[.agg #[.slice an nn cn, .int .i64 y.ser, .int .i64 y.tm, .int .i64 y.rs]] (by simp [ev, f0]) ?_
          refine (HKO.out W hI.bel).mono ?_
          rintro e W2 ⟨rfl, hb⟩
          exact ⟨_, rfl, hKQ.out _ _ (hI.put 2 15 rfl rfl (by rw [hz]; decide) rfl hUN rfl HBB (bv5_stb an nn cn y m D w.heap.size wo.heap.size (w.heap.size)) hb rfl)⟩
        · intro lQ b W hI hUN hED KQ hKQ
          have hg := (hI.vot 5 (of_decide_eq_true rfl) (of_decide_eq_true rfl) rfl)
          refine wp_load_row 63 _ rfl (wo.heap.size) ((hI.fr.same 5 (by decide)).trans g5) 63 #[.slice an nn cn, .int .i64 y.ser, .int .i64 y.tm, .int .i64 y.rs] (0, 0) _ hg Tryd.underlying63 rfl (by kernel_rfl) ?_
          exact hKQ.out _ _ (hI.put 3 16 rfl rfl (by rw [hz]; decide) rfl hUN rfl HBB (bv5_stb an nn cn y m D w.heap.size wo.heap.size (w.heap.size)) (Below.refl _ _) rfl)
        · intro lQ b W hI hUN hED KQ hKQ
          have f0 : aT b 13 = .map (some w.heap.size) := hI.got 0 (of_decide_eq_true rfl) (edge hED 0 (by kernel_rfl)) rfl
          have f1 : aT b 15 = .agg #[.string (ftS y.parts), .int .i64 y.ser] := hI.got 2 (of_decide_eq_true rfl) (edge hED 2 (by kernel_rfl)) rfl
          have f2 : aT b 16 = .agg #[.slice an nn cn, .int .i64 y.ser, .int .i64 y.tm, .int .i64 y.rs] := hI.got 3 (of_decide_eq_true rfl) (edge hED 3 (by kernel_rfl)) rfl
          have hM : MpV w.heap.size m D W := hI.vot1 6 4 (of_decide_eq_true rfl) (of_decide_eq_true rfl) hUN rfl
          have hbx : W.heap[wo.heap.size]? = some (.cells #[.slice an nn cn, .int .i64 y.ser, .int .i64 y.tm, .int .i64 y.rs] 63 (0, 0)) := hI.vot 5 (of_decide_eq_true rfl) (of_decide_eq_true rfl) rfl
          refine opw_mapUpdate 13 15 16 _ rfl 99 63 kLaw Tryd.underlying95 RV w.heap.size m D f0 hM HMM _ _ (.string (kb y)) f1 f2 HKI.out (.held (.agg #[.slice an nn cn, .int .i64 y.ser, .int .i64 y.tm, .int .i64 y.rs])) [] rfl ?_
          intro W2 hM2 hgr
          refine hKQ.out _ _ (hI.store 4 (fun j hj => by cases hj) (hI.bel.grown hgr (Nat.le_trans HBB hI.bel.size) (fun q hq => by cases hq; exact Nat.le_refl _)) (fun k hk hne hkill v hfact => ?_) hM2)
          match k, hk, hne, hkill, hfact with
          | 0, _, _, _, hq => exact hq
          | 1, _, _, _, hq => exact hq
          | 2, _, _, _, hq => exact hq
          | 3, _, _, _, hq => exact hq
          | 4, _, hne, _, _ => exact absurd rfl hne
          | 5, _, _, _, hq => exact (hgr.block _ (Array.getElem?_eq_some_iff.1 hbx).1 (by intro e; simp only [Option.some.injEq] at e; omega)).trans hq
          | 6, _, _, hkill, _ => exact absurd (List.Mem.head _) hkill
          | k + 7, hk, _, _, _ => exact absurd hk (by show ¬ (k + 7 < 7); omega)
      · intro b W hf hb F
        have hk := F 4 (of_decide_eq_true rfl) rfl
        rw [hf.eq]
        simp only [puts, Act.put, List.setIfInBounds_toArray, List.set_cons_zero, List.set_cons_succ]
        clear hf F
        have HM2 : Hid (MpV w.heap.size (m + 1) (D.put (.string (kb y)) (.held (.agg #[.slice an nn cn, .int .i64 y.ser, .int .i64 y.tm, .int .i64 y.rs]))) W) := hk
        clear hk
        have HM3 : Hid (MpV w.heap.size (k + 1) (Vn w (some ⟨b1, off1, none⟩) xs (k + 1)) W) := by show MpV _ _ _ _; rw [HSS.out, ← hm]; exact HM2.out
        have hB2 : Below w.heap.size w W := hB1.trans hb
        clear HM2
        generalize aT b = AT
        clear b
        go_wp2
        go_roundw
        case rel => exact ⟨k + 1, by omega, by go_num, HM3.out, hB2⟩
        case measure => simp [intOf]; omega
    · have hkn' : k = n := by omega
      subst hkn'
      have hni : ¬ ((k : Int) < (k : Int)) := by omega
      go_wp2
      go_ret
      exact ⟨rfl, HM.out, hbr⟩

end Go.Proofs.YtbfjkmlmnhphoaaDoor
