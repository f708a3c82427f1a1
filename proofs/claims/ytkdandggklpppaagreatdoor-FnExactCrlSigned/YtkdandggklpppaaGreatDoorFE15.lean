import Derived.Test.YtkdandggklpppaaGreatDoorFE14
import Derived.Test.YtkdandggklpppaaGreatDoorFE09
set_option maxRecDepth 10000
set_option maxHeartbeats 8000000
set_option linter.unusedVariables false
namespace Go.Proofs.YtkdandggklpppaaGreatDoor
open Go.RowKit
theorem take_snoc (l:List Int)(k:Nat)(h:k<l.length):l.take (k+1)=l.take k++[l.getD k 0]:=by
 have e:l.getD k 0=l[k]:=by simp [h]
 rw [List.take_succ_eq_append_getElem h,e]
def eightI (v:Int):List Int:=eight v.toNat
theorem eightI_len (v:Int):(eightI v).length=8:=rfl
theorem eightI_byte (v:Int):∀ k,0≤(eightI v).getD k 0∧(eightI v).getD k 0≤255:=eight_byte _
theorem digestBytes_any (v:Int)(w:World)(h0:0≤v)(h1:v≤18446744073709551615) :
  Calls Tryz.prog 174 #[.int .u64 v] w fun e w'=>∃ g,e=.returned (.slice (some ⟨g,0,none⟩) 8 8)∧Row w' (some ⟨g,0,none⟩) 8 (eightI v)∧(∃ cs fr,w'.heap[g]? = some (.cells cs 148 fr))∧Below w.heap.size w w':=by
 obtain ⟨n,rfl⟩:=Int.eq_ofNat_of_zero_le h0
 go_enter Tryz.func174,Tryz.ntmps174
 go_wp2_with fail
 refine (eight_any n _ h1).mono ?_
 rintro e w1 ⟨x0,x1,x2,x3,x4,x5,x6,x7,rfl,hx,hb1⟩
 have HX:Hid (_=_):=hx
 have HB1:Hid (_):=hb1
 clear hx hb1
 go_wp2
 go_ret
 refine ⟨w1.heap.size,rfl,⟨eightI_len _,fun k hk=>⟨w1.heap.size,0,rfl,by simp,?_⟩,eightI_byte _⟩,⟨_,_,heap_alloc_new w1 _⟩,HB1.out.alloc HB1.out.size _⟩
 rw [Nat.zero_add,cell_of_row _ w1.heap.size k _ 148 _ (heap_alloc_new w1 _)]
 have e:eightI (n:Int) = [x0,x1,x2,x3,x4,x5,x6,x7]:=by rw [HX.out]; rfl
 rw [e]
 match k,hk with
 | 0,_ | 1,_ | 2,_ | 3,_ | 4,_ | 5,_ | 6,_ | 7,_=>rfl
theorem eight_at (n q:Nat)(h:q≤7):(n:Int) / 2 ^ (8 * q) % 256=(eightI (n:Int)).getD (7 - q) 0:=by
 have e:eightI (n:Int)=eight n:=rfl
 rw [e]
 match q,h with
 | 0,_=>simp [eight]
 | 1,_=>simp [eight]
 | 2,_=>simp [eight]
 | 3,_=>simp [eight]
 | 4,_=>simp [eight]
 | 5,_=>simp [eight]
 | 6,_=>simp [eight]
 | 7,_=>simp [eight]
theorem l1Eight_any (v:Int)(w:World)(h0:0≤v)(h1:v≤18446744073709551615) :
  Calls Tryz.prog 97 #[.int .u64 v] w fun e w'=>∃ a cap,e=.returned (.slice a 8 cap)∧Own w.heap.size w' a 8 cap (eightI v)∧Below w.heap.size w w':=by
 obtain ⟨i0,hi,hz0,hz1,hz2⟩:=info_parts Tryz.info5
 obtain ⟨n,rfl⟩:=Int.eq_ofNat_of_zero_le h0
 have hoe:=own_empty w
 have hbe:Below w.heap.size w (w.alloc (.cells #[] 5)):=(Below.refl _ _).alloc (Nat.le_refl _) _
 go_enter Tryz.func97,Tryz.ntmps97
 go_wp2
 go_loopw [3,4] (fun o i wr=>∃ (a:Option Addr) (q len cap:Nat),q≤8∧len=8 - q∧i=.int .i64 ((q:Int) - 1)∧o=.slice a len cap∧Own w.heap.size wr a len cap ((eightI (n:Int)).take (8 - q))∧Below w.heap.size w wr) (fun _ i _=>((intOf i)+1).toNat)
 case atStart=>exact ⟨_,8,0,0,Nat.le_refl _,rfl,rfl,rfl,hoe,hbe⟩
 case round =>
  obtain ⟨a,q,len,cap,hq,hle,rfl,rfl,hor,hbr⟩:=hrel
  have HLe:Hid (len=8 - q):=hle
  clear hle
  rcases q with _ | q
  ·go_wp2
   go_ret
   obtain rfl:len=8:=HLe.out
   exact ⟨_,_,rfl,hor,hbr⟩
  ·have e1:((q+1:Nat):Int) - 1=(q:Int):=by omega
   rw [e1]
   clear e1
   have hl9:len≤9:=by have:=HLe.out; omega
   have hq7:q≤7:=by omega
   have hws:w.heap.size≤wr.heap.size:=hbr.size
   have HE:Hid (_=_):=eight_at n q hq7
   go_wp2_with (at_builtin; go_loud (refine wpList_append_own _ rfl _ _ 26 rfl w.heap.size 5 i0 (.int .u8 0) 1 1 Tryz.underlying26 hi hz0 hz1 hz2 rfl (by decide) _ _ _ rfl (hor.row.alloc _) ⟨wr.heap.size,0,none⟩ 1 1 [_] rfl rfl (cell_one_new _ _ _) (by intro u hu; simp at hu; subst hu; rfl) (by unfold maxLen; omega) (by omega) (by simp; omega) ?_); intro v' w1 hown' hgrow' _)
   have hb1:Below w.heap.size w w1:=below_appended (hbr.alloc hws _) (by simp; omega) (hor.row.alloc _) hgrow'
   rw [HE.out] at hown'
   obtain ⟨a',cap',rfl,ho⟩:=own_appended (ys:=[(eightI (n:Int)).getD (7 - q) 0]) hown' hor.byte (by simpa using snoc_byte (xs:=[]) (by simp) _ (eightI_byte (n:Int) (7 - q)))
   have e2:(eightI (n:Int)).take (8 - (q+1))++[(eightI (n:Int)).getD (7 - q) 0]=(eightI (n:Int)).take (8 - q):=by
    rw [show 8 - q=7 - q+1 by omega,show 8 - (q+1)=7 - q by omega,take_snoc _ _ (by rw [eightI_len]; omega)]
   rw [e2] at ho
   go_roundw
   case rel=>exact ⟨a',q,len+1,cap',by omega,by have:=HLe.out; omega,rfl,rfl,ho,hb1⟩
   case measure=>simp [intOf]
open Go.RowKit
structure RowU (w:World)(a:Option Addr)(n:Nat)(zs:List Int):Prop where
 len:zs.length=n
 get:∀ k,k<n→∃ b off,a=some ⟨b,off,none⟩∧b<w.heap.size∧w.cell? ⟨b,off+k,none⟩=some (.int .u64 (zs.getD k 0))
 rng:∀ k,U64 (zs.getD k 0)
theorem RowU.kept {w w':World}{a:Option Addr}{n:Nat}{zs:List Int}(h:RowU w a n zs)(hb:Below w.heap.size w w'):RowU w' a n zs:=by
 refine ⟨h.len,fun k hk=>?_,h.rng⟩
 obtain ⟨b,off,ha,hlt,hc⟩:=h.get k hk
 exact ⟨b,off,ha,Nat.lt_of_lt_of_le hlt hb.size,(hb.cell (p:=⟨b,off+k,none⟩) hlt).trans hc⟩
theorem RowU.take {w:World}{a:Option Addr}{n:Nat}{zs:List Int}(h:RowU w a n zs)(k:Nat)(hk:k≤n):RowU w a k (zs.take k):=by
 refine ⟨by rw [List.length_take,h.len]; omega,fun j hj=>?_,fun j=>?_⟩
 ·obtain ⟨b,off,ha,hb,hc⟩:=h.get j (by omega)
  exact ⟨b,off,ha,hb,hc.trans (by simp [hj])⟩
 ·have:=h.rng j
  rw [List.getD_eq_getElem?_getD,List.getElem?_take]
  split
  ·simpa [List.getD_eq_getElem?_getD] using this
  ·simp [U64]
structure OwnU (B:Nat)(w:World)(a:Option Addr)(n cap:Nat)(zs:List Int):Prop where
 row:w.ownsRow B 29 1 (.slice a n cap) n (zs.map (Value.int .u64))
 rng:∀ k,U64 (zs.getD k 0)
theorem OwnU.len {B:Nat}{w:World}{a:Option Addr}{n cap:Nat}{zs:List Int}(h:OwnU B w a n cap zs):zs.length=n:=by simpa using h.row.1
theorem OwnU.shape {B:Nat}{w:World}{a:Option Addr}{n cap:Nat}{zs:List Int}(h:OwnU B w a n cap zs)(hn:0<n):∃ g,a=some ⟨g,0,none⟩∧B≤g∧g<w.heap.size:=by
 rcases h.row.2 with ⟨_,h0⟩ | ⟨g,cap',cur,hv,hb,hg,_⟩
 ·omega
 ·simp only [Value.slice.injEq] at hv
  exact ⟨g,hv.1,hb,(Array.getElem?_eq_some_iff.1 hg).1⟩
theorem OwnU.toRow {B:Nat}{w:World}{a:Option Addr}{n cap:Nat}{zs:List Int}(h:OwnU B w a n cap zs):RowU w a n zs:=by
 refine ⟨h.len,fun k hk=>?_,h.rng⟩
 obtain ⟨g,rfl,_,hg⟩:=h.shape (by omega)
 refine ⟨g,0,rfl,hg,?_⟩
 rw [Nat.zero_add,World.ownsRow.cellAt h.row k (by omega)]
 have:=h.len
 simp [show k<zs.length by omega]
theorem OwnU.kept {B:Nat}{w w':World}{a:Option Addr}{n cap:Nat}{zs:List Int}(h:OwnU B w a n cap zs)(hb:Below w.heap.size w w'):OwnU B w' a n cap zs:=⟨ownsRow_below h.row hb,h.rng⟩
theorem ownU_appended {B:Nat}{w:World}{v:Value}{m:Nat}{zs:List Int}(hz:∀ k,U64 (zs.getD k 0))(h:w.ownsRow B 29 1 v m (zs.map (Value.int .u64))):∃ a cap,v=.slice a m cap∧OwnU B w a m cap zs:=by
 rcases h.2 with ⟨rfl,rfl⟩ | ⟨g,cap,cur,rfl,_⟩
 ·exact ⟨_,_,rfl,h,hz⟩
 ·exact ⟨_,_,rfl,h,hz⟩
theorem u64_set {zs:List Int}(h:∀ k,U64 (zs.getD k 0))(i:Nat){x:Int}(hx:U64 x):∀ k,U64 ((zs.set i x).getD k 0):=by
 intro k
 have:=h k
 rw [List.getD_eq_getElem?_getD] at this
 rw [List.getD_eq_getElem?_getD,List.getElem?_set]
 split
 ·split
  ·exact hx
  ·simp [U64]
 ·exact this
theorem u64_rep (n:Nat):∀ k,U64 ((List.replicate n (0:Int)).getD k 0):=by
 intro k
 rw [List.getD_eq_getElem?_getD,List.getElem?_replicate]
 split <;> simp [U64]
theorem u64_half {zs:List Int}(h:∀ k,U64 (zs.getD k 0))(j:Nat):∀ k,U64 ((half zs j).getD k 0):=by
 intro k
 unfold half
 rw [List.getD_eq_getElem?_getD,List.getElem?_append]
 split
 ·rw [List.getElem?_take]
  split
  ·simpa [List.getD_eq_getElem?_getD] using h k
  ·simp [U64]
 ·rw [List.getElem?_replicate]
  split <;> simp [U64]
theorem ownU_empty (w:World):OwnU w.heap.size (w.alloc (.cells #[] 29)) (some ⟨w.heap.size,0,none⟩) 0 0 [] :=
 ⟨World.ownsRow_lit w #[] 0 (Nat.le_refl _) (Nat.zero_le _) rfl,by simp [U64]⟩
theorem ownU_none (B:Nat)(w:World):OwnU B w none 0 0 []:=⟨World.ownsRow_nil _ _ _ _,by simp [U64]⟩
abbrev Part:=Option Addr × Nat × Nat × List Int
def pval (p:Part):Value:=.slice p.1 p.2.1 p.2.2.1
def TyB (w:World)(a:Option Addr):Prop:=∀ b off s,a=some ⟨b,off,s⟩→∃ cs t fr,w.heap[b]? = some (.cells cs t fr)∧t≠26
theorem TyB.kept {w w':World}{a:Option Addr}(h:TyB w a)(hb:Below w.heap.size w w'):TyB w' a:=by
 intro b off s e
 obtain ⟨cs,t,fr,h1,h2⟩:=h b off s e
 exact ⟨cs,t,fr,(hb.block _ (Array.getElem?_eq_some_iff.1 h1).1).trans h1,h2⟩
theorem Own.ty {B:Nat}{w:World}{a:Option Addr}{n cap:Nat}{bs:List Int}(h:Own B w a n cap bs):TyB w a:=by
 intro b off s e
 rcases h.row.2 with ⟨hv,_⟩ | ⟨g,cap',cur,hv,hb,hg,_⟩
 ·simp only [Value.slice.injEq] at hv; rw [hv.1] at e; cases e
 ·simp only [Value.slice.injEq] at hv
  rw [hv.1] at e
  simp at e
  obtain ⟨rfl,_⟩:=e
  exact ⟨cur,5,(0,0),hg,by decide⟩
structure Good (w:World)(p:Part):Prop where
 row:Row w p.1 p.2.1 p.2.2.2
 nil:p.1=none→p.2.2.1=0
 ty:TyB w p.1
theorem Good.kept {w w':World}{p:Part}(h:Good w p)(hb:Below w.heap.size w w'):Good w' p:=⟨h.row.kept hb,h.nil,h.ty.kept hb⟩
structure OwnP (B:Nat)(w:World)(a:Option Addr)(n cap:Nat)(ps:List Part):Prop where
 row:w.ownsRow B 26 1 (.slice a n cap) n (ps.map pval)
 get:∀ p∈ps,Good w p
theorem OwnP.rows {B:Nat}{w:World}{a:Option Addr}{n cap:Nat}{ps:List Part}(h:OwnP B w a n cap ps):Rows2 w a n (ps.map fun p=>p.2.2.2):=by
 have hl:ps.length=n:=by simpa using h.row.1
 refine ⟨by simpa using hl,fun k hk=>?_⟩
 rcases h.row.2 with ⟨_,h0⟩ | ⟨g,cap',cur,hv,hb,hg,_⟩
 ·omega
 ·simp only [Value.slice.injEq] at hv
  obtain ⟨rfl,_,rfl⟩:=hv
  have hkl:k<ps.length:=by omega
  refine ⟨g,0,rfl,(Array.getElem?_eq_some_iff.1 hg).1,ps[k].1,ps[k].2.1,ps[k].2.2.1,?_,?_,(h.get ps[k] (List.getElem_mem hkl)).nil⟩
  ·rw [Nat.zero_add,World.ownsRow.cellAt h.row k (by omega)]
   simp [hkl,pval]
  ·have e:(ps.map fun p=>p.2.2.2).getD k []=ps[k].2.2.2:=by simp [hkl]
   rw [e]
   exact (h.get ps[k] (List.getElem_mem hkl)).row
theorem OwnP.kept {B:Nat}{w w':World}{a:Option Addr}{n cap:Nat}{ps:List Part}(h:OwnP B w a n cap ps)(hb:Below w.heap.size w w'):OwnP B w' a n cap ps :=
 ⟨ownsRow_below h.row hb,fun p hp=>(h.get p hp).kept hb⟩
theorem ownP_one (w:World)(p:Part)(h:Good w p):OwnP w.heap.size (w.alloc (.cells #[pval p] 26)) (some ⟨w.heap.size,0,none⟩) 1 1 [p] :=
 ⟨World.ownsRow_lit w #[pval p] 1 (Nat.le_refl _) (by unfold maxLen; omega) rfl,fun q hq=>by
  simp at hq
  subst hq
  exact h.kept ((Below.refl _ _).alloc (Nat.le_refl _) _)⟩
theorem ownP_appended {B n:Nat}{w w':World}{v vold:Value}{m:Nat}{ps:List Part}{p:Part}{xs:List Value}(hold:w.ownsRow B 26 1 vold n xs)(hv:w'.ownsRow B 26 1 v m ((ps++[p]).map pval))(hg:w.grownBy w' vold.ownBlock)
  (hps:∀ q∈ps,Good w q) (hp:Good w p):∃ a cap,v=.slice a m cap∧OwnP B w' a m cap (ps++[p]):=by
 have one:∀ b:Nat,(∃ cs t fr,w.heap[b]? = some (Obj.cells cs t fr)∧t≠26)→w'.heap[b]? = w.heap[b]?:=by
  intro b hb
  obtain ⟨cs,t,fr,h1,h2⟩:=hb
  refine hg.block b (Array.getElem?_eq_some_iff.1 h1).1 (fun e=>?_)
  rcases hold.2 with ⟨h',_⟩ | ⟨g,cap,cur,h',_,hgg,_⟩
  ·rw [h'] at e; cases e
  ·rw [h'] at e
   simp [Value.ownBlock] at e
   subst e
   rw [hgg] at h1
   simp at h1
   exact h2 h1.2.1.symm
 have key:∀ q,Good w q→Good w' q:=by
  intro q hq
  refine ⟨⟨hq.row.len,fun k hk=>?_,hq.row.byte⟩,hq.nil,fun b off s e=>?_⟩
  ·obtain ⟨b,off,ha,hb,hc⟩:=hq.row.get k hk
   exact ⟨b,off,ha,Nat.lt_of_lt_of_le hb hg.size,(World.cell?_of_block (a:=⟨b,off+k,none⟩) (one b (hq.ty b off none ha))).trans hc⟩
  ·obtain ⟨cs,t,fr,h1,h2⟩:=hq.ty b off s e
   exact ⟨cs,t,fr,(one b ⟨cs,t,fr,h1,h2⟩).trans h1,h2⟩
 have all:∀ q∈ps++[p],Good w' q:=by
  intro q hq
  rw [List.mem_append,List.mem_singleton] at hq
  rcases hq with h | rfl
  ·exact key q (hps q h)
  ·exact key q hp
 rcases hv.2 with ⟨rfl,rfl⟩ | ⟨g,cap,cur,rfl,r⟩
 ·exact ⟨_,_,rfl,hv,all⟩
 ·exact ⟨_,_,rfl,hv,all⟩
def strL (s:ByteArray):List Int:=(List.range s.size).map (cAt s)
theorem strL_len (s:ByteArray):(strL s).length=s.size:=by simp [strL]
theorem strL_get (s:ByteArray)(k:Nat)(h:k<s.size):(strL s).getD k 0=cAt s k:=by simp [strL,h]
theorem conv_strT (w:World)(s:ByteArray) :
  ∃ cp W,(convert 9 26 (.string s)).run Tryz.prog w=.ok (.slice (some ⟨w.heap.size,0,none⟩) s.size cp) W∧Good W (some ⟨w.heap.size,0,none⟩,s.size,cp,strL s)∧Below w.heap.size w W:=by
 have hr:=run_bytes_of_string (P:=Tryz.prog) w 9 26 5 s Tryz.underlying9 Tryz.underlying26 Tryz.underlying5
 obtain ⟨cp,hcp⟩:∃ cp,cp=grownCap w s.size 0 5:=⟨_,rfl⟩
 rw [← hcp] at hr
 refine ⟨cp,_,hr,⟨⟨strL_len s,fun k hk=>⟨w.heap.size,0,rfl,by simp,?_⟩,fun k=>?_⟩,(fun h=>by cases h),?_⟩,((Below.refl _ _).drew).alloc (Nat.le_refl _) _⟩
 ·rw [Nat.zero_add,cell_of_row _ w.heap.size k _ 5 _ (heap_alloc_new w.drew _),strL_get s k hk,cAt_get s k hk]
  have h1:k<s.data.size:=hk
  unfold bytesRow
  rw [Array.getElem?_append_left (by simpa using h1),Array.getElem?_map,Array.getElem?_eq_getElem h1]
  rfl
 ·by_cases hk:k<s.size
  ·rw [strL_get s k hk,cAt_get s k hk]
   have:=s[k].toNat_lt
   omega
  ·rw [List.getD_eq_getElem?_getD,List.getElem?_eq_none (by rw [strL_len]; omega)]; simp
 ·intro b off s' e
  simp at e
  obtain ⟨rfl,_⟩:=e
  exact ⟨_,5,_,heap_alloc_new w.drew _,by decide⟩
end Go.Proofs.YtkdandggklpppaaGreatDoor
