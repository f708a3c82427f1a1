import Derived.Test.YtmdfbnlgfhjnoaaGreatDoorFB01
set_option maxRecDepth 10000
set_option maxHeartbeats 8000000
set_option linter.unusedVariables false
namespace Go.Proofs.YtmdfbnlgfhjnoaaGreatDoor
open Go.RowKit
def marks (k n:Nat):List Int:=(List.range n).map fun i=>((k+i:Nat):Int) % 256
theorem marks_len (k n:Nat):(marks k n).length=n:=by simp [marks]
theorem marks_get (k n i:Nat)(h:i<n):(marks k n).getD i 0=((k+i:Nat):Int) % 256:=by simp [marks,h]
theorem marks_succ (k n:Nat):marks k (n+1)=marks k n++[((k+n:Nat):Int) % 256]:=by simp [marks,List.range_succ]
def mkd (bs:List Int)(k j:Nat):List Int:=marks k j++bs.drop j
theorem mkd_zero (bs:List Int)(k:Nat):mkd bs k 0=bs:=by simp [mkd,marks]
theorem mkd_all (bs:List Int)(k:Nat):mkd bs k bs.length=marks k bs.length:=by simp [mkd]
theorem mkd_set (bs:List Int)(k j:Nat)(h:j<bs.length):(mkd bs k j).set j (((k+j:Nat):Int) % 256)=mkd bs k (j+1):=by
 unfold mkd
 rw [List.drop_eq_getElem_cons h,set_append_mid _ _ _ _ _ (marks_len k j),marks_succ,List.append_assoc]
 rfl
theorem mkd_len (bs:List Int)(k j:Nat)(h:j≤bs.length):(mkd bs k j).length=bs.length:=by simp [mkd,marks_len]; omega
theorem grown_trans {a b c:World}{r:Option Nat}(h:a.grownBy b r)(k:b.grownBy c r):a.grownBy c r :=
 ⟨k.os.trans h.os,k.tape.trans h.tape,k.output.trans h.output,Nat.le_trans h.size k.size,fun i hi hr=>(k.block i (Nat.lt_of_lt_of_le hi h.size) hr).trans (h.block i hi hr)⟩
theorem markByteS_any (B:Nat)(a:Option Addr)(n cap k:Nat)(bs:List Int)(w:World)(h:Own B w a n cap bs)(hn:n≤1000000000)(hk:k≤1000000000) :
  Calls Tryz.prog 15 #[.slice a n cap,.int .i64 k] w fun e w'=>e=.returned (.int .i64 (k+n:Nat))∧Own B w' a n cap (marks k n)∧w.grownBy w' (Value.slice a n cap).ownBlock:=by
 have HL:Hid (bs.length=n):=h.length
 have H0:Hid (Own B w a n cap bs):=h
 clear h
 go_enter Tryz.func15,Tryz.ntmps15
 go_wp2
 go_loopw [1,5] (fun kk i wr=>∃ j:Nat,j≤n∧i=.int .i64 j∧kk=.int .i64 (k+j:Nat)∧Own B wr a n cap (mkd bs k j)∧w.grownBy wr (Value.slice a n cap).ownBlock) (fun _ i _=>n - (intOf i).toNat)
 case atStart=>exact ⟨0,Nat.zero_le _,rfl,rfl,by rw [mkd_zero]; exact H0.out,World.grownBy.refl _ _⟩
 case round =>
  obtain ⟨j,hj,rfl,rfl,hor,hgr⟩:=hrel
  by_cases hlt:j<n
  ·obtain ⟨g,rfl⟩:=hor.shape (by omega)
   have hfr:wr.frozen? ⟨g,j,none⟩=false:=hor.row.frozenAt j
   obtain ⟨y,hy⟩:∃ y,wr.cell? ⟨g,j,none⟩=some y:=⟨_,(hor.row.cellAt j (by omega)).trans (List.getElem?_eq_getElem (by simp [mkd_len bs k j (by have:=HL.out; omega),HL.out]; exact hlt))⟩
   have hs:=hor.store j (((k+j:Nat):Int) % 256) (by omega)
   rw [mkd_set bs k j (by have:=HL.out; omega)] at hs
   have hg2:=grown_trans hgr (hor.row.stored j (.int .u8 (((k+j:Nat):Int) % 256))).2
   clear hor hgr
   have e0:((k+j:Nat):Int)=(k:Int)+(j:Int):=by omega
   have HS:Hid (Own B (wr.setCell ⟨g,j,none⟩ (.int .u8 (((k+j:Nat):Int) % 256))) (some ⟨g,0,none⟩) n cap (mkd bs k (j+1))):=hs
   have HG:Hid (w.grownBy (wr.setCell ⟨g,j,none⟩ (.int .u8 (((k+j:Nat):Int) % 256))) (Value.slice (some ⟨g,0,none⟩) n cap).ownBlock):=hg2
   clear hs hg2 e0
   go_wp2
   go_roundw
   case rel=>exact ⟨j+1,by omega,by go_num,by go_num,by have:=HS.out; rw [Int.natCast_add] at this; exact this,by have:=HG.out; rw [Int.natCast_add] at this; exact this⟩
   case measure=>simp [intOf]; omega
  ·have hjn:j=n:=by omega
   subst hjn
   go_wp2
   go_ret
   exact ⟨rfl,by rw [← HL.out,mkd_all,HL.out] at hor; exact hor,hgr⟩
theorem heldByteS_any (a:Option Addr)(n cap k:Nat)(w:World)(h:Row w a n (marks k n))(hn:n≤1000000000)(hk:k≤1000000000) :
  Calls Tryz.prog 16 #[.slice a n cap,.int .i64 k] w fun e w'=>e=.returned (.int .i64 (k+n:Nat))∧w'=w:=by
 have H0:Hid (Row w a n (marks k n)):=h
 clear h
 go_enter Tryz.func16,Tryz.ntmps16
 go_wp2
 go_loop [1,5] (fun kk i=>∃ j:Nat,j≤n∧i=.int .i64 j∧kk=.int .i64 (k+j:Nat)) (fun _ i=>n - (intOf i).toNat)
 case atStart=>exact ⟨0,Nat.zero_le _,rfl,rfl⟩
 case round =>
  obtain ⟨j,hj,rfl,rfl⟩:=hrel
  by_cases hlt:j<n
  ·obtain ⟨b,off,rfl,hb,hc⟩:=H0.out.get j hlt
   rw [marks_get k n j hlt,Int.natCast_add] at hc
   go_wp2
   go_round
   case rel=>exact ⟨j+1,by omega,by go_num,by go_num⟩
   case measure=>simp [intOf]; omega
  ·have hjn:j=n:=by omega
   subst hjn
   go_wp2
   go_ret
   exact ⟨rfl,rfl⟩
theorem markByteS_int (B:Nat)(a:Option Addr)(n cap:Nat)(k:Int)(bs:List Int)(w:World)(h:Own B w a n cap bs)(hn:n≤1000000000)(hk0:0≤k)(hk:k≤1000000000) :
  Calls Tryz.prog 15 #[.slice a n cap,.int .i64 k] w fun e w'=>e=.returned (.int .i64 (k+n))∧Own B w' a n cap (marks k.toNat n)∧w.grownBy w' (Value.slice a n cap).ownBlock:=by
 obtain ⟨m,rfl⟩:=Int.eq_ofNat_of_zero_le hk0
 refine (markByteS_any B a n cap m bs w h hn (by omega)).mono ?_
 rintro e w' ⟨rfl,h1,h2⟩
 exact ⟨by rw [Int.natCast_add],by rw [Int.toNat_natCast]; exact h1,h2⟩
theorem heldByteS_int (a:Option Addr)(n cap:Nat)(k:Int)(w:World)(h:Row w a n (marks k.toNat n))(hn:n≤1000000000)(hk0:0≤k)(hk:k≤1000000000) :
  Calls Tryz.prog 16 #[.slice a n cap,.int .i64 k] w fun e w'=>e=.returned (.int .i64 (k+n))∧w'=w:=by
 obtain ⟨m,rfl⟩:=Int.eq_ofNat_of_zero_le hk0
 rw [Int.toNat_natCast] at h
 refine (heldByteS_any a n cap m w h hn (by omega)).mono ?_
 rintro e w' ⟨rfl,rfl⟩
 exact ⟨by rw [Int.natCast_add],rfl⟩
end Go.Proofs.YtmdfbnlgfhjnoaaGreatDoor
