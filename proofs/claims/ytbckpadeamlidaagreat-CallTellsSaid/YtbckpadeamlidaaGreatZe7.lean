/- Texts merged: LineJT, LineKT, LineLT, LineNT, IntsT, LineMT, EventGT, CopyT, SlotCT, SlotDT, SlotET, OpCT, ThCT, ThDT. -/
import Derived.Test.YtbckpadeamlidaaGreatZe6
import Derived.Test.YtbckpadeamlidaaGreatZe4
import Derived.LoopTactic
import Derived.Lib.Hide
import Derived.Test.YtbckpadeamlidaaGreatZe5
import Derived.Laws.CopyOwn
import Derived.Laws.OwnMore
import Derived.Shelf.Abstract
import Derived.Deep.RegionHeld3
namespace Go.Proofs.YtbckpadeamlidaaGreat
set_option linter.unusedVariables false
set_option linter.unusedSimpArgs false
set_option maxRecDepth 100000
section
open Go.ChangeShapes Go.WideShapes Go.ChangeAt Go.RowKit
end
section
open Go.ChangeShapes Go.WideShapes Go.ChangeAt Go.RowKit
set_option maxHeartbeats 1000000 in
theorem rat_any (l:List Int) (x:Int) (p:Option Addr) (k:Nat) (w:World) (hl:Sl w 1 intC l (.slice p l.length k)) :
  Calls Tryz.prog 143 #[.slice p l.length k,.int .i64 x] w fun e w' => e = .returned (.int .i64 (ixI l x))∧Kept w w' := by
 have H:=Lib.hid hl
 obtain ⟨_,_,e1,hlk,hkm,_,hne⟩:=hl.is
 cases e1
 have hbig:l.length≤9223372036854775807:=by unfold maxLen at hkm;omega
 clear hl hkm
 obtain ⟨N,hN⟩:∃ N,l.length=N:=⟨_,rfl⟩
 rw [hN] at hbig hlk ⊢
 have HN:=Lib.hid hN
 have HNE:=Lib.hid hne
 clear hN hne
 go_enter Tryz.func143,Tryz.ntmps143
 go_wp2
 go_loopw [5] (fun s5 wr=>∃ j:Nat,j≤N∧s5 = .int .i64 j∧Hid (x∉l.take j)∧Below w.heap.size w wr) (fun s5 _=>N - (intOf s5).toNat)
 case atStart=>exact ⟨0,by omega,rfl,Lib.hid (by simp),Below.refl _ _⟩
 case round =>
  obtain ⟨j,hj,rfl,T,hB⟩:=hrel
  by_cases hlt:j<N
  ·have hlt' : j<l.length:=by rw [HN.out];exact hlt
   obtain ⟨b,o,rfl,hb,-⟩:=HNE.out (by intro h;subst h;simp at hlt')
   have c1:=(hB.cell (p:=⟨b,o+j,none⟩) hb).trans (sli_at H.out hlt')
   have hbw:b<wr.heap.size:=Nat.lt_of_lt_of_le hb hB.size
   have i1:(0:Int)≤(j:Int):=by omega
   have i2:(j:Int)<(N:Int):=by omega
   have Hh:Hid (l[j]=x→ixI l x=j):=fun h=>ix_hit hlt' h T.out
   have Hn:Hid (l[j]≠x→x∉l.take (j+1)):=fun h=>not_take_succ hlt' h T.out
   generalize l[j]=y at *
   cases hxy:(y==x)
   ·have hn:=Lib.hid (Hn.out (by simpa using hxy))
    clear Hh Hn
    go_wp2
    exact ⟨⟨j+1,by omega,by go_num,hn.out,by repeat' (first | (with_reducible exact Below.refl _ _) | (with_reducible assumption) | (with_reducible refine kept_alloc ?_ _) | (with_reducible refine kept_drewN ?_ _) | (with_reducible refine Below.drew ?_) | (with_reducible refine Below.setCell ?_ (by first | omega | (simp;omega) | (simp;done)) _) | (refine kept_trans ?_ (by with_reducible assumption)))⟩,by simp [intOf];omega⟩
   ·have hn:=Lib.hid (Hh.out (by simpa using hxy))
    clear Hh Hn
    go_wp2
    go_ret
    exact ⟨ret_int hn.out.symm,by repeat' (first | (with_reducible exact Below.refl _ _) | (with_reducible assumption) | (with_reducible refine kept_alloc ?_ _) | (with_reducible refine kept_drewN ?_ _) | (with_reducible refine Below.drew ?_) | (with_reducible refine Below.setCell ?_ (by first | omega | (simp;omega) | (simp;done)) _) | (refine kept_trans ?_ (by with_reducible assumption)))⟩
  ·have:j=N:=by omega
   subst this
   have hn:Hid (x∉l):=Lib.hid (by have:=T.out;rw [← HN.out,List.take_length] at this;exact this)
   clear T
   go_wp2
   go_ret
   exact ⟨ret_int (ix_miss hn.out).symm,by repeat' (first | (with_reducible exact Below.refl _ _) | (with_reducible assumption) | (with_reducible refine kept_alloc ?_ _) | (with_reducible refine kept_drewN ?_ _) | (with_reducible refine Below.drew ?_) | (with_reducible refine Below.setCell ?_ (by first | omega | (simp;omega) | (simp;done)) _) | (refine kept_trans ?_ (by with_reducible assumption)))⟩
theorem rat_n {l:List Int} {N:Nat} (hN:l.length=N) (x:Int) (p:Option Addr) (k:Nat) (w:World) (hl:Sl w 1 intC l (.slice p N k)) :
  Calls Tryz.prog 143 #[.slice p N k,.int .i64 x] w fun e w' => e = .returned (.int .i64 (ixI l x))∧Kept w w' := by subst hN;exact rat_any l x p k w hl
set_option maxHeartbeats 2000000 in
theorem rlcheck_any (l:List Int) (p:Option Addr) (k:Nat) (w:World) (hl:Sl w 1 intC l (.slice p l.length k)) :
  Calls Tryz.prog 141 #[.slice p l.length k] w fun e w' => e = .returned (.bool (okLn l))∧Kept w w' := by
 have H:=Lib.hid hl
 obtain ⟨_,_,e1,hlk,hkm,_,hne⟩:=hl.is
 cases e1
 have hbig:l.length≤9223372036854775807:=by unfold maxLen at hkm;omega
 clear hl hkm
 obtain ⟨N,hN⟩:∃ N,l.length=N:=⟨_,rfl⟩
 have HS:Hid (Sl w 1 intC l (.slice p N k)):=hN ▸ H
 rw [hN] at hbig hlk ⊢
 have HN:=Lib.hid hN
 have HNE:=Lib.hid hne
 clear hN hne
 go_enter Tryz.func141,Tryz.ntmps141
 go_wp2
 go_loopw [3] (fun s3 wr=>∃ j:Nat,j≤N∧s3 = .int .i64 j∧Hid (okLn (l.take j)=true)∧Below w.heap.size w wr) (fun s3 _=>N - (intOf s3).toNat)
 case atStart=>exact ⟨0,by omega,rfl,Lib.hid (by simp [okLn]),Below.refl _ _⟩
 case round =>
  obtain ⟨j,hj,rfl,T,hB⟩:=hrel
  by_cases hlt:j<N
  ·have hlt' : j<l.length:=by rw [HN.out];exact hlt
   obtain ⟨b,o,rfl,hb,-⟩:=HNE.out (by intro h;subst h;simp at hlt')
   have c1:=(hB.cell (p:=⟨b,o+j,none⟩) hb).trans (sli_at H.out hlt')
   have hbw:b<wr.heap.size:=Nat.lt_of_lt_of_le hb hB.size
   have i1:(0:Int)≤(j:Int):=by omega
   have i2:(j:Int)<(N:Int):=by omega
   have Hno:Hid (noneB 16 l[j]=true→okLn l=false):=fun h=>ok_false_none hlt' h
   have Hdup:Hid (ixI l l[j]≠j→okLn l=false):=fun h=>ok_false_dup hlt' (Classical.byContradiction fun hx=>h ((ix_self hlt').2 hx))
   have Hgo:Hid (noneB 16 l[j]=false→ixI l l[j]=j→okLn (l.take (j+1))=true):=fun h1 h2=>ok_take_succ hlt' T.out h1 ((ix_self hlt').1 h2)
   generalize l[j]=y at *
   clear T
   by_cases h1:y<0
   ·have hn:=Lib.hid (Hno.out (by simp [noneB,h1]))
    clear Hno Hdup Hgo
    go_wp2
    go_ret
    exact ⟨ret_bool hn.out.symm,by repeat' (first | (with_reducible exact Below.refl _ _) | (with_reducible assumption) | (with_reducible refine kept_alloc ?_ _) | (with_reducible refine kept_drewN ?_ _) | (with_reducible refine Below.drew ?_) | (with_reducible refine Below.setCell ?_ (by first | omega | (simp;omega) | (simp;done)) _) | (refine kept_trans ?_ (by with_reducible assumption)))⟩
   ·by_cases h2:15<y
    ·have hn:=Lib.hid (Hno.out (by simp [noneB];omega))
     clear Hno Hdup Hgo
     go_wp2
     go_ret
     exact ⟨ret_bool hn.out.symm,by repeat' (first | (with_reducible exact Below.refl _ _) | (with_reducible assumption) | (with_reducible refine kept_alloc ?_ _) | (with_reducible refine kept_drewN ?_ _) | (with_reducible refine Below.drew ?_) | (with_reducible refine Below.setCell ?_ (by first | omega | (simp;omega) | (simp;done)) _) | (refine kept_trans ?_ (by with_reducible assumption)))⟩
    ·have Hgo2:=Lib.hid (Hgo.out (by simp [noneB];omega))
     obtain ⟨I,hI⟩:∃ I,ixI l y=I:=⟨_,rfl⟩
     have HI:=Lib.hid hI
     rw [hI] at Hgo2 Hdup
     clear hI Hno Hgo
     go_wp2_with fail
     refine (rat_n HN.out y (some ⟨b,o,none⟩) k _ (HS.out.kept (by repeat' (first | (with_reducible exact Below.refl _ _) | (with_reducible assumption) | (with_reducible refine kept_alloc ?_ _) | (with_reducible refine kept_drewN ?_ _) | (with_reducible refine Below.drew ?_) | (with_reducible refine Below.setCell ?_ (by first | omega | (simp;omega) | (simp;done)) _) | (refine kept_trans ?_ (by with_reducible assumption)))))).mono ?_
     rintro e w1 ⟨rfl,hg1⟩
     rw [HI.out]
     cases hb2:(I != (j:Int))
     ·have hn:=Lib.hid (Hgo2.out (by simpa using hb2))
      clear Hgo2 Hdup
      go_wp2
      exact ⟨⟨j+1,by omega,by go_num,hn.out,by repeat' (first | (with_reducible exact Below.refl _ _) | (with_reducible assumption) | (with_reducible refine kept_alloc ?_ _) | (with_reducible refine kept_drewN ?_ _) | (with_reducible refine Below.drew ?_) | (with_reducible refine Below.setCell ?_ (by first | omega | (simp;omega) | (simp;done)) _) | (refine kept_trans ?_ (by with_reducible assumption)))⟩,by simp [intOf];omega⟩
     ·have hn:=Lib.hid (Hdup.out (by simpa using hb2))
      clear Hgo2 Hdup
      go_wp2
      go_ret
      exact ⟨ret_bool hn.out.symm,by repeat' (first | (with_reducible exact Below.refl _ _) | (with_reducible assumption) | (with_reducible refine kept_alloc ?_ _) | (with_reducible refine kept_drewN ?_ _) | (with_reducible refine Below.drew ?_) | (with_reducible refine Below.setCell ?_ (by first | omega | (simp;omega) | (simp;done)) _) | (refine kept_trans ?_ (by with_reducible assumption)))⟩
  ·have:j=N:=by omega
   subst this
   have hn:Hid (okLn l=true):=Lib.hid (by have:=T.out;rw [← HN.out,List.take_length] at this;exact this)
   clear T
   go_wp2
   go_ret
   exact ⟨ret_bool hn.out.symm,by repeat' (first | (with_reducible exact Below.refl _ _) | (with_reducible assumption) | (with_reducible refine kept_alloc ?_ _) | (with_reducible refine kept_drewN ?_ _) | (with_reducible refine Below.drew ?_) | (with_reducible refine Below.setCell ?_ (by first | omega | (simp;omega) | (simp;done)) _) | (refine kept_trans ?_ (by with_reducible assumption)))⟩
theorem rlplace_any (l:List Int) (i:Int) (p:Option Addr) (k:Nat) (w:World) (hl:Sl w 1 intC l (.slice p l.length k)) :
  Calls Tryz.prog 144 #[.slice p l.length k,.int .i64 i] w fun e w' => e = .returned (.int .i64 (plI l i))∧Kept w w' := by
 have H:=Lib.hid hl
 clear hl
 unfold plI
 cases hok:okLn l
 all_goals
  have HO:=Lib.hid hok
  clear hok
  go_enter Tryz.func144,Tryz.ntmps144
  go_wp2_with fail
  refine (rlcheck_any l p k _ (H.out.kept (by repeat' (first | (with_reducible exact Below.refl _ _) | (with_reducible assumption) | (with_reducible refine kept_alloc ?_ _) | (with_reducible refine kept_drewN ?_ _) | (with_reducible refine Below.drew ?_) | (with_reducible refine Below.setCell ?_ (by first | omega | (simp;omega) | (simp;done)) _) | (refine kept_trans ?_ (by with_reducible assumption)))))).mono ?_
  rintro e w1 ⟨rfl,hg1⟩
  rw [HO.out]
 ·go_wp2
  go_ret
  exact ⟨rfl,by repeat' (first | (with_reducible exact Below.refl _ _) | (with_reducible assumption) | (with_reducible refine kept_alloc ?_ _) | (with_reducible refine kept_drewN ?_ _) | (with_reducible refine Below.drew ?_) | (with_reducible refine Below.setCell ?_ (by first | omega | (simp;omega) | (simp;done)) _) | (refine kept_trans ?_ (by with_reducible assumption)))⟩
 ·go_wp2_with fail
  refine (rat_any l i p k _ (H.out.kept (by repeat' (first | (with_reducible exact Below.refl _ _) | (with_reducible assumption) | (with_reducible refine kept_alloc ?_ _) | (with_reducible refine kept_drewN ?_ _) | (with_reducible refine Below.drew ?_) | (with_reducible refine Below.setCell ?_ (by first | omega | (simp;omega) | (simp;done)) _) | (refine kept_trans ?_ (by with_reducible assumption)))))).mono ?_
  rintro e w2 ⟨rfl,hg2⟩
  go_wp2
  go_ret
  exact ⟨rfl,by repeat' (first | (with_reducible exact Below.refl _ _) | (with_reducible assumption) | (with_reducible refine kept_alloc ?_ _) | (with_reducible refine kept_drewN ?_ _) | (with_reducible refine Below.drew ?_) | (with_reducible refine Below.setCell ?_ (by first | omega | (simp;omega) | (simp;done)) _) | (refine kept_trans ?_ (by with_reducible assumption)))⟩
end
section
open Go.ChangeShapes Go.WideShapes Go.ChangeAt Go.RowKit
end
section
open Go.ChangeShapes Go.WideShapes Go.ChangeAt Go.RowKit
end
section
open Go.ChangeShapes Go.WideShapes Go.ChangeAt Go.RowKit
end
section
open Go.ChangeShapes Go.WideShapes Go.ChangeAt Go.RowKit
end
section
open Go.ChangeShapes Go.WideShapes Go.ChangeAt Go.RowKit
end
section
open Go.ChangeShapes Go.WideShapes Go.ChangeAt Go.RowKit
end
section
open Go.ChangeShapes Go.WideShapes Go.ChangeAt Go.RowKit
theorem ss_at {W:World} {l:List Slo} {b o n c:Nat} (h:Sl W 2 Slo.cells l (.slice (some ⟨b,o,none⟩) n c)) {j:Nat} (hj:j<l.length):W.cell? ⟨b,o+j * 2,none⟩=some (.int .i64 (gs l j).st)∧W.cell? ⟨b,o+j * 2+1,none⟩=some (.int .i64 (gs l j).vl):=by
 obtain ⟨p,k,e,_,_,_,h4⟩:=h.is
 cases e
 obtain ⟨b',o',e,_,h5⟩:=h4 (by intro h;subst h;simp at hj)
 cases e
 have h6:=h5 j (gs l j) (gs_some hj)
 have h7:=h6 0 (by omega)
 have h8:=h6 1 (by omega)
 exact ⟨by simpa [Slo.cells] using h7,by simpa [Slo.cells] using h8⟩
theorem Ow.len {w:World} {base n cap:Nat} {p:Option Addr} {l:List Slo} (h:Ow w base 76 2 Slo.cells l (.slice p n cap)):n=l.length:=by
 obtain ⟨_,⟨e,h0⟩ | ⟨_,_,cur,e,_⟩⟩:=h
 ·cases e;exact h0.symm
 ·cases e;rfl
theorem Ow.slots {w:World} {base g n cap:Nat} {l:List Slo} (h:Ow w base 76 2 Slo.cells l (.slice (some ⟨g,0,none⟩) n cap)) {i:Nat} (hi:i<l.length) :
  w.cell? ⟨g,i * 2,none⟩=some (.int .i64 (gs l i).st)∧w.cell? ⟨g,i * 2+1,none⟩=some (.int .i64 (gs l i).vl)∧w.frozen? ⟨g,i * 2,none⟩=false∧w.frozen? ⟨g,i * 2+1,none⟩=false:=by
 have h1:=ss_at (Ow.sl Slo.enc h) hi
 rw [Nat.zero_add] at h1
 obtain ⟨_,⟨e,_⟩ | ⟨_,_,cur,e,_,hg,_⟩⟩:=h
 ·cases e
 cases e
 exact ⟨h1.1,h1.2,by simp [World.frozen?,hg],by simp [World.frozen?,hg]⟩
end
section
open Go.ChangeShapes Go.WideShapes Go.ChangeAt Go.RowKit
theorem rplace_val {p r c:Int} (hc:placeI p r=c) (hp:In64 p) (hr:In64 r) (w:World) :
  Calls Tryz.prog 140 #[.int .i64 p,.int .i64 r] w fun e w' => e = .returned (.int .i64 c)∧Kept w w' := hc ▸ place_ref ▸ rplace_any p r hp hr w
end
section
open Go.ChangeShapes Go.WideShapes Go.ChangeAt Go.RowKit
end
section
open Go.ChangeShapes Go.WideShapes Go.ChangeAt Go.RowKit
theorem roside_any (k:Int) (w:World):Calls Tryz.prog 48 #[.int .i64 k] w fun e w' => e = .returned (.int .i64 (opSide k))∧Kept w w' := by
 by_cases h:1≤k∧k≤8
 ·obtain rfl | rfl | rfl | rfl | rfl | rfl | rfl | rfl:k=1∨k=2∨k=3∨k=4∨k=5∨k=6∨k=7∨k=8:=by omega
  all_goals
   go_enter Tryz.func48,Tryz.ntmps48
   go_wp2
   all_goals (go_ret;exact ⟨ret_int (by decide),by repeat' (first | (with_reducible exact Below.refl _ _) | (with_reducible assumption) | (with_reducible refine kept_alloc ?_ _) | (with_reducible refine kept_drewN ?_ _) | (with_reducible refine Below.drew ?_) | (with_reducible refine Below.setCell ?_ (by first | omega | (simp;omega) | (simp;done)) _) | (refine kept_trans ?_ (by with_reducible assumption)))⟩)
 ·have e0:opSide k=0:=by have:=side_is k;omega
  by_cases h1:k<1
  ·go_enter Tryz.func48,Tryz.ntmps48
   go_wp2
   all_goals (go_ret;exact ⟨ret_int (by first | rfl | exact e0.symm),by repeat' (first | (with_reducible exact Below.refl _ _) | (with_reducible assumption) | (with_reducible refine kept_alloc ?_ _) | (with_reducible refine kept_drewN ?_ _) | (with_reducible refine Below.drew ?_) | (with_reducible refine Below.setCell ?_ (by first | omega | (simp;omega) | (simp;done)) _) | (refine kept_trans ?_ (by with_reducible assumption)))⟩)
  ·have h2:8<k:=by omega
   go_enter Tryz.func48,Tryz.ntmps48
   go_wp2
   all_goals (go_ret;exact ⟨ret_int (by first | rfl | exact e0.symm),by repeat' (first | (with_reducible exact Below.refl _ _) | (with_reducible assumption) | (with_reducible refine kept_alloc ?_ _) | (with_reducible refine kept_drewN ?_ _) | (with_reducible refine Below.drew ?_) | (with_reducible refine Below.setCell ?_ (by first | omega | (simp;omega) | (simp;done)) _) | (refine kept_trans ?_ (by with_reducible assumption)))⟩)
theorem rotimed_any (k:Int) (w:World):Calls Tryz.prog 113 #[.int .i64 k] w fun e w' => e = .returned (.bool (opTimed k))∧Kept w w' := by
 go_enter Tryz.func113,Tryz.ntmps113
 go_wp2
 all_goals (go_ret;exact ⟨ret_bool (by first | (rw [Bool.eq_iff_iff];simp [opTimed];omega) | (simp [opTimed, *];done) | (simp [opTimed, *];omega) | (simp [opTimed, *];intros;omega)),by repeat' (first | (with_reducible exact Below.refl _ _) | (with_reducible assumption) | (with_reducible refine kept_alloc ?_ _) | (with_reducible refine kept_drewN ?_ _) | (with_reducible refine Below.drew ?_) | (with_reducible refine Below.setCell ?_ (by first | omega | (simp;omega) | (simp;done)) _) | (refine kept_trans ?_ (by with_reducible assumption)))⟩)
end
section
open Go.ChangeShapes Go.WideShapes Go.ChangeAt Go.RowKit
end
section
open Go.ChangeShapes Go.WideShapes Go.ChangeAt Go.RowKit
end
end Go.Proofs.YtbckpadeamlidaaGreat
