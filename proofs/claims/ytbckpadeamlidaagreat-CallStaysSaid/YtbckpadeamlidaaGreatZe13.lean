/- Texts merged: DueGT, DueHT, DueIT, DueJT, DueKT, DueNT, DueMT, DuePT, DueQT, DueRT, DueST, DueWT, DueTT, DueXT. -/
import Derived.Test.YtbckpadeamlidaaGreatZe12
import Derived.Test.YtbckpadeamlidaaGreatZe6
import Derived.Test.YtbckpadeamlidaaGreatZe4
import Derived.Deep.RegionHeld3
import Derived.MapKept
import Derived.Lib.Hide
import Derived.BigRegion
import Derived.Deep.RegionLaw
import Derived.Maps.RangeRun
import Derived.ChangeMaps4
import Derived.Laws.MakeOwn
namespace Go.Proofs.YtbckpadeamlidaaGreat
set_option linter.unusedVariables false
set_option linter.unusedSimpArgs false
set_option maxRecDepth 100000
section
def gt (l:List Du) (i:Nat):Du:=l.getD i ⟨0,0⟩
theorem gt_some {l:List Du} {i:Nat} (h:i<l.length):l[i]? = some (gt l i):=by simp [gt,List.getD,h]
def sw (l:List Du) (i j:Nat):List Du:=(l.set i (gt l j)).set j (gt l i)
theorem sw_len (l:List Du) (i j:Nat):(sw l i j).length=l.length:=by simp [sw]
theorem sw_gt {l:List Du} {i j:Nat} (hi:i<l.length) (hj:j<l.length) (k:Nat):gt (sw l i j) k=if k=j then gt l i else if k=i then gt l j else gt l k:=by
 unfold sw gt
 simp only [List.getD_eq_getElem?_getD,List.getElem?_set,List.length_set]
 by_cases h1:j=k
 ·subst h1;simp [hj]
 ·by_cases h2:i=k
  ·subst h2;simp [h1,hi,Ne.symm h1]
  ·simp [h1,h2,Ne.symm h1,Ne.symm h2]
theorem sw_j {l:List Du} {i j:Nat} (hi:i<l.length) (hj:j<l.length):gt (sw l i j) j=gt l i:=by rw [sw_gt hi hj,if_pos rfl]
theorem sw_i {l:List Du} {i j:Nat} (hi:i<l.length) (hj:j<l.length):gt (sw l i j) i=gt l j:=by
 rw [sw_gt hi hj]
 split
 ·rename_i h;rw [h]
 ·rw [if_pos rfl]
theorem sw_o {l:List Du} {i j k:Nat} (hi:i<l.length) (hj:j<l.length) (h1:k≠i) (h2:k≠j):gt (sw l i j) k=gt l k:=by rw [sw_gt hi hj,if_neg h2,if_neg h1]
theorem gt_ext {l m:List Du} (hl:l.length=m.length) (h:∀ k,k<l.length→gt l k=gt m k):l=m:=by
 apply List.ext_getElem?
 intro k
 by_cases hk:k<l.length
 ·rw [gt_some hk,gt_some (hl ▸ hk),h k hk]
 ·simp [Nat.not_lt.1 hk,hl ▸ Nat.not_lt.1 hk]
theorem sw_arr {l:List Du} {i j:Nat} (hi:i<l.length) (hj:j<l.length):sw l i j=(l.toArray.swap i j (by simpa using hi) (by simpa using hj)).toList:=by
 refine gt_ext (by simp [sw_len]) fun k hk=>?_
 rw [sw_gt hi hj]
 have hk' : k<l.length:=by rw [sw_len] at hk;exact hk
 simp only [gt,List.getD_eq_getElem?_getD,Array.getElem?_toList,Array.getElem?_swap,List.getElem_toArray,List.getElem?_toArray]
 by_cases h1:k=j
 ·subst h1;simp [hi]
 ·by_cases h2:k=i
  ·subst h2;simp [h1,hj,Ne.symm h1]
  ·simp [h1,h2,Ne.symm h1,Ne.symm h2]
theorem sw_perm {l:List Du} {i j:Nat} (hi:i<l.length) (hj:j<l.length):(sw l i j).Perm l:=by
 rw [sw_arr hi hj]
 have:=Array.swap_perm (xs:=l.toArray) (i:=i) (j:=j) (by simpa using hi) (by simpa using hj)
 simpa using Array.perm_iff_toList_perm.1 this
def HeapN (l:List Du) (n:Nat):Prop:=∀ k,0<k→k<n→dahB (gt l k) (gt l ((k - 1) / 2))=false
def UpInv (l:List Du) (j n:Nat):Prop:=(∀ k,0<k→k<n→k≠j→dahB (gt l k) (gt l ((k - 1) / 2))=false)∧∀ c,0<c→c<n→(c - 1) / 2=j→0<j→dahB (gt l c) (gt l ((j - 1) / 2))=false
theorem up_zero {l:List Du} {n:Nat} (h:UpInv l 0 n):HeapN l n:=fun k h0 hk=>h.1 k h0 hk (by omega)
theorem up_done {l:List Du} {j n:Nat} (h:UpInv l j n) (hj:dahB (gt l j) (gt l ((j - 1) / 2))=false):HeapN l n:=fun k h0 hk=>by
 by_cases hkj:k=j
 ·rw [hkj];exact hj
 ·exact h.1 k h0 hk hkj
theorem up_step {l:List Du} {j n:Nat} (h:UpInv l j n) (hn:n≤l.length) (h0:0<j) (hj:j<n) (ha:dahB (gt l j) (gt l ((j - 1) / 2))=true):UpInv (sw l ((j - 1) / 2) j) ((j - 1) / 2) n:=by
 obtain ⟨i,hi⟩:∃ i,(j - 1) / 2=i:=⟨_,rfl⟩
 rw [hi] at ha ⊢
 have hij:i<j:=by omega
 have hil:i<l.length:=by omega
 have hjl:j<l.length:=by omega
 have ej:=sw_j hil hjl
 have ei:=sw_i hil hjl
 refine ⟨fun k hk0 hkn hki=>?_,fun c hc0 hcn hcp hi0=>?_⟩
 ·by_cases hkj:k=j
  ·subst hkj
   rw [hi,ej,ei]
   exact ahead_asymm ha
  ·rw [sw_o hil hjl hki hkj]
   by_cases hpj:(k - 1) / 2=j
   ·rw [hpj,ej]
    have:=h.2 k hk0 hkn hpj h0
    rwa [hi] at this
   ·by_cases hpi:(k - 1) / 2=i
    ·rw [hpi,ei]
     have:=h.1 k hk0 hkn hkj
     rw [hpi] at this
     exact nahead_of this ha
    ·rw [sw_o hil hjl hpi hpj]
     exact h.1 k hk0 hkn hkj
 ·have hpi:(i - 1) / 2<i:=by omega
  rw [sw_o (k:=(i - 1) / 2) hil hjl (by omega) (by omega)]
  have h1:=h.1 i hi0 (by omega) (by omega)
  by_cases hcj:c=j
  ·subst hcj
   rw [ej];exact h1
  ·rw [sw_o hil hjl (by omega) hcj]
   have h2:=h.1 c hc0 hcn hcj
   rw [hcp] at h2
   exact nahead_trans h2 h1
def DownInv (l:List Du) (i n:Nat):Prop:=(∀ k,0<k→k<n→(k - 1) / 2≠i→dahB (gt l k) (gt l ((k - 1) / 2))=false)∧∀ c,0<c→c<n→(c - 1) / 2=i→0<i→dahB (gt l c) (gt l ((i - 1) / 2))=false
theorem down_leaf {l:List Du} {i n:Nat} (h:DownInv l i n) (hi:n≤2 * i+1):HeapN l n:=fun k h0 hk=>h.1 k h0 hk (by omega)
def kid (l:List Du) (i n:Nat):Nat:=if 2 * i+2<n∧dahB (gt l (2 * i+2)) (gt l (2 * i+1))=true then 2 * i+2 else 2 * i+1
theorem kid_least {l:List Du} {i n k:Nat} (h0:0<k) (hk:k<n) (hp:(k - 1) / 2=i):dahB (gt l k) (gt l (kid l i n))=false:=by
 unfold kid
 split
 ·rename_i h
  by_cases hk2:k=2 * i+2
  ·rw [hk2];exact ahead_irrefl _
  ·obtain rfl:k=2 * i+1:=by omega
   exact ahead_asymm h.2
 ·rename_i h
  by_cases hk1:k=2 * i+1
  ·rw [hk1];exact ahead_irrefl _
  ·obtain rfl:k=2 * i+2:=by omega
   cases hc:dahB (gt l (2 * i+2)) (gt l (2 * i+1))
   ·rfl
   ·exact absurd ⟨hk,hc⟩ h
theorem kid_bd {l:List Du} {i n:Nat} (h:2 * i+1<n):i<kid l i n∧kid l i n<n∧(kid l i n - 1) / 2=i∧(kid l i n=2 * i+1∨kid l i n=2 * i+2):=by
 unfold kid;split <;> omega
theorem down_done {l:List Du} {i n:Nat} (h:DownInv l i n) (hk:dahB (gt l (kid l i n)) (gt l i)=false):HeapN l n:=fun k h0 hkn=>by
 by_cases hp:(k - 1) / 2=i
 ·rw [hp];exact nahead_trans (kid_least h0 hkn hp) hk
 ·exact h.1 k h0 hkn hp
theorem down_step {l:List Du} {i n:Nat} (h:DownInv l i n) (hn:n≤l.length) (hin:2 * i+1<n) (ha:dahB (gt l (kid l i n)) (gt l i)=true):DownInv (sw l i (kid l i n)) (kid l i n) n:=by
 have hleast:∀ k,0<k→k<n→(k - 1) / 2=i→dahB (gt l k) (gt l (kid l i n))=false:=fun k h0 hk hp=>kid_least h0 hk hp
 obtain ⟨h1,h2,h3,-⟩:=kid_bd (l:=l) hin
 generalize kid l i n=j at *
 have hil:i<l.length:=by omega
 have hjl:j<l.length:=by omega
 have ej:=sw_j hil hjl
 have ei:=sw_i hil hjl
 refine ⟨fun k hk0 hkn hkp=>?_,fun c hc0 hcn hcp hj0=>?_⟩
 ·by_cases hki:k=i
  ·subst hki
   rw [ei,sw_o (k:=(k - 1) / 2) hil hjl (by omega) (by omega)]
   exact h.2 j (by omega) h2 h3 hk0
  ·by_cases hkj:k=j
   ·subst hkj
    rw [h3,ej,ei]
    exact ahead_asymm ha
   ·rw [sw_o hil hjl hki hkj]
    by_cases hpi:(k - 1) / 2=i
    ·rw [hpi,ei]
     exact hleast k hk0 hkn hpi
    ·rw [sw_o hil hjl hpi hkp]
     exact h.1 k hk0 hkn hpi
 ·rw [h3,ei,sw_o (k:=c) hil hjl (by omega) (by omega)]
  have:=h.1 c hc0 hcn (by omega)
  rwa [hcp] at this
theorem heap_least {l:List Du} {n:Nat} (h:HeapN l n):∀ k,k<n→dahB (gt l k) (gt l 0)=false:=fun k=>by
 induction k using Nat.strongRecOn with
 | _ k ih =>
  intro hk
  by_cases h0:k=0
  ·rw [h0];exact ahead_irrefl _
  ·exact nahead_trans (h k (by omega) hk) (ih _ (by omega) (by omega))
abbrev Heap (l:List Du):Prop:=HeapN l l.length
theorem heap_nil:Heap []:=fun k _ h=>absurd h (Nat.not_lt_zero k)
theorem gt_append {l:List Du} {d:Du} {k:Nat} (h:k<l.length):gt (l++[d]) k=gt l k:=by simp [gt,List.getD,List.getElem?_append_left h]
theorem push_inv {l:List Du} {d:Du} (h:Heap l):UpInv (l++[d]) l.length (l.length+1):=by
 refine ⟨fun k h0 hk hne=>?_,fun c h0 hc hp=>by omega⟩
 rw [gt_append (by omega),gt_append (by omega)]
 exact h k h0 (by omega)
theorem heap_of_len {l:List Du} {n:Nat} (h:HeapN l n) (hn:l.length=n):Heap l:=by subst hn;exact h
theorem pop_inv {l:List Du} {n:Nat} (h:Heap l) (hn:l.length=n+1):DownInv (sw l 0 n) 0 n:=by
 refine ⟨fun k h0 hk hp=>?_,fun c _ _ _ h=>by omega⟩
 rw [sw_o (by omega) (by omega) (by omega) (by omega),sw_o (by omega) (by omega) hp (by omega)]
 exact h k h0 (by omega)
theorem heap_take {l:List Du} {n:Nat} (h:HeapN l n) (hn:l.length=n+1):Heap (l.take n):=by
 have hl:(l.take n).length=n:=by simp;omega
 intro k h0 hk
 rw [hl] at hk
 have e:∀ j,j<n→gt (l.take n) j=gt l j:=fun j hj=>by simp [gt,List.getD,List.getElem?_take,hj]
 rw [e k hk,e _ (by omega)]
 exact h k h0 hk
theorem take_last {l:List Du} {n:Nat} (hn:l.length=n+1):l.take n++[gt l n]=l:=by
 refine gt_ext (by simp;omega) fun k hk=>?_
 by_cases h:k<n
 ·rw [gt_append (by simp;omega)]
  simp [gt,List.getD,List.getElem?_take,h]
 ·have:k=n:=by simp at hk;omega
  subst this
  have:(l.take k).length=k:=by simp;omega
  simp [gt,List.getD,List.getElem?_append_right,this]
theorem perm_last {l m:List Du} {n:Nat} {d:Du} (h:m.Perm l) (hn:m.length=n+1) (hd:gt m n=d):l.Perm (d::m.take n):=by
 refine h.symm.trans ?_
 have:=take_last hn
 rw [hd] at this
 have h2:=List.perm_append_comm (l₁:=m.take n) (l₂:=[d])
 rw [this] at h2
 exact h2
theorem heap_first {l t r:List Du} {d d0:Du} (hp:l.Perm (d0::t)) (hs:Sorted (d0::t)) (hl:l.Perm (d::r)) (hm:∀ e∈l,dahB e d=false):d=d0∧r.Perm t:=by
 have h1:dahB d0 d=false:=hm d0 (hp.mem_iff.2 (by simp))
 have hd:d=d0:=by
  rcases List.mem_cons.1 (hp.mem_iff.1 (hl.mem_iff.2 (List.mem_cons_self ..))) with e | h
  ·exact e
  ·have:=(List.pairwise_cons.1 hs).1 d h
   rw [h1] at this;cases this
 subst hd
 exact ⟨rfl,(List.perm_cons _).1 (hl.symm.trans hp)⟩
theorem gt_mem {l:List Du} {e:Du} (h:e∈l):∃ k,k<l.length∧gt l k=e:=by
 obtain ⟨k,hk,rfl⟩:=List.getElem_of_mem h
 exact ⟨k,hk,by simp [gt,List.getD,hk]⟩
end
section
open Go.ChangeShapes Go.WideShapes Go.ChangeAt Go.RowKit
theorem dah_any (a b:Du) (w:World):Calls Tryz.prog 203 #[.agg #[.int .i64 a.tm,.int .i64 a.id],.agg #[.int .i64 b.tm,.int .i64 b.id]] w fun e w' => e = .returned (.bool (dahB a b))∧Kept w w' := by
 go_enter Tryz.func203,Tryz.ntmps203
 go_wp2
 all_goals (go_ret;exact ⟨ret_bool (by first | (rw [Bool.eq_iff_iff];simp [dahB];omega) | (simp [dahB, *];done) | (simp [dahB, *];omega) | (simp [dahB, *];intros;omega)),by repeat' (first | (with_reducible exact Below.refl _ _) | (with_reducible assumption) | (with_reducible refine kept_alloc ?_ _) | (with_reducible refine kept_drewN ?_ _) | (with_reducible refine Below.drew ?_) | (with_reducible refine Below.setCell ?_ (by first | omega | (simp;omega) | (simp;done)) _) | (refine kept_trans ?_ (by with_reducible assumption)))⟩)
theorem inTime_any (a:Du) (w:World):Calls Tryz.prog 199 #[.agg #[.int .i64 a.tm,.int .i64 a.id]] w fun e w' => e = .returned (.bool (inTB a))∧Kept w w' := by
 go_enter Tryz.func199,Tryz.ntmps199
 go_wp2
 all_goals (go_ret;exact ⟨ret_bool (by first | (rw [Bool.eq_iff_iff];simp [inTB];omega) | (simp [inTB, *];done) | (simp [inTB, *];omega) | (simp [inTB, *];intros;omega)),by repeat' (first | (with_reducible exact Below.refl _ _) | (with_reducible assumption) | (with_reducible refine kept_alloc ?_ _) | (with_reducible refine kept_drewN ?_ _) | (with_reducible refine Below.drew ?_) | (with_reducible refine Below.setCell ?_ (by first | omega | (simp;omega) | (simp;done)) _) | (refine kept_trans ?_ (by with_reducible assumption)))⟩)
theorem ofThread_any (a:Du) (w:World):Calls Tryz.prog 200 #[.agg #[.int .i64 a.tm,.int .i64 a.id]] w fun e w' => e = .returned (.bool (ofTB a))∧Kept w w' := by
 go_enter Tryz.func200,Tryz.ntmps200
 go_wp2
 all_goals (go_ret;exact ⟨ret_bool (by first | (rw [Bool.eq_iff_iff];simp [ofTB];omega) | (simp [ofTB, *];done) | (simp [ofTB, *];omega) | (simp [ofTB, *];intros;omega)),by repeat' (first | (with_reducible exact Below.refl _ _) | (with_reducible assumption) | (with_reducible refine kept_alloc ?_ _) | (with_reducible refine kept_drewN ?_ _) | (with_reducible refine Below.drew ?_) | (with_reducible refine Below.setCell ?_ (by first | omega | (simp;omega) | (simp;done)) _) | (refine kept_trans ?_ (by with_reducible assumption)))⟩)
end
section
open Go.ChangeShapes Go.WideShapes Go.ChangeAt Go.RowKit
theorem flat_set:∀ (l:List Du) (i:Nat) (d:Du),i<l.length→((l.flatMap Du.cells).set (i * 2) (.int .i64 d.tm)).set (i * 2+1) (.int .i64 d.id)=(l.set i d).flatMap Du.cells
 | [],_,_,h=>by simp at h
 | e::l,0,d,_=>rfl
 | e::l,i+1,d,h=>by
  have ih:=flat_set l i d (by simpa using h)
  rw [show (i+1) * 2+1=i * 2+1+1+1 by omega,show (i+1) * 2=i * 2+1+1 by omega]
  simp only [List.flatMap_cons,Du.cells,List.cons_append,List.nil_append,List.set_cons_succ]
  rw [ih]
structure Pile (w:World) (pb g cap:Nat) (l:List Du):Prop where
 ne:g≠pb
 obj:w.heap[pb]? = some (.cells #[.slice (some ⟨g,0,none⟩) l.length cap] 200 (0,0))
 own:Ow w 0 88 2 Du.cells l (.slice (some ⟨g,0,none⟩) l.length cap)
theorem Pile.lt {w:World} {pb g cap:Nat} {l:List Du} (h:Pile w pb g cap l):pb<w.heap.size∧g<w.heap.size:=⟨(Array.getElem?_eq_some_iff.1 h.obj).1,(Ow.lt h.own g rfl).2⟩
theorem Pile.of_block {w w' : World} {pb g cap:Nat} {l:List Du} (h:Pile w pb g cap l) (h1:w'.heap[pb]? = w.heap[pb]?) (h2:w'.heap[g]? = w.heap[g]?):Pile w' pb g cap l :=
 ⟨h.ne,h1.trans h.obj,h.own.of_block (fun x hx=>by cases hx;exact h2)⟩
theorem Pile.kept {w w' : World} {pb g cap:Nat} {l:List Du} (h:Pile w pb g cap l) (hk:Below w.heap.size w w'):Pile w' pb g cap l:=h.of_block (hk.block _ h.lt.1) (hk.block _ h.lt.2)
theorem Pile.out {w w' : World} {pb g cap:Nat} {l:List Du} {S:List Nat} (h:Pile w pb g cap l) (hk:Out S w w') (h1:pb∉S) (h2:g∉S):Pile w' pb g cap l:=h.of_block (hk.block _ h.lt.1 h1) (hk.block _ h.lt.2 h2)
theorem Pile.slice {w:World} {pb g cap:Nat} {l:List Du} (h:Pile w pb g cap l):w.cell? ⟨pb,0,none⟩=some (.slice (some ⟨g,0,none⟩) l.length cap)∧w.frozen? ⟨pb,0,none⟩=false:=by
 simp [World.cell?,World.frozen?,h.obj]
theorem Pile.bd {w:World} {pb g cap:Nat} {l:List Du} (h:Pile w pb g cap l):l.length≤cap∧cap≤maxLen:=by
 obtain ⟨_,⟨h1,_⟩ | ⟨_,_,cur,h1,_,_,h2,h3,_⟩⟩:=h.own
 ·cases h1
 ·cases h1;exact ⟨h2,h3⟩
theorem Pile.cells {w:World} {pb g cap:Nat} {l:List Du} (h:Pile w pb g cap l) {i:Nat} (hi:i<l.length) :
  w.cell? ⟨g,i * 2,none⟩=some (.int .i64 (gt l i).tm)∧w.cell? ⟨g,i * 2+1,none⟩=some (.int .i64 (gt l i).id)∧w.frozen? ⟨g,i * 2,none⟩=false∧w.frozen? ⟨g,i * 2+1,none⟩=false:=by
 obtain ⟨p,c,e,_,_,_,h4⟩:=(Ow.sl Du.enc h.own).is
 cases e
 obtain ⟨b,o,e,_,h5⟩:=h4 (by intro h;subst h;simp at hi)
 cases e
 have h6:=h5 i (gt l i) (gt_some hi)
 have h7:=h6 0 (by omega)
 have h8:=h6 1 (by omega)
 obtain ⟨_,⟨e,_⟩ | ⟨_,_,cur,e,_,hg,_⟩⟩:=h.own
 ·cases e
 cases e
 refine ⟨by simpa [Du.cells] using h7,by simpa [Du.cells] using h8,?_,?_⟩ <;> simp [World.frozen?,hg]
theorem Ow.setAt {w:World} {base:Nat} {g cap:Nat} {l:List Du} (h:Ow w base 88 2 Du.cells l (.slice (some ⟨g,0,none⟩) l.length cap)) {i:Nat} (hi:i<l.length) (d:Du) :
  Ow ((w.setCell ⟨g,i * 2,none⟩ (.int .i64 d.tm)).setCell ⟨g,i * 2+1,none⟩ (.int .i64 d.id)) base 88 2 Du.cells (l.set i d) (.slice (some ⟨g,0,none⟩) (l.set i d).length cap):=by
 obtain ⟨h0,⟨h1,_⟩ | ⟨_,_,cur,h1,hb,hg,hl,hm,hs,ht⟩⟩:=h
 ·cases h1
 cases h1
 refine ⟨flat_len Du.enc _,.inr ⟨g,cap,(cur.setIfInBounds (i * 2) (.int .i64 d.tm)).setIfInBounds (i * 2+1) (.int .i64 d.id),rfl,hb,?_,by simpa using hl,hm,by simpa using hs,?_⟩⟩
 ·simp [World.setCell,Array.getElem?_modify,hg]
 ·rw [← flat_set l i d hi,← ht,List.length_set]
  simp [List.take_set]
theorem Pile.setAt {w:World} {pb g cap:Nat} {l:List Du} (h:Pile w pb g cap l) {i:Nat} (hi:i<l.length) (d:Du) :
  Pile ((w.setCell ⟨g,i * 2,none⟩ (.int .i64 d.tm)).setCell ⟨g,i * 2+1,none⟩ (.int .i64 d.id)) pb g cap (l.set i d):=by
 refine ⟨h.ne,?_,Ow.setAt h.own hi d⟩
 rw [Below.heap_setCell _ _ _ _ (Ne.symm h.ne),Below.heap_setCell _ _ _ _ (Ne.symm h.ne),h.obj,List.length_set]
theorem Pile.with {w:World} {pb g n c cap:Nat} {p:Option Addr} {l:List Du} (hp:w.heap[pb]? = some (.cells #[.slice p n c] 200 (0,0))) (ho:Ow w 0 88 2 Du.cells l (.slice (some ⟨g,0,none⟩) l.length cap)) (hne:g≠pb) :
  Pile (w.setCell ⟨pb,0,none⟩ (.slice (some ⟨g,0,none⟩) l.length cap)) pb g cap l :=
 ⟨hne,by simp [World.setCell,Array.getElem?_modify,hp],ho.of_block (fun x hx=>by cases hx;exact Below.heap_setCell _ _ _ _ hne)⟩
theorem Ow.take {w:World} {base g cap n:Nat} {l:List Du} (h:Ow w base 88 2 Du.cells l (.slice (some ⟨g,0,none⟩) l.length cap)) (hn:n≤l.length):Ow w base 88 2 Du.cells (l.take n) (.slice (some ⟨g,0,none⟩) (l.take n).length cap):=by
 obtain ⟨h0,⟨h1,_⟩ | ⟨_,_,cur,h1,hb,hg,hl,hm,hs,ht⟩⟩:=h
 ·cases h1
 cases h1
 have hln:(l.take n).length=n:=by simp;omega
 have hf:(l.take n).flatMap Du.cells=(l.flatMap Du.cells).take (n * 2):=by
  have:l.flatMap Du.cells=(l.take n).flatMap Du.cells++(l.drop n).flatMap Du.cells:=by rw [← List.flatMap_append,List.take_append_drop]
  rw [this,List.take_left' (by rw [flat_len Du.enc,hln])]
 refine ⟨flat_len Du.enc _,.inr ⟨g,cap,cur,rfl,hb,hg,by omega,hm,hs,?_⟩⟩
 rw [hln,hf,← ht,List.take_take]
 congr 1
 omega
end
section
open Go.ChangeShapes Go.WideShapes Go.ChangeAt Go.RowKit
theorem plen_any (w:World) (pb g cap:Nat) (l:List Du) (h:Pile w pb g cap l):Calls Tryz.prog 328 #[.pointer (some ⟨pb,0,none⟩)] w fun e w' => e = .returned (.int .i64 l.length)∧Kept w w' := by
 have hq:=h.slice.1
 go_enter Tryz.func328,Tryz.ntmps328
 go_wp2
 all_goals (go_ret;exact ⟨rfl,by repeat' (first | (with_reducible exact Below.refl _ _) | (with_reducible assumption) | (with_reducible refine kept_alloc ?_ _) | (with_reducible refine kept_drewN ?_ _) | (with_reducible refine Below.drew ?_) | (with_reducible refine Below.setCell ?_ (by first | omega | (simp;omega) | (simp;done)) _) | (refine kept_trans ?_ (by with_reducible assumption)))⟩)
theorem due_assert (a b:Int) (w:World):(Instr.typeAssert (.iface 88 (.agg #[.int .i64 a,.int .i64 b])) 20 88 true).run Tryz.prog w = .ok (.tuple #[.agg #[.int .i64 a,.int .i64 b],.bool true]) w:=by kernel_rfl
set_option maxHeartbeats 1000000 in
theorem pless_any (w:World) (pb g cap:Nat) (l:List Du) (i j:Nat) (h:Pile w pb g cap l) (hi:i<l.length) (hj:j<l.length) :
  Calls Tryz.prog 329 #[.pointer (some ⟨pb,0,none⟩),.int .i64 i,.int .i64 j] w fun e w' => e = .returned (.bool (dahB (gt l i) (gt l j)))∧Kept w w' := by
 have hbd:=h.bd
 have hq:=h.slice.1
 obtain ⟨c1,c2,-,-⟩:=h.cells hi
 obtain ⟨c3,c4,-,-⟩:=h.cells hj
 have b1:(0:Int)≤(i:Int):=by omega
 have b2:(i:Int)<(l.length:Int):=by omega
 have b3:(0:Int)≤(j:Int):=by omega
 have b4:(j:Int)<(l.length:Int):=by omega
 have hz1:=h.lt.1
 have hz2:=h.lt.2
 clear h hbd
 go_enter Tryz.func329,Tryz.ntmps329
 go_wp2
 (refine wp_region_kept (w:=w) [(pb,0,.slice (some ⟨g,0,none⟩) l.length cap),(g,i * 2,.int .i64 (gt l i).tm),(g,i * 2+1,.int .i64 (gt l i).id),(g,j * 2,.int .i64 (gt l j).tm),(g,j * 2+1,.int .i64 (gt l j).id)] (by kernel_rfl) (by kernel_rfl) (by repeat' (first | (with_reducible exact Below.refl _ _) | (with_reducible assumption) | (with_reducible refine kept_alloc ?_ _) | (with_reducible refine kept_drewN ?_ _) | (with_reducible refine Below.drew ?_) | (with_reducible refine Below.setCell ?_ (by first | omega | (simp;omega) | (simp;done)) _) | (refine kept_trans ?_ (by with_reducible assumption)))) (by first | (simp [CellsAt, *,World.cell?_alloc_past,World.cell?_alloc_at];done) | (simp [CellsAt, *,World.cell?_alloc_past,World.cell?_alloc_at];omega)) (fun hne=>?_);(have hq0:∀ xwd:Wd w [(pb,0,.slice (some ⟨g,0,none⟩) l.length cap),(g,i * 2,.int .i64 (gt l i).tm),(g,i * 2+1,.int .i64 (gt l i).id),(g,j * 2,.int .i64 (gt l j).tm),(g,j * 2+1,.int .i64 (gt l j).id)],xwd.at.cell? ⟨pb,0,none⟩=some (.slice (some ⟨g,0,none⟩) l.length cap):=fun xwd=>xwd.cells.1.2;have hq1:∀ xwd:Wd w [(pb,0,.slice (some ⟨g,0,none⟩) l.length cap),(g,i * 2,.int .i64 (gt l i).tm),(g,i * 2+1,.int .i64 (gt l i).id),(g,j * 2,.int .i64 (gt l j).tm),(g,j * 2+1,.int .i64 (gt l j).id)],xwd.at.cell? ⟨g,i * 2,none⟩=some (.int .i64 (gt l i).tm):=fun xwd=>xwd.cells.2.1.2;have hq2:∀ xwd:Wd w [(pb,0,.slice (some ⟨g,0,none⟩) l.length cap),(g,i * 2,.int .i64 (gt l i).tm),(g,i * 2+1,.int .i64 (gt l i).id),(g,j * 2,.int .i64 (gt l j).tm),(g,j * 2+1,.int .i64 (gt l j).id)],xwd.at.cell? ⟨g,i * 2+1,none⟩=some (.int .i64 (gt l i).id):=fun xwd=>xwd.cells.2.2.1.2;have hq3:∀ xwd:Wd w [(pb,0,.slice (some ⟨g,0,none⟩) l.length cap),(g,i * 2,.int .i64 (gt l i).tm),(g,i * 2+1,.int .i64 (gt l i).id),(g,j * 2,.int .i64 (gt l j).tm),(g,j * 2+1,.int .i64 (gt l j).id)],xwd.at.cell? ⟨g,j * 2,none⟩=some (.int .i64 (gt l j).tm):=fun xwd=>xwd.cells.2.2.2.1.2;have hq4:∀ xwd:Wd w [(pb,0,.slice (some ⟨g,0,none⟩) l.length cap),(g,i * 2,.int .i64 (gt l i).tm),(g,i * 2+1,.int .i64 (gt l i).id),(g,j * 2,.int .i64 (gt l j).tm),(g,j * 2+1,.int .i64 (gt l j).id)],xwd.at.cell? ⟨g,j * 2+1,none⟩=some (.int .i64 (gt l j).id):=fun xwd=>xwd.cells.2.2.2.2.1.2);(try simp only [List.append_eq,List.cons_append,List.nil_append]);(repeat (go_big_quiet_step ((first | (go_at_call 203;exact quiet_call (dah_any _ _ _))))));(refine wpQuiet_nil ?_);intro wq hwq;obtain ⟨xwd,hxwd⟩:=hwq;have hgx:Below w.heap.size w wq:=(by rw [hxwd];exact xwd.kept);have hcs:=(show CellsAt wq [(pb,0,.slice (some ⟨g,0,none⟩) l.length cap),(g,i * 2,.int .i64 (gt l i).tm),(g,i * 2+1,.int .i64 (gt l i).id),(g,j * 2,.int .i64 (gt l j).tm),(g,j * 2+1,.int .i64 (gt l j).id)] by rw [hxwd];exact xwd.cells);clear hxwd xwd hne)
 go_wp2
 all_goals (go_ret;exact ⟨rfl,by repeat' (first | (with_reducible exact Below.refl _ _) | (with_reducible assumption) | (with_reducible refine kept_alloc ?_ _) | (with_reducible refine kept_drewN ?_ _) | (with_reducible refine Below.drew ?_) | (with_reducible refine Below.setCell ?_ (by first | omega | (simp;omega) | (simp;done)) _) | (refine kept_trans ?_ (by with_reducible assumption)))⟩)
set_option maxHeartbeats 1000000 in
theorem pswap_any (w:World) (pb g cap:Nat) (l:List Du) (i j:Nat) (h:Pile w pb g cap l) (hi:i<l.length) (hj:j<l.length) :
  Calls Tryz.prog 332 #[.pointer (some ⟨pb,0,none⟩),.int .i64 i,.int .i64 j] w fun e w' => e = .returned (.tuple #[])∧Pile w' pb g cap (sw l i j)∧Out [g] w w' := by
 have hbd:=h.bd
 have hq:=h.slice.1
 obtain ⟨c1,c2,f1,f2⟩:=h.cells hi
 obtain ⟨c3,c4,f3,f4⟩:=h.cells hj
 have b1:(0:Int)≤(i:Int):=by omega
 have b2:(i:Int)<(l.length:Int):=by omega
 have b3:(0:Int)≤(j:Int):=by omega
 have b4:(j:Int)<(l.length:Int):=by omega
 obtain ⟨u1,g1⟩:=cell?_setCell_some (w:=w) (p:=⟨g,i * 2,none⟩) (x:=.int .i64 (gt l j).tm) (q:=⟨g,j * 2,none⟩) c3
 obtain ⟨u2,g2⟩:=cell?_setCell_some (w:=w) (p:=⟨g,i * 2,none⟩) (x:=.int .i64 (gt l j).tm) (q:=⟨g,j * 2+1,none⟩) c4
 obtain ⟨u3,g3⟩:=cell?_setCell_some (w:=w.setCell ⟨g,i * 2,none⟩ (.int .i64 (gt l j).tm)) (p:=⟨g,i * 2+1,none⟩) (x:=.int .i64 (gt l j).id) (q:=⟨g,j * 2+1,none⟩) g2
 have H:=Lib.hid h
 clear h hbd
 go_enter Tryz.func332,Tryz.ntmps332
 go_wp2
 go_region
 go_end0
 have hP:Pile _ pb g cap (sw l i j):=(H.out.setAt hi (gt l j)).setAt (i:=j) (by simpa using hj) (gt l i)
 exact ⟨rfl,hP.kept (Below.drew (Below.refl _ _)),(((((Out.refl [g] w).set (x:=⟨g,_,none⟩) (.inl (by simp)) _).set (x:=⟨g,_,none⟩) (.inl (by simp)) _).set (x:=⟨g,_,none⟩) (.inl (by simp)) _).set (x:=⟨g,_,none⟩) (.inl (by simp)) _).then (Below.drew (Below.refl _ _))⟩
set_option maxHeartbeats 1000000 in
theorem ppop_any (w:World) (pb g cap n:Nat) (l:List Du) (h:Pile w pb g cap l) (hn:l.length=n+1) (hm:n≤1000) :
  Calls Tryz.prog 330 #[.pointer (some ⟨pb,0,none⟩)] w fun e w' => e = .returned (.iface 88 (.agg #[.int .i64 (gt l n).tm,.int .i64 (gt l n).id]))∧Pile w' pb g cap (l.take n)∧Out [pb] w w' := by
 have hbd:=h.bd
 have hq:=h.slice.1
 have hf:=h.slice.2
 obtain ⟨c1,c2,-,-⟩:=h.cells (i:=n) (by omega)
 rw [hn] at hq hbd
 have b1:(n:Int)+1≤(cap:Int):=by omega
 have b2:(n:Int)≤(cap:Int):=by omega
 have hz1:=h.lt.1
 have hz2:=h.lt.2
 have H:=Lib.hid h
 have HN:=Lib.hid hn
 clear h hbd hn
 go_enter Tryz.func330,Tryz.ntmps330
 go_wp2
 go_ret
 have hl:(l.take n).length=n:=by have:=HN.out;simp;omega
 have hP:=Pile.with (pb:=pb) (g:=g) H.out.obj (Ow.take H.out.own (n:=n) (by have:=HN.out;omega)) H.out.ne
 rw [hl] at hP
 exact ⟨rfl,hP.kept ((Below.refl _ _).alloc (Nat.le_refl _) _),((Out.refl [pb] w).set (x:=⟨pb,_,none⟩) (.inl (by simp)) _).alloc _⟩
theorem ow_some {α:Type} {W:World} {base k:Nat} {e:TypeId} {enc:α→List Value} {xs:List α} {v:Value} (h:Ow W base e k enc xs v) (hne:xs≠[]):∃ g cap,v = .slice (some ⟨g,0,none⟩) xs.length cap:=by
 obtain ⟨_,⟨_,h1⟩ | ⟨g,cap,_,h1,_⟩⟩:=h
 ·exact absurd (List.length_eq_zero_iff.1 h1) hne
 ·exact ⟨g,cap,h1⟩
theorem push_block {g g1 n n1 c c1 s:Nat} (h:∀ x,(Value.slice (some ⟨g1,0,none⟩) n1 c1).ownBlock=some x→(Value.slice (some ⟨g,0,none⟩) n c).ownBlock=some x∨x=s):g1=g∨g1=s:=by
 rcases h g1 rfl with h | h
 ·exact .inl (by cases h;rfl)
 ·exact .inr h
theorem push_obj {V X w1:World} {pb g cap n:Nat} {l:List Du} (h:Pile V pb g cap l) (hB:Below V.heap.size V X) (hg:X.grownBy w1 (Value.slice (some ⟨g,0,none⟩) n cap).ownBlock):w1.heap[pb]? = some (.cells #[.slice (some ⟨g,0,none⟩) l.length cap] 200 (0,0)) :=
 (hg.block pb (Nat.lt_of_lt_of_le h.lt.1 hB.size) (by intro e;cases e;exact h.ne rfl)).trans ((hB.block _ h.lt.1).trans h.obj)
theorem push_cell {V X w1:World} {pb g cap n:Nat} {l:List Du} (h:Pile V pb g cap l) (hB:Below V.heap.size V X) (hg:X.grownBy w1 (Value.slice (some ⟨g,0,none⟩) n cap).ownBlock):w1.cell? ⟨pb,0,none⟩=some (.slice (some ⟨g,0,none⟩) l.length cap):=by
 simp [World.cell?,push_obj h hB hg]
theorem push_frozen {V X w1:World} {pb g cap n:Nat} {l:List Du} (h:Pile V pb g cap l) (hB:Below V.heap.size V X) (hg:X.grownBy w1 (Value.slice (some ⟨g,0,none⟩) n cap).ownBlock):w1.frozen? ⟨pb,0,none⟩=false:=by
 simp [World.frozen?,push_obj h hB hg]
theorem push_end {w V X w1:World} {pb g cap g1 k1 n:Nat} {l:List Du} {d:Du} (h:Pile V pb g cap l) (hB:Below w.heap.size w V) (hX:Below V.heap.size V X) (hg:X.grownBy w1 (Value.slice (some ⟨g,0,none⟩) l.length cap).ownBlock)
  (ho:Ow w1 0 88 2 Du.cells (l++[d]) (.slice (some ⟨g1,0,none⟩) (l++[d]).length k1)) (hob:g1=g∨g1=X.heap.size) (hn:(l++[d]).length=n) :
  ∃ g' cap',Pile (w1.setCell ⟨pb,0,none⟩ (.slice (some ⟨g1,0,none⟩) n k1)) pb g' cap' (l++[d])∧Out [pb,g] w (w1.setCell ⟨pb,0,none⟩ (.slice (some ⟨g1,0,none⟩) n k1))∧(g' = g∨w.heap.size≤g'):=by
 subst hn
 have h1:=h.lt
 have h2:=hX.size
 have h3:=hB.size
 refine ⟨g1,k1,Pile.with (push_obj h hX hg) ho ?_,?_,?_⟩
 ·rcases hob with rfl | rfl
  ·exact h.ne
  ·omega
 ·refine Out.set (Out.grown (((Out.refl [pb,g] w).then hB).then hX) hg (fun x hx=>?_)) (.inl (by simp)) _
  cases hx;exact .inl (by simp)
 ·rcases hob with rfl | rfl
  ·exact .inl rfl
  ·exact .inr (by omega)
theorem due_info:(Tryz.prog.info? 88).map (fun i=>(i.zero,i.size,i.bytes))=some (some (.agg #[.int .i64 0,.int .i64 0]),2,16):=by kernel_rfl
set_option maxHeartbeats 1000000 in
theorem ppush_any (w:World) (pb g cap:Nat) (l:List Du) (d:Du) (h:Pile w pb g cap l) (hm:l.length≤1000) :
  Calls Tryz.prog 331 #[.pointer (some ⟨pb,0,none⟩),.iface 88 (.agg #[.int .i64 d.tm,.int .i64 d.id])] w fun e w' => e = .returned (.tuple #[])∧∃ g' cap',Pile w' pb g' cap' (l++[d])∧Out [pb,g] w w' ∧ (g' = g∨w.heap.size≤g'):=by
 have hbd:=h.bd
 have hq:=h.slice.1
 have hf:=h.slice.2
 have hz1:=h.lt.1
 have hz2:=h.lt.2
 have H:=Lib.hid h
 have ht:=due_assert d.tm d.id
 clear h hbd
 go_enter Tryz.func331,Tryz.ntmps331
 go_wp2
 clear ht
 obtain ⟨V,hV⟩:∃ V,w.alloc (.cells #[.int .i64 d.tm,.int .i64 d.id] 88)=V:=⟨_,rfl⟩
 have hB:Below w.heap.size w V:=by rw [← hV];repeat' (first | (with_reducible exact Below.refl _ _) | (with_reducible assumption) | (with_reducible refine kept_alloc ?_ _) | (with_reducible refine kept_drewN ?_ _) | (with_reducible refine Below.drew ?_) | (with_reducible refine Below.setCell ?_ (by first | omega | (simp;omega) | (simp;done)) _) | (refine kept_trans ?_ (by with_reducible assumption)))
 have q1:V.cell? ⟨pb,0,none⟩=some (.slice (some ⟨g,0,none⟩) l.length cap):=((bcell hB).1 _ _ hz1).trans hq
 have q2:V.cell? ⟨w.heap.size,0,none⟩=some (.int .i64 d.tm):=by rw [← hV];exact World.cell?_alloc_at _ _ _ _ (by simp)
 have q3:V.cell? ⟨w.heap.size,1,none⟩=some (.int .i64 d.id):=by rw [← hV];exact World.cell?_alloc_at _ _ _ _ (by simp)
 have hzV:w.heap.size<V.heap.size:=by rw [← hV];simp
 have hzP:pb<V.heap.size:=by have:=hB.size;omega
 have HP:=Lib.hid (H.out.kept hB)
 rw [hV]
 clear hV hq hf
 go_region_law (refine step_appb (by rfl) (.tmp 15) (.tmp 17) 200 (by rfl) (.agg #[.int .i64 0,.int .i64 0]) 16 Tryz.underlying200 due_info (by rfl) (by decide) Du.enc (by rfl) (by rfl) (xs:=l) (ys:=[d]) (base:=0) (HP.out.own.kept (by repeat' (first | (with_reducible exact Below.refl _ _) | (with_reducible assumption) | (with_reducible refine kept_alloc ?_ _) | (with_reducible refine kept_drewN ?_ _) | (with_reducible refine Below.drew ?_) | (with_reducible refine Below.setCell ?_ (by first | omega | (simp;omega) | (simp;done)) _) | (refine kept_trans ?_ (by with_reducible assumption))))) ((Ow.sl Du.enc (Ow.made (base:=0) (e:=88) (W:=V) Du.enc [d] #[.int .i64 d.tm,.int .i64 d.id] rfl (Nat.zero_le _) (by show 1≤maxLen;decide) rfl rfl)).kept (Below.drew (Below.refl _ _))) (by simp) (Nat.zero_le _) (by simp;unfold maxLen;omega) (by simp;omega) ?_;intro v1 w1 how1 hgr hob;obtain ⟨g1,k1,rfl⟩:=ow_some how1 (by simp);have hob1:=push_block hob;have q4:=push_cell HP.out (by repeat' (first | (with_reducible exact Below.refl _ _) | (with_reducible assumption) | (with_reducible refine kept_alloc ?_ _) | (with_reducible refine kept_drewN ?_ _) | (with_reducible refine Below.drew ?_) | (with_reducible refine Below.setCell ?_ (by first | omega | (simp;omega) | (simp;done)) _) | (refine kept_trans ?_ (by with_reducible assumption)))) hgr;have f4:=push_frozen HP.out (by repeat' (first | (with_reducible exact Below.refl _ _) | (with_reducible assumption) | (with_reducible refine kept_alloc ?_ _) | (with_reducible refine kept_drewN ?_ _) | (with_reducible refine Below.drew ?_) | (with_reducible refine Below.setCell ?_ (by first | omega | (simp;omega) | (simp;done)) _) | (refine kept_trans ?_ (by with_reducible assumption)))) hgr)
 all_goals (go_end0;exact ⟨rfl,push_end HP.out hB (by repeat' (first | (with_reducible exact Below.refl _ _) | (with_reducible assumption) | (with_reducible refine kept_alloc ?_ _) | (with_reducible refine kept_drewN ?_ _) | (with_reducible refine Below.drew ?_) | (with_reducible refine Below.setCell ?_ (by first | omega | (simp;omega) | (simp;done)) _) | (refine kept_trans ?_ (by with_reducible assumption)))) hgr how1 hob1 (by simp)⟩)
end
section
open Go.ChangeShapes Go.WideShapes Go.ChangeAt Go.RowKit
set_option maxHeartbeats 1000000 in
theorem hup_any (w:World) (pb g cap j n:Nat) (l:List Du) (h:Pile w pb g cap l) (hn:l.length=n) (hm:n≤1000) (hj:j<n) (hu:UpInv l j n) :
  Calls Tryz.prog 220 #[.iface 199 (.pointer (some ⟨pb,0,none⟩)),.int .i64 j] w fun e w' => e = .returned (.tuple #[])∧∃ l',Pile w' pb g cap l' ∧ l'.Perm l∧HeapN l' n∧Out [g] w w' := by
 have H:=Lib.hid h
 have HN:=Lib.hid hn
 have HU:=Lib.hid hu
 clear h hn hu
 go_enter Tryz.func220,Tryz.ntmps220
 go_wp2
 go_loopw [1] (fun s1 wr=>∃ (k:Nat) (l' : List Du),s1 = .int .i64 k∧k<n∧Pile wr pb g cap l' ∧ l'.length=n∧UpInv l' k n∧l'.Perm l∧Out [g] w wr) (fun s1 _=>(intOf s1).toNat)
 case atStart=>exact ⟨j,l,rfl,hj,H.out,HN.out,HU.out,List.Perm.refl _,Out.refl _ _⟩
 case round =>
  obtain ⟨k,l',rfl,hk,hP,hl,hU,hp,hO⟩:=hrel
  clear H HN HU hj
  by_cases hk0:k=0
  ·subst hk0
   have hE:=Lib.hid (And.intro hP (And.intro hp (And.intro (up_zero hU) hO)))
   clear hP hp hU hO hl
   go_wp2
   go_end0
   exact ⟨rfl,l',hE.out.1,hE.out.2.1,hE.out.2.2.1,hE.out.2.2.2⟩
  ·obtain ⟨i,hi⟩:∃ i,(k - 1) / 2=i:=⟨_,rfl⟩
   have b1:(1:Int)≤(k:Int):=by omega
   have b2:(k:Int)≤1000:=by omega
   have b3:((k:Int) - 1) / 2=(i:Int):=by omega
   have b4:((i:Int)==(k:Int))=false:=by simp;omega
   have hik:i<k:=by omega
   have hP' := Lib.hid hP
   have HI:=Lib.hid hi
   have hl' := Lib.hid hl
   have hE:=Lib.hid (And.intro hp (And.intro hU hO))
   clear hP hl hp hU hO hi
   cases hd:dahB (gt l' k) (gt l' i)
   ·have hE2:=Lib.hid (up_done hE.out.2.1 (by rw [HI.out];exact hd))
    go_wp2_with fail
    refine (pless_any wr pb g cap l' k i hP'.out (by rw [hl'.out];omega) (by rw [hl'.out];omega)).mono ?_
    rintro e wx ⟨rfl,hgx⟩
    rw [hd]
    go_wp2
    go_end0
    exact ⟨rfl,l',hP'.out.kept hgx,hE.out.1,hE2.out,hE.out.2.2.then hgx⟩
   ·have hE2:=Lib.hid (up_step hE.out.2.1 (by rw [hl'.out];omega) (by omega) hk (by rw [HI.out];exact hd))
    go_wp2_with fail
    refine (pless_any wr pb g cap l' k i hP'.out (by rw [hl'.out];omega) (by rw [hl'.out];omega)).mono ?_
    rintro e wx ⟨rfl,hgx⟩
    rw [hd]
    go_wp2_with fail
    refine (pswap_any wx pb g cap l' i k (hP'.out.kept hgx) (by rw [hl'.out];omega) (by rw [hl'.out];omega)).mono ?_
    rintro e wy ⟨rfl,hPy,hOy⟩
    have hPy' := Lib.hid hPy
    have hOy' := Lib.hid hOy
    clear hPy hOy hd
    go_wp2
    go_roundw
    case rel=>exact ⟨i,sw l' i k,rfl,by omega,hPy'.out,by rw [sw_len];exact hl'.out,by rw [← HI.out];exact hE2.out,(sw_perm (by rw [hl'.out];omega) (by rw [hl'.out];omega)).trans hE.out.1,(hE.out.2.2.then hgx).trans hOy'.out (fun _ h=>.inl h)⟩
    case measure=>simp [intOf];omega
def DownPost (pb g cap n:Nat) (l:List Du) (w:World) (e:Ending) (w' : World):Prop :=
 ∃ (b:Bool) (l' : List Du),e = .returned (.bool b)∧Pile w' pb g cap l' ∧ l'.Perm l∧HeapN l' n∧(∀ k,n≤k→gt l' k=gt l k)∧Out [g] w w'
set_option maxHeartbeats 2000000 in
theorem hdown_any (w:World) (pb g cap n N:Nat) (l:List Du) (h:Pile w pb g cap l) (hN:l.length=N) (hn:n≤N) (hm:N≤1000) (hu:DownInv l 0 n) :
  Calls Tryz.prog 221 #[.iface 199 (.pointer (some ⟨pb,0,none⟩)),.int .i64 0,.int .i64 n] w (DownPost pb g cap n l w):=by
 have H:=Lib.hid h
 have HN:=Lib.hid hN
 have HU:=Lib.hid hu
 clear h hN hu
 go_enter Tryz.func221,Tryz.ntmps221
 go_wp2
 go_loopw [7] (fun s7 wr=>∃ (k:Nat) (l' : List Du),s7 = .int .i64 k∧k≤N∧Pile wr pb g cap l' ∧ l'.length=N∧DownInv l' k n∧l'.Perm l∧(∀ x,n≤x→gt l' x=gt l x)∧Out [g] w wr) (fun s7 _=>N - (intOf s7).toNat)
 case atStart=>exact ⟨0,l,rfl,by omega,H.out,HN.out,HU.out,List.Perm.refl _,fun _ _=>rfl,Out.refl _ _⟩
 case round =>
  obtain ⟨k,l',rfl,hk,hP,hl,hU,hp,hg,hO⟩:=hrel
  clear H HN HU
  have b0:(0:Int)≤(k:Int):=by omega
  have b1:(k:Int)≤1000:=by omega
  obtain ⟨J1,hJ1⟩:∃ J1,2 * k+1=J1:=⟨_,rfl⟩
  have e1:(2:Int) * (k:Int)+1=(J1:Int):=by omega
  have b2:(0:Int)≤(J1:Int):=by omega
  have b5:(J1:Int)≤2001:=by omega
  have HJ1:=Lib.hid hJ1
  by_cases h1:n≤J1
  ·have b3:(n:Int)≤(J1:Int):=by omega
   have hE:=Lib.hid (And.intro hP (And.intro hp (And.intro (down_leaf hU (by omega)) (And.intro hg hO))))
   clear hP hl hU hp hg hO hJ1
   go_wp2
   go_ret
   exact ⟨_,l',rfl,hE.out.1,hE.out.2.1,hE.out.2.2.1,hE.out.2.2.2.1,hE.out.2.2.2.2⟩
  ·have b3:(J1:Int)<(n:Int):=by omega
   obtain ⟨J2,hJ2⟩:∃ J2,J1+1=J2:=⟨_,rfl⟩
   have e2:(J1:Int)+1=(J2:Int):=by omega
   have hP' := Lib.hid hP
   have hl' := Lib.hid hl
   have hKb:=kid_bd (l:=l') (i:=k) (n:=n) (by omega)
   have hE:=Lib.hid (And.intro hp (And.intro hU (And.intro hg hO)))
   clear hP hl hU hp hg hO
   have hJ1' := hJ1
   have HJ2:=Lib.hid hJ2
   by_cases h2:J2<n
   ·have b4:(J2:Int)<(n:Int):=by omega
    cases hc:dahB (gt l' J2) (gt l' J1)
    ·have hK:Hid (kid l' k n=J1):=by
      show kid l' k n=J1
      unfold kid
      rw [if_neg (by rintro ⟨_,hx⟩;rw [show 2 * k+2=J2 by omega,hJ1,hc] at hx;cases hx)];omega
     clear hJ1 hJ2 hJ1' hKb
     go_wp2_with fail
     refine (pless_any wr pb g cap l' J2 J1 hP'.out (by rw [hl'.out];omega) (by rw [hl'.out];omega)).mono ?_
     rintro e wx ⟨rfl,hgx⟩
     rw [hc]
     clear hc
     go_wp2_with fail;refine (pless_any _ pb g cap l' J1 k (hP'.out.kept hgx) (by rw [hl'.out];omega) (by rw [hl'.out];omega)).mono ?_;rintro e wy ⟨rfl,hgy⟩;have hgz:Below wr.heap.size wr wy:=kept_trans hgx hgy;have hPy:=Lib.hid (hP'.out.kept hgz);cases hd:dahB (gt l' J1) (gt l' k)
     ·have hE2:=Lib.hid (down_done hE.out.2.1 (by rw [hK.out];exact hd));clear hd;go_wp2;go_ret;exact ⟨_,l',rfl,hPy.out,hE.out.1,hE2.out,hE.out.2.2.1,hE.out.2.2.2.then hgz⟩
     ·have q1:=HJ1.out
      have hE2:=Lib.hid (down_step hE.out.2.1 (by rw [hl'.out];omega) (by omega) (by rw [hK.out];exact hd));clear hd;go_wp2_with fail;refine (pswap_any wy pb g cap l' k J1 hPy.out (by rw [hl'.out];omega) (by rw [hl'.out];omega)).mono ?_;rintro e wz ⟨rfl,hPz,hOz⟩;have hPz' := Lib.hid hPz;have hOz' := Lib.hid hOz;clear hPz hOz;go_wp2;go_roundw
      case rel=>exact ⟨J1,sw l' k J1,rfl,by omega,hPz'.out,by rw [sw_len];exact hl'.out,by rw [← hK.out];exact hE2.out,(sw_perm (by rw [hl'.out];omega) (by rw [hl'.out];omega)).trans hE.out.1,(fun x hx=>(sw_o (by rw [hl'.out];omega) (by rw [hl'.out];omega) (by omega) (by omega)).trans (hE.out.2.2.1 x hx)),(hE.out.2.2.2.then hgz).trans hOz'.out (fun _ h=>.inl h)⟩
      case measure=>simp [intOf];omega
    ·have hK:Hid (kid l' k n=J2):=by
      show kid l' k n=J2
      unfold kid
      rw [if_pos ⟨by omega,by rw [show 2 * k+2=J2 by omega,hJ1];exact hc⟩];omega
     clear hJ1 hJ2 hJ1' hKb
     go_wp2_with fail
     refine (pless_any wr pb g cap l' J2 J1 hP'.out (by rw [hl'.out];omega) (by rw [hl'.out];omega)).mono ?_
     rintro e wx ⟨rfl,hgx⟩
     rw [hc]
     clear hc
     go_wp2_with fail;refine (pless_any _ pb g cap l' J2 k (hP'.out.kept hgx) (by rw [hl'.out];omega) (by rw [hl'.out];omega)).mono ?_;rintro e wy ⟨rfl,hgy⟩;have hgz:Below wr.heap.size wr wy:=kept_trans hgx hgy;have hPy:=Lib.hid (hP'.out.kept hgz);cases hd:dahB (gt l' J2) (gt l' k)
     ·have hE2:=Lib.hid (down_done hE.out.2.1 (by rw [hK.out];exact hd));clear hd;go_wp2;go_ret;exact ⟨_,l',rfl,hPy.out,hE.out.1,hE2.out,hE.out.2.2.1,hE.out.2.2.2.then hgz⟩
     ·have q1:=HJ1.out
      have q2:=HJ2.out
      have hE2:=Lib.hid (down_step hE.out.2.1 (by rw [hl'.out];omega) (by omega) (by rw [hK.out];exact hd));clear hd;go_wp2_with fail;refine (pswap_any wy pb g cap l' k J2 hPy.out (by rw [hl'.out];omega) (by rw [hl'.out];omega)).mono ?_;rintro e wz ⟨rfl,hPz,hOz⟩;have hPz' := Lib.hid hPz;have hOz' := Lib.hid hOz;clear hPz hOz;go_wp2;go_roundw
      case rel=>exact ⟨J2,sw l' k J2,rfl,by omega,hPz'.out,by rw [sw_len];exact hl'.out,by rw [← hK.out];exact hE2.out,(sw_perm (by rw [hl'.out];omega) (by rw [hl'.out];omega)).trans hE.out.1,(fun x hx=>(sw_o (by rw [hl'.out];omega) (by rw [hl'.out];omega) (by omega) (by omega)).trans (hE.out.2.2.1 x hx)),(hE.out.2.2.2.then hgz).trans hOz'.out (fun _ h=>.inl h)⟩
      case measure=>simp [intOf];omega
   ·have b4:(n:Int)≤(J2:Int):=by omega
    have hK:Hid (kid l' k n=J1):=by
     show kid l' k n=J1
     unfold kid
     rw [if_neg (by omega)];omega
    clear hJ1 hJ2 hJ1' hKb
    have hgx:Below wr.heap.size wr wr:=Below.refl _ _
    go_wp2_with fail;refine (pless_any _ pb g cap l' J1 k (hP'.out.kept hgx) (by rw [hl'.out];omega) (by rw [hl'.out];omega)).mono ?_;rintro e wy ⟨rfl,hgy⟩;have hgz:Below wr.heap.size wr wy:=kept_trans hgx hgy;have hPy:=Lib.hid (hP'.out.kept hgz);cases hd:dahB (gt l' J1) (gt l' k)
    ·have hE2:=Lib.hid (down_done hE.out.2.1 (by rw [hK.out];exact hd));clear hd;go_wp2;go_ret;exact ⟨_,l',rfl,hPy.out,hE.out.1,hE2.out,hE.out.2.2.1,hE.out.2.2.2.then hgz⟩
    ·have q1:=HJ1.out
     have hE2:=Lib.hid (down_step hE.out.2.1 (by rw [hl'.out];omega) (by omega) (by rw [hK.out];exact hd));clear hd;go_wp2_with fail;refine (pswap_any wy pb g cap l' k J1 hPy.out (by rw [hl'.out];omega) (by rw [hl'.out];omega)).mono ?_;rintro e wz ⟨rfl,hPz,hOz⟩;have hPz' := Lib.hid hPz;have hOz' := Lib.hid hOz;clear hPz hOz;go_wp2;go_roundw
     case rel=>exact ⟨J1,sw l' k J1,rfl,by omega,hPz'.out,by rw [sw_len];exact hl'.out,by rw [← hK.out];exact hE2.out,(sw_perm (by rw [hl'.out];omega) (by rw [hl'.out];omega)).trans hE.out.1,(fun x hx=>(sw_o (by rw [hl'.out];omega) (by rw [hl'.out];omega) (by omega) (by omega)).trans (hE.out.2.2.1 x hx)),(hE.out.2.2.2.then hgz).trans hOz'.out (fun _ h=>.inl h)⟩
     case measure=>simp [intOf];omega
end
section
open Go.ChangeShapes Go.WideShapes Go.ChangeAt Go.RowKit
def PushPost (pb g:Nat) (l:List Du) (d:Du) (w:World) (e:Ending) (w' : World):Prop :=
 e = .returned (.tuple #[])∧∃ (g' cap' : Nat) (l' : List Du),Pile w' pb g' cap' l' ∧ l'.Perm (l++[d])∧Heap l' ∧ Out [pb,g] w w' ∧ (g' = g∨w.heap.size≤g')
def PopPost (pb g cap:Nat) (l:List Du) (v:Value) (w:World) (e:Ending) (w' : World):Prop :=
 e = .returned v∧∃ (l' : List Du),Pile w' pb g cap l' ∧ l.Perm (gt l 0::l')∧Heap l' ∧ Out [pb,g] w w'
set_option maxHeartbeats 1000000 in
theorem hpush_any (w:World) (pb g cap:Nat) (l:List Du) (d:Du) (h:Pile w pb g cap l) (hh:Heap l) (hm:l.length≤900) :
  Calls Tryz.prog 204 #[.iface 199 (.pointer (some ⟨pb,0,none⟩)),.iface 88 (.agg #[.int .i64 d.tm,.int .i64 d.id])] w (PushPost pb g l d w):=by
 have H:=Lib.hid h
 have HH:=Lib.hid hh
 clear h hh
 go_enter Tryz.func204,Tryz.ntmps204
 go_wp2_with fail
 refine (ppush_any w pb g cap l d H.out (by omega)).mono ?_
 rintro e w1 ⟨rfl,g1,k1,hP,hO,hg⟩
 have hP' := Lib.hid hP
 have hE:=Lib.hid (And.intro hO hg)
 clear hP hO hg
 go_wp2_with fail
 refine (plen_any w1 pb g1 k1 _ hP'.out).mono ?_
 rintro e w2 ⟨rfl,hg2⟩
 rw [List.length_append,List.length_singleton]
 have b1:(0:Int)≤(l.length:Int):=by omega
 have b2:(l.length:Int)≤900:=by omega
 go_wp2_with fail
 refine (hup_any w2 pb g1 k1 l.length (l.length+1) (l++[d]) (hP'.out.kept hg2) (by simp) (by omega) (by omega) (push_inv HH.out)).mono ?_
 rintro e w3 ⟨rfl,l3,hP3,hp3,hh3,hO3⟩
 have hP3' := Lib.hid hP3
 have hE3:=Lib.hid (And.intro hp3 (And.intro hh3 hO3))
 clear hP3 hp3 hh3 hO3
 go_wp2
 go_end0
 refine ⟨rfl,g1,k1,l3,hP3'.out,hE3.out.1,heap_of_len hE3.out.2.1 (by have:=hE3.out.1.length_eq;simpa using this),?_,hE.out.2⟩
 refine (hE.out.1.then hg2).trans hE3.out.2.2 (fun j hj=>?_)
 rw [List.mem_singleton] at hj;subst hj
 rcases hE.out.2 with rfl | h
 ·exact .inl (by simp)
 ·exact .inr h
set_option maxHeartbeats 1000000 in
theorem hpop_any (w:World) (pb g cap n:Nat) (l:List Du) (h:Pile w pb g cap l) (hh:Heap l) (hn:l.length=n+1) (hm:n≤900) :
  Calls Tryz.prog 205 #[.iface 199 (.pointer (some ⟨pb,0,none⟩))] w (PopPost pb g cap l (.iface 88 (.agg #[.int .i64 (gt l 0).tm,.int .i64 (gt l 0).id])) w):=by
 have H:=Lib.hid h
 have HH:=Lib.hid hh
 have HN:=Lib.hid hn
 clear h hh hn
 have b1:(0:Int)≤(n:Int):=by omega
 have b2:(n:Int)≤900:=by omega
 go_enter Tryz.func205,Tryz.ntmps205
 go_wp2_with fail
 refine (plen_any w pb g cap _ H.out).mono ?_
 rintro e w1 ⟨rfl,hg1⟩
 rw [HN.out]
 have hP1:=Lib.hid (H.out.kept hg1)
 go_wp2_with fail
 refine (pswap_any w1 pb g cap l 0 n hP1.out (by rw [HN.out];omega) (by rw [HN.out];omega)).mono ?_
 rintro e w2 ⟨rfl,hP2,hO2⟩
 have hP2' := Lib.hid hP2
 have hO2' := Lib.hid hO2
 clear hP2 hO2
 go_wp2_with fail
 refine (hdown_any w2 pb g cap n (n+1) (sw l 0 n) hP2'.out (by rw [sw_len,HN.out]) (by omega) (by omega) (pop_inv HH.out HN.out)).mono ?_
 rintro e w3 ⟨b,l3,rfl,hP3,hp3,hh3,hg3,hO3⟩
 have hl3:l3.length=n+1:=by rw [hp3.length_eq,sw_len,HN.out]
 have hl3' := Lib.hid hl3
 have hlast:gt l3 n=gt l 0:=by
  rw [hg3 n (Nat.le_refl _),sw_j (by rw [HN.out];omega) (by rw [HN.out];omega)]
 have hE3:=Lib.hid (And.intro (And.intro hp3 (And.intro hh3 hO3)) hlast)
 have hP3' := Lib.hid hP3
 clear hP3 hp3 hh3 hO3 hg3 hlast hl3
 go_wp2_with fail
 refine (ppop_any w3 pb g cap n l3 hP3'.out hl3'.out (by omega)).mono ?_
 rw [hE3.out.2]
 rintro e w4 ⟨rfl,hP4,hO4⟩
 have hE4:=Lib.hid (And.intro hP4 hO4)
 clear hP4 hO4
 go_wp2
 go_ret
 refine ⟨rfl,l3.take n,hE4.out.1,?_,heap_take hE3.out.1.2.1 hl3'.out,?_⟩
 ·exact perm_last (hE3.out.1.1.trans (sw_perm (by rw [HN.out];omega) (by rw [HN.out];omega))) hl3'.out hE3.out.2
 ·refine ((((Out.of_kept hg1).trans hO2'.out ?_).trans hE3.out.1.2.2 ?_).trans hE4.out.2 ?_) <;> (intro j hj;rw [List.mem_singleton] at hj;subst hj;exact .inl (by simp))
set_option maxHeartbeats 1000000 in
theorem dnext_any (w:World) (pb g cap n:Nat) (l:List Du) (h:Pile w pb g cap l) (hh:Heap l) (hn:l.length=n+1) (hm:n≤900) :
  Calls Tryz.prog 192 #[.iface 199 (.pointer (some ⟨pb,0,none⟩))] w (PopPost pb g cap l (.agg #[.int .i64 (gt l 0).tm,.int .i64 (gt l 0).id]) w):=by
 have H:=Lib.hid h
 have HE:=Lib.hid (And.intro hh hn)
 have ht:=due_assert (gt l 0).tm (gt l 0).id
 clear h hh hn
 go_enter Tryz.func192,Tryz.ntmps192
 go_wp2_with fail
 refine (hpop_any _ pb g cap n l (H.out.kept (by repeat' (first | (with_reducible exact Below.refl _ _) | (with_reducible assumption) | (with_reducible refine kept_alloc ?_ _) | (with_reducible refine kept_drewN ?_ _) | (with_reducible refine Below.drew ?_) | (with_reducible refine Below.setCell ?_ (by first | omega | (simp;omega) | (simp;done)) _) | (refine kept_trans ?_ (by with_reducible assumption))))) HE.out.1 HE.out.2 hm).mono ?_
 rintro e w1 ⟨rfl,l1,hP,hp,hh1,hO⟩
 have hz:w.heap.size<w1.heap.size:=by have:=hO.size;simp at this;omega
 have hr:w.heap.size≠pb∧w.heap.size≠g:=by have:=H.out.lt;omega
 have hb:w1.heap[w.heap.size]? = _:=(hO.block w.heap.size (by simp) (by simp [hr])).trans (heap_alloc_new w _)
 have q1:w1.cell? ⟨w.heap.size,0,none⟩=some (.int .i64 0):=by simp [World.cell?,hb]
 have q2:w1.cell? ⟨w.heap.size,1,none⟩=some (.int .i64 0):=by simp [World.cell?,hb]
 have f1:∀ j,w1.frozen? ⟨w.heap.size,j,none⟩=false:=fun j=>by simp [World.frozen?,hb]
 have hE:=Lib.hid (And.intro hP (And.intro hp (And.intro hh1 hO)))
 have hz1:=Lib.hid hr
 clear hP hp hh1 hO hb hr
 go_wp2
 have hO2:Out [w.heap.size] w1 (((w1.setCell ⟨w.heap.size,0,none⟩ (.int .i64 (gt l 0).tm)).setCell ⟨w.heap.size,1,none⟩ (.int .i64 (gt l 0).id)).alloc (.cells #[.int .i64 (gt l 0).tm,.int .i64 (gt l 0).id] 88)) :=
  (((Out.refl _ w1).set (x:=⟨w.heap.size,_,none⟩) (.inl (by simp)) _).set (x:=⟨w.heap.size,_,none⟩) (.inl (by simp)) _).alloc _
 refine bodyPost_ret (v:=.agg #[.int .i64 (gt l 0).tm,.int .i64 (gt l 0).id]) (by simp [results,Tryz.results192,go_sem,hz,q1,q2]) rfl ⟨rfl,l1,hE.out.1.out hO2 (by have:=hz1.out;simp;omega) (by have:=hz1.out;simp;omega),hE.out.2.1,hE.out.2.2.1,?_⟩
 refine (Out.after ((Below.refl _ _).alloc (Nat.le_refl _) _) hE.out.2.2.2).trans hO2 (fun j hj=>?_)
 rw [List.mem_singleton] at hj;subst hj;exact .inr (Nat.le_refl _)
end
section
open Go.ChangeShapes Go.WideShapes Go.ChangeAt Go.RowKit
structure MapAt (w:World) (mb:Nat) (l:List Du) (es:Array MapEntry) (ck:Nat):Prop where
 obj:w.heap[mb]? = some (.map es ck)
 ents:es.toList.map (fun e=>(e.key,e.val))=l.map (fun d=>(Value.int .i64 d.id,.agg #[.int .i64 d.tm,.int .i64 d.id]))
 born:∀ x∈es.toList,x.born<ck
 nodup:(es.toList.map (·.born)).Nodup
def MapD (w:World) (mb:Nat) (l:List Du):Prop:=∃ es ck,MapAt w mb l es ck
theorem MapD.of_block {w w' : World} {mb:Nat} {l:List Du} (h:MapD w mb l) (hk:w'.heap[mb]? = w.heap[mb]?):MapD w' mb l:=by
 obtain ⟨es,ck,h1,h2,h3,h4⟩:=h
 exact ⟨es,ck,hk.trans h1,h2,h3,h4⟩
theorem MapD.lt {w:World} {mb:Nat} {l:List Du} (h:MapD w mb l):mb<w.heap.size:=by
 obtain ⟨es,ck,h1,_⟩:=h
 exact (Array.getElem?_eq_some_iff.1 h1).1
theorem MapD.kept {w w' : World} {mb:Nat} {l:List Du} (h:MapD w mb l) (hk:Below w.heap.size w w'):MapD w' mb l:=h.of_block (hk.block _ h.lt)
theorem MapD.out {w w' : World} {mb:Nat} {l:List Du} {S:List Nat} (h:MapD w mb l) (hk:Out S w w') (hn:mb∉S):MapD w' mb l:=h.of_block (hk.block _ h.lt hn)
theorem MapAt.at {w:World} {mb:Nat} {l:List Du} {es:Array MapEntry} {ck:Nat} (h:MapAt w mb l es ck) {j:Nat} {e:MapEntry} (he:es.toList[j]? = some e):∃ d,l[j]? = some d∧e.key = .int .i64 d.id∧e.val = .agg #[.int .i64 d.tm,.int .i64 d.id]:=by
 have h1:=congrArg (·[j]?) h.ents
 simp only [List.getElem?_map,he,Option.map_some] at h1
 obtain ⟨d,hd,h2⟩:=Option.map_eq_some_iff.1 h1.symm
 simp only [Prod.mk.injEq] at h2
 exact ⟨d,hd,h2.1.symm,h2.2.symm⟩
theorem MapAt.mem {w:World} {mb:Nat} {l:List Du} {es:Array MapEntry} {ck:Nat} (h:MapAt w mb l es ck) {e:MapEntry} (he:e∈es.toList):∃ d∈l,e.key = .int .i64 d.id∧e.val = .agg #[.int .i64 d.tm,.int .i64 d.id]:=by
 obtain ⟨j,hj⟩:=List.getElem?_of_mem he
 obtain ⟨d,hd,h1⟩:=h.at hj
 exact ⟨d,List.mem_of_getElem? hd,h1⟩
theorem MapAt.size {w:World} {mb:Nat} {l:List Du} {es:Array MapEntry} {ck:Nat} (h:MapAt w mb l es ck):es.size=l.length:=by
 have:=congrArg List.length h.ents
 simpa using this
theorem MapAt.find {w:World} {mb:Nat} {l:List Du} {es:Array MapEntry} {ck:Nat} (h:MapAt w mb l es ck) (i:Int) :
  (Instr.findNow (.int .i64) (.int .i64 i) es.toList 0=some none∧dhasB l i=false) ∨
  ∃ j d,Instr.findNow (.int .i64) (.int .i64 i) es.toList 0=some (some (j,.agg #[.int .i64 d.tm,.int .i64 d.id]))∧l[j]? = some d∧d.id=i∧j<es.size∧dhasB l i=true:=by
 have hks:∀ x∈es.toList,MapKept.IsKey (.int .i64) x.key:=fun x hx=>by
  obtain ⟨d,_,hk,_⟩:=h.mem hx
  rw [hk];rfl
 rcases MapKept.findNow_spec (d:=.int .i64) (k:=.int .i64 i) rfl es.toList 0 hks with ⟨h1,h2⟩ | ⟨j,e,h1,h2,h3⟩
 ·left
  refine ⟨h1,nhas_iff.2 fun d hd hdi=>?_⟩
  obtain ⟨j,hj⟩:=List.getElem?_of_mem hd
  have h4:=congrArg (·[j]?) h.ents
  simp only [List.getElem?_map,hj,Option.map_some] at h4
  obtain ⟨x,hx,h5⟩:=Option.map_eq_some_iff.1 h4
  simp only [Prod.mk.injEq] at h5
  exact h2 x (List.mem_of_getElem? hx) (by rw [h5.1,hdi])
 ·right
  obtain ⟨d,hd,h4,h5⟩:=h.at h2
  refine ⟨j,d,by rw [h1,h5,Nat.zero_add],hd,?_,by simpa using (List.getElem?_eq_some_iff.1 h2).1,dhas_iff.2 ⟨d,List.mem_of_getElem? hd,?_⟩⟩
  ·rw [h4] at h3;cases h3;rfl
  ·rw [h4] at h3;cases h3;rfl
theorem due_zero (w:World):(zeroValue 88).run Tryz.prog w = .ok (.agg #[.int .i64 0,.int .i64 0]) w:=by kernel_rfl
theorem map_look {w:World} {mb:Nat} {l:List Du} (h:MapD w mb l) (i:Int):∃ x:Du,(Instr.lookup 184 (.map (some mb)) (.int .i64 i) true).run Tryz.prog w = .ok (.tuple #[.agg #[.int .i64 x.tm,.int .i64 x.id],.bool (dhasB l i)]) w:=by
 obtain ⟨es,ck,h⟩:=h
 have hu:=Tryz.underlying184
 have hd:=Tryz.underlying3
 have hg:=MapKept.run_getObj_map (P:=Tryz.prog) h.obj
 have hc:=MapKept.run_checkKey (P:=Tryz.prog) (w:=w) (k:=.int .i64 i) hd rfl es.isEmpty 9999
 have hz:=due_zero w
 rcases h.find i with ⟨h1,h2⟩ | ⟨j,d,h1,h2,h3,h4,h5⟩
 ·have hf:=MapKept.run_findKey (P:=Tryz.prog) (w:=w) hd h1
  exact ⟨⟨0,0⟩,by simp [Instr.lookup,run_underlying hu,hg,hc,hf,hz,h2,Result.andThen]⟩
 ·have hf:=MapKept.run_findKey (P:=Tryz.prog) (w:=w) hd h1
  exact ⟨d,by simp [Instr.lookup,run_underlying hu,hg,hc,hf,h5,Result.andThen]⟩
theorem out_set {w:World} {mb:Nat} {o o' : Obj} (h:w.heap[mb]? = some o):Out [mb] w { w with heap:=w.heap.setIfInBounds mb o' }∧({ w with heap:=w.heap.setIfInBounds mb o' }:World).heap.size=w.heap.size∧({ w with heap:=w.heap.setIfInBounds mb o' }:World).heap[mb]? = some o' := by
 have hs:=MapKept.heap_set (o' := o') h
 exact ⟨⟨rfl,rfl,rfl,by simp,fun j _ hn=>hs.2 j (by simpa using hn)⟩,by simp,hs.1⟩
theorem map_put {w:World} {mb:Nat} {l:List Du} (h:MapD w mb l) (d:Du) (hn:dhasB l d.id=false) :
  ∃ w',(Instr.mapUpdate 184 (.map (some mb)) (.int .i64 d.id) (.agg #[.int .i64 d.tm,.int .i64 d.id])).run Tryz.prog w = .ok () w' ∧ MapD w' mb (l++[d])∧Out [mb] w w' ∧ w'.heap.size=w.heap.size:=by
 obtain ⟨es,ck,h⟩:=h
 have hu:=Tryz.underlying184
 have hd:=Tryz.underlying3
 have hg:=MapKept.run_getObj_map (P:=Tryz.prog) h.obj
 have hc:=MapKept.run_checkKey (P:=Tryz.prog) (w:=w) (k:=.int .i64 d.id) hd rfl false 9999
 rcases h.find d.id with ⟨h1,h2⟩ | ⟨j,x,h1,h2,h3,h4,h5⟩
 ·have hf:=MapKept.run_findKey (P:=Tryz.prog) (w:=w) hd h1
  obtain ⟨o1,o2,o3⟩:=out_set (o' := .map (es.push { key:=.int .i64 d.id,val:=.agg #[.int .i64 d.tm,.int .i64 d.id],born:=ck }) (ck+1)) h.obj
  refine ⟨_,by simp [Instr.mapUpdate,run_underlying hu,hg,hc,hf,MapKept.run_setObj_map _ h.obj,Result.andThen],⟨_,_,o3,?_,?_,?_⟩,o1,o2⟩
  ·simp [h.ents]
  ·intro x hx
   simp only [Array.toList_push,List.mem_append,List.mem_singleton] at hx
   rcases hx with hx | rfl
   ·exact Nat.lt_succ_of_lt (h.born x hx)
   ·exact Nat.lt_succ_self _
  ·simp only [Array.toList_push,List.map_append,List.map_cons,List.map_nil]
   refine List.nodup_append.2 ⟨h.nodup,by simp,?_⟩
   intro a ha b hb
   simp only [List.mem_singleton] at hb
   subst hb
   obtain ⟨x,hx,rfl⟩:=List.mem_map.1 ha
   exact Nat.ne_of_lt (h.born x hx)
 ·rw [hn] at h5;cases h5
theorem erase_without:∀ {l:List Du} {j:Nat} {d:Du},Apart l→l[j]? = some d→l.eraseIdx j=without l d.id
 | [],_,_,_,h=>by simp at h
 | e::l,0,d,ha,h=>by
  simp only [List.getElem?_cons_zero,Option.some.injEq] at h
  subst h
  have hp:=(List.pairwise_cons.1 ha).1
  unfold without
  rw [List.eraseIdx_cons_zero,List.filter_cons_of_neg (by simp),List.filter_eq_self.2 (fun x hx=>by simpa using Ne.symm (hp x hx))]
 | e::l,j+1,d,ha,h=>by
  simp only [List.getElem?_cons_succ] at h
  have hp:=List.pairwise_cons.1 ha
  have ih:=erase_without hp.2 h
  have hne:e.id≠d.id:=hp.1 d (List.mem_of_getElem? h)
  unfold without at *
  rw [List.eraseIdx_cons_succ,ih,List.filter_cons_of_pos (by simpa using hne)]
theorem without_none {l:List Du} {i:Int} (h:dhasB l i=false):without l i=l:=List.filter_eq_self.2 (fun x hx=>by simpa using nhas_iff.1 h x hx)
theorem erase_toList (es:Array MapEntry) {j:Nat} (hj:j<es.size):(es.eraseIdxIfInBounds j).toList=es.toList.eraseIdx j:=by
 unfold Array.eraseIdxIfInBounds
 rw [dif_pos hj]
 simp
theorem map_drop {w:World} {mb:Nat} {l:List Du} (h:MapD w mb l) (i:Int) (ha:Apart l) (ty:TypeId) :
  ∃ w',(Builtin.delete_ #[184,3] ty #[.map (some mb),.int .i64 i]).run Tryz.prog w = .ok (.tuple #[]) w' ∧ MapD w' mb (without l i)∧Out [mb] w w' ∧ w'.heap.size=w.heap.size:=by
 obtain ⟨es,ck,h⟩:=h
 have hu:=Tryz.underlying184
 have hd:=Tryz.underlying3
 have hg:=MapKept.run_getObj_map (P:=Tryz.prog) h.obj
 have hc:=MapKept.run_checkKey (P:=Tryz.prog) (w:=w) (k:=.int .i64 i) hd rfl es.isEmpty 9999
 rcases h.find i with ⟨h1,h2⟩ | ⟨j,x,h1,h2,h3,h4,h5⟩
 ·have hf:=MapKept.run_findKey (P:=Tryz.prog) (w:=w) hd h1
  obtain ⟨o1,o2,o3⟩:=out_set (o' := .map es ck) h.obj
  refine ⟨_,by simp [Builtin.delete_,run_underlying hu,hg,hc,hf,MapKept.run_setObj_map _ h.obj,Result.andThen],⟨_,_,o3,?_,h.born,h.nodup⟩,o1,o2⟩
  rw [without_none h2];exact h.ents
 ·have hf:=MapKept.run_findKey (P:=Tryz.prog) (w:=w) hd h1
  obtain ⟨o1,o2,o3⟩:=out_set (o' := .map (es.eraseIdxIfInBounds j) ck) h.obj
  have ht:=erase_toList es h4
  refine ⟨_,by simp [Builtin.delete_,run_underlying hu,hg,hc,hf,MapKept.run_setObj_map _ h.obj,Result.andThen],⟨_,_,o3,?_,?_,?_⟩,o1,o2⟩
  ·rw [ht,← h3,← erase_without ha h2,Go.ChangeMaps.map_eraseIdx,Go.ChangeMaps.map_eraseIdx,h.ents]
  ·intro x hx
   rw [ht] at hx
   exact h.born x ((List.eraseIdx_sublist _ _).subset hx)
  ·rw [ht]
   exact ((List.eraseIdx_sublist _ _).map _).nodup h.nodup
end
section
open Go.ChangeShapes Go.WideShapes Go.ChangeAt Go.RowKit
def StandPost (w:World) (l:List Du) (e:Ending) (w' : World):Prop :=
 Kept w w' ∧ ((okB l=true∧∃ mb,e = .returned (.tuple #[.map (some mb),.bool true])∧MapD w' mb l∧w.heap.size≤mb)∨(okB l=false∧e = .returned (.tuple #[.map none,.bool false])))
theorem take_gt {l:List Du} {j:Nat} (h:j<l.length):l.take (j+1)=l.take j++[gt l j]:=by
 rw [List.take_succ_eq_append_getElem h]
 simp [gt,List.getD,h]
theorem take_drop_gt {l:List Du} {j:Nat} (h:j<l.length):l=l.take j++gt l j::l.drop (j+1):=by
 have h1:=List.take_append_drop (j+1) l
 rw [take_gt h,List.append_assoc] at h1
 exact h1.symm
theorem last_gt {l:List Du} {j:Nat} (h:j<l.length) (h0:0<j):(l.take j).getLast? = some (gt l (j - 1)):=by
 obtain ⟨i,rfl⟩:∃ i,j=i+1:=⟨j - 1,by omega⟩
 rw [take_gt (by omega)]
 simp
theorem sl_gt {W:World} {l:List Du} {b o n c:Nat} (h:Sl W 2 Du.cells l (.slice (some ⟨b,o,none⟩) n c)) {j:Nat} (hj:j<l.length):W.cell? ⟨b,o+j * 2,none⟩=some (.int .i64 (gt l j).tm)∧W.cell? ⟨b,o+j * 2+1,none⟩=some (.int .i64 (gt l j).id):=by
 obtain ⟨p,k,e,_,_,_,h4⟩:=h.is
 cases e
 obtain ⟨b',o',e,_,h5⟩:=h4 (by intro h;subst h;simp at hj)
 cases e
 have h6:=h5 j (gt l j) (gt_some hj)
 have h7:=h6 0 (by omega)
 have h8:=h6 1 (by omega)
 exact ⟨by simpa [Du.cells] using h7,by simpa [Du.cells] using h8⟩
set_option maxHeartbeats 4000000 in
theorem stand_any (l:List Du) (p:Option Addr) (k:Nat) (w:World) (hl:Sl w 2 Du.cells l (.slice p l.length k)) (hm:l.length≤1000):Calls Tryz.prog 189 #[.slice p l.length k] w (StandPost w l):=by
 have H:=Lib.hid hl
 have hmm:=@run_makeMap Tryz.prog
 obtain ⟨N,hN⟩:∃ N,l.length=N:=⟨_,rfl⟩
 rw [hN] at hl hm ⊢
 have HN:=Lib.hid hN
 clear hN hl
 go_enter Tryz.func189,Tryz.ntmps189
 go_wp2
 clear hmm
 have hM0:MapD (w.alloc (.map #[] 0)) w.heap.size []:=⟨#[],0,heap_alloc_new w _,rfl,by simp,by simp⟩
 go_loopw [12] (fun s12 wr=>∃ j:Nat,s12 = .int .i64 j∧j≤N∧MapD wr w.heap.size (l.take j)∧okB (l.take j)=true∧Below w.heap.size w wr) (fun s12 _=>N - (intOf s12).toNat)
 case atStart=>exact ⟨0,rfl,by omega,hM0,by show okB []=true;decide,by repeat' (first | (with_reducible exact Below.refl _ _) | (with_reducible assumption) | (with_reducible refine kept_alloc ?_ _) | (with_reducible refine kept_drewN ?_ _) | (with_reducible refine Below.drew ?_) | (with_reducible refine Below.setCell ?_ (by first | omega | (simp;omega) | (simp;done)) _) | (refine kept_trans ?_ (by with_reducible assumption)))⟩
 case round =>
  obtain ⟨j,rfl,hj,hM,hok,hB⟩:=hrel
  clear hM0
  by_cases hlt:j<N
  ·have hlt' : j<l.length:=by rw [HN.out];exact hlt
   obtain ⟨p',k',e1,_,_,_,hne⟩:=H.out.is
   cases e1
   obtain ⟨b,o,rfl,hb,-⟩:=hne (by intro h;subst h;simp at hlt')
   obtain ⟨c1,c2⟩:=sl_gt (H.out.kept hB) hlt'
   have hbs:b<wr.heap.size:=by have:=hB.size;omega
   have b1:(0:Int)≤(j:Int):=by omega
   have b2:(j:Int)<(N:Int):=by omega
   obtain ⟨x,hx⟩:=map_look (hM.kept (w' := wr.alloc (.cells #[.int .i64 (gt l j).tm,.int .i64 (gt l j).id] 88)) (by repeat' (first | (with_reducible exact Below.refl _ _) | (with_reducible assumption) | (with_reducible refine kept_alloc ?_ _) | (with_reducible refine kept_drewN ?_ _) | (with_reducible refine Below.drew ?_) | (with_reducible refine Below.setCell ?_ (by first | omega | (simp;omega) | (simp;done)) _) | (refine kept_trans ?_ (by with_reducible assumption))))) (gt l j).id
   obtain ⟨T,hT⟩:∃ T,dhasB (l.take j) (gt l j).id=T:=⟨_,rfl⟩
   rw [hT] at hx
   have HT:=Lib.hid hT
   have HM:=Lib.hid hM
   have Hok:=Lib.hid hok
   have HB:=Lib.hid hB
   obtain ⟨I,hI⟩:∃ I,inTB (gt l j)=I:=⟨_,rfl⟩
   obtain ⟨F,hF⟩:∃ F,ofTB (gt l j)=F:=⟨_,rfl⟩
   have HI:=Lib.hid hI
   have HF:=Lib.hid hF
   clear hM hok hT hB hne
   cases T
   ·cases I
    ·go_wp2;obtain ⟨V,hV⟩:∃ V,(wr.alloc (.cells #[.int .i64 (gt l j).tm,.int .i64 (gt l j).id] 88)).alloc (.cells #[.int .i64 x.tm,.int .i64 x.id] 88)=V:=⟨_,rfl⟩;have hBV:Below wr.heap.size wr V:=(by rw [← hV];repeat' (first | (with_reducible exact Below.refl _ _) | (with_reducible assumption) | (with_reducible refine kept_alloc ?_ _) | (with_reducible refine kept_drewN ?_ _) | (with_reducible refine Below.drew ?_) | (with_reducible refine Below.setCell ?_ (by first | omega | (simp;omega) | (simp;done)) _) | (refine kept_trans ?_ (by with_reducible assumption))));have hcs:CellsAt V [(wr.heap.size,0,.int .i64 (gt l j).tm),(wr.heap.size,1,.int .i64 (gt l j).id)]:=(by rw [← hV];(simp only [CellsAt];(repeat' (first | exact trivial | (refine And.intro ?_ ?_)));all_goals (first | (focus ((try simp only [World.size_setCell,World.size_alloc]);omega)) | (repeat (first | rfl | assumption | (refine (World.cell?_alloc_past _ _ _ ?_).trans ?_;focus ((try simp only [World.size_setCell,World.size_alloc]);omega)) | (refine (World.cell?_alloc_at _ _ _ _ ?_).trans ?_;focus ((try simp only [World.size_setCell,World.size_alloc]);done)) | (refine (World.cell?_setCell_other _ _ _ _ ?_).trans ?_;focus (simp;done)) | (refine (World.cell?_setCell_other _ _ _ _ ?_).trans ?_;focus (simp;omega)) | (refine World.cell?_setCell_same' _ _ _ ?_;focus (simp;done)))))));rw [hV];clear hV hx
     (refine wp_region_kept (w:=V) [(wr.heap.size,0,.int .i64 (gt l j).tm),(wr.heap.size,1,.int .i64 (gt l j).id)] (by kernel_rfl) (by kernel_rfl) (Below.refl _ _) (by first | exact hcs | (simp [CellsAt, *];done) | (simp [CellsAt, *];omega)) (fun hne=>?_);(have hq0:∀ xwd:Wd V [(wr.heap.size,0,.int .i64 (gt l j).tm),(wr.heap.size,1,.int .i64 (gt l j).id)],xwd.at.cell? ⟨wr.heap.size,0,none⟩=some (.int .i64 (gt l j).tm):=fun xwd=>xwd.cells.1.2;have hq1:∀ xwd:Wd V [(wr.heap.size,0,.int .i64 (gt l j).tm),(wr.heap.size,1,.int .i64 (gt l j).id)],xwd.at.cell? ⟨wr.heap.size,1,none⟩=some (.int .i64 (gt l j).id):=fun xwd=>xwd.cells.2.1.2);(try simp only [List.append_eq,List.cons_append,List.nil_append]);(repeat (go_big_quiet_step ((first | (go_at_call 199;exact quiet_call (inTime_any _ _))))));(refine wpQuiet_nil ?_);intro wq hwq;obtain ⟨xwd,hxwd⟩:=hwq;have hgx:Below V.heap.size V wq:=(by rw [hxwd];exact xwd.kept);have hcs:=(show CellsAt wq [(wr.heap.size,0,.int .i64 (gt l j).tm),(wr.heap.size,1,.int .i64 (gt l j).id)] by rw [hxwd];exact xwd.cells);clear hxwd xwd hne)
     go_wp2;go_ret2;exact ⟨HB.out.trans (((hBV.trans (hgx.mono hBV.size))).mono HB.out.size),.inr ⟨by rw [take_drop_gt hlt'];exact ok_not_snoc (.inr (.inl HI.out)),rfl⟩⟩
    ·cases F
     ·go_wp2;obtain ⟨V,hV⟩:∃ V,(wr.alloc (.cells #[.int .i64 (gt l j).tm,.int .i64 (gt l j).id] 88)).alloc (.cells #[.int .i64 x.tm,.int .i64 x.id] 88)=V:=⟨_,rfl⟩;have hBV:Below wr.heap.size wr V:=(by rw [← hV];repeat' (first | (with_reducible exact Below.refl _ _) | (with_reducible assumption) | (with_reducible refine kept_alloc ?_ _) | (with_reducible refine kept_drewN ?_ _) | (with_reducible refine Below.drew ?_) | (with_reducible refine Below.setCell ?_ (by first | omega | (simp;omega) | (simp;done)) _) | (refine kept_trans ?_ (by with_reducible assumption))));have hcs:CellsAt V [(wr.heap.size,0,.int .i64 (gt l j).tm),(wr.heap.size,1,.int .i64 (gt l j).id)]:=(by rw [← hV];(simp only [CellsAt];(repeat' (first | exact trivial | (refine And.intro ?_ ?_)));all_goals (first | (focus ((try simp only [World.size_setCell,World.size_alloc]);omega)) | (repeat (first | rfl | assumption | (refine (World.cell?_alloc_past _ _ _ ?_).trans ?_;focus ((try simp only [World.size_setCell,World.size_alloc]);omega)) | (refine (World.cell?_alloc_at _ _ _ _ ?_).trans ?_;focus ((try simp only [World.size_setCell,World.size_alloc]);done)) | (refine (World.cell?_setCell_other _ _ _ _ ?_).trans ?_;focus (simp;done)) | (refine (World.cell?_setCell_other _ _ _ _ ?_).trans ?_;focus (simp;omega)) | (refine World.cell?_setCell_same' _ _ _ ?_;focus (simp;done)))))));rw [hV];clear hV hx
      (refine wp_region_kept (w:=V) [(wr.heap.size,0,.int .i64 (gt l j).tm),(wr.heap.size,1,.int .i64 (gt l j).id)] (by kernel_rfl) (by kernel_rfl) (Below.refl _ _) (by first | exact hcs | (simp [CellsAt, *];done) | (simp [CellsAt, *];omega)) (fun hne=>?_);(have hq0:∀ xwd:Wd V [(wr.heap.size,0,.int .i64 (gt l j).tm),(wr.heap.size,1,.int .i64 (gt l j).id)],xwd.at.cell? ⟨wr.heap.size,0,none⟩=some (.int .i64 (gt l j).tm):=fun xwd=>xwd.cells.1.2;have hq1:∀ xwd:Wd V [(wr.heap.size,0,.int .i64 (gt l j).tm),(wr.heap.size,1,.int .i64 (gt l j).id)],xwd.at.cell? ⟨wr.heap.size,1,none⟩=some (.int .i64 (gt l j).id):=fun xwd=>xwd.cells.2.1.2);(try simp only [List.append_eq,List.cons_append,List.nil_append]);(repeat (go_big_quiet_step ((first | (go_at_call 199;exact quiet_call (inTime_any _ _)) | (go_at_call 200;exact quiet_call (ofThread_any _ _))))));(refine wpQuiet_nil ?_);intro wq hwq;obtain ⟨xwd,hxwd⟩:=hwq;have hgx:Below V.heap.size V wq:=(by rw [hxwd];exact xwd.kept);have hcs:=(show CellsAt wq [(wr.heap.size,0,.int .i64 (gt l j).tm),(wr.heap.size,1,.int .i64 (gt l j).id)] by rw [hxwd];exact xwd.cells);clear hxwd xwd hne)
      go_wp2;go_ret2;exact ⟨HB.out.trans (((hBV.trans (hgx.mono hBV.size))).mono HB.out.size),.inr ⟨by rw [take_drop_gt hlt'];exact ok_not_snoc (.inr (.inr (.inl HF.out))),rfl⟩⟩
     ·by_cases hj0:j=0
      ·have b4:decide (0<j)=false:=by simp;omega
       have HJ:=Lib.hid hj0
       clear hj0
       go_wp2;obtain ⟨V,hV⟩:∃ V,(wr.alloc (.cells #[.int .i64 (gt l j).tm,.int .i64 (gt l j).id] 88)).alloc (.cells #[.int .i64 x.tm,.int .i64 x.id] 88)=V:=⟨_,rfl⟩;have hBV:Below wr.heap.size wr V:=(by rw [← hV];repeat' (first | (with_reducible exact Below.refl _ _) | (with_reducible assumption) | (with_reducible refine kept_alloc ?_ _) | (with_reducible refine kept_drewN ?_ _) | (with_reducible refine Below.drew ?_) | (with_reducible refine Below.setCell ?_ (by first | omega | (simp;omega) | (simp;done)) _) | (refine kept_trans ?_ (by with_reducible assumption))));have hcs:CellsAt V [(wr.heap.size,0,.int .i64 (gt l j).tm),(wr.heap.size,1,.int .i64 (gt l j).id)]:=(by rw [← hV];(simp only [CellsAt];(repeat' (first | exact trivial | (refine And.intro ?_ ?_)));all_goals (first | (focus ((try simp only [World.size_setCell,World.size_alloc]);omega)) | (repeat (first | rfl | assumption | (refine (World.cell?_alloc_past _ _ _ ?_).trans ?_;focus ((try simp only [World.size_setCell,World.size_alloc]);omega)) | (refine (World.cell?_alloc_at _ _ _ _ ?_).trans ?_;focus ((try simp only [World.size_setCell,World.size_alloc]);done)) | (refine (World.cell?_setCell_other _ _ _ _ ?_).trans ?_;focus (simp;done)) | (refine (World.cell?_setCell_other _ _ _ _ ?_).trans ?_;focus (simp;omega)) | (refine World.cell?_setCell_same' _ _ _ ?_;focus (simp;done)))))));rw [hV];clear hV hx
       (refine wp_region_kept (w:=V) [(wr.heap.size,0,.int .i64 (gt l j).tm),(wr.heap.size,1,.int .i64 (gt l j).id)] (by kernel_rfl) (by kernel_rfl) (Below.refl _ _) (by first | exact hcs | (simp [CellsAt, *];done) | (simp [CellsAt, *];omega)) (fun hne=>?_);(have hq0:∀ xwd:Wd V [(wr.heap.size,0,.int .i64 (gt l j).tm),(wr.heap.size,1,.int .i64 (gt l j).id)],xwd.at.cell? ⟨wr.heap.size,0,none⟩=some (.int .i64 (gt l j).tm):=fun xwd=>xwd.cells.1.2;have hq1:∀ xwd:Wd V [(wr.heap.size,0,.int .i64 (gt l j).tm),(wr.heap.size,1,.int .i64 (gt l j).id)],xwd.at.cell? ⟨wr.heap.size,1,none⟩=some (.int .i64 (gt l j).id):=fun xwd=>xwd.cells.2.1.2);(try simp only [List.append_eq,List.cons_append,List.nil_append]);(repeat (go_big_quiet_step ((first | (go_at_call 199;exact quiet_call (inTime_any _ _)) | (go_at_call 200;exact quiet_call (ofThread_any _ _))))));(refine wpQuiet_nil ?_);intro wq hwq;obtain ⟨xwd,hxwd⟩:=hwq;have hgx:Below V.heap.size V wq:=(by rw [hxwd];exact xwd.kept);have hcs:=(show CellsAt wq [(wr.heap.size,0,.int .i64 (gt l j).tm),(wr.heap.size,1,.int .i64 (gt l j).id)] by rw [hxwd];exact xwd.cells);clear hxwd xwd hne)
       clear b4
       have hrx:Below wr.heap.size wr wq:=hBV.trans (hgx.mono hBV.size);obtain ⟨w3,hu,hM3,hO3,hs3⟩:=map_put (HM.out.kept hrx) (gt l j) HT.out;have hq0:=hcs.1.2;have hq1:=hcs.2.1.2;have hz0:=hcs.1.1;have HE:=Lib.hid (And.intro hM3 (And.intro hO3 hs3));clear hM3 hO3 hs3;go_wp2;go_roundw;(case rel=>exact ⟨j+1,by go_num,by omega,by rw [take_gt hlt'];exact HE.out.1,by rw [take_gt hlt'];exact dok_snoc Hok.out HT.out HI.out HF.out (fun e he=>by rw [HJ.out] at he;simp at he),Out.below (HB.out.trans (hrx.mono HB.out.size)) HE.out.2.1 (fun x hx=>by rw [List.mem_singleton] at hx;subst hx;exact Nat.le_refl _) (by have:=hrx.size;have:=HB.out.size;omega)⟩);(case measure=>simp [intOf];omega)
      ·have b4:(0:Int)<(j:Int):=by omega
       obtain ⟨i,hi⟩:∃ i,j - 1=i:=⟨_,rfl⟩
       have b5:(j:Int) - 1=(i:Int):=by omega
       have b6:(0:Int)≤(i:Int):=by omega
       have b7:(i:Int)<(N:Int):=by omega
       have hjp:0<j:=by omega
       have HJ:=Lib.hid hi
       obtain ⟨c3,c4⟩:=sl_gt (H.out.kept HB.out) (j:=i) (by omega)
       obtain ⟨A,hA⟩:∃ A,dahB (gt l i) (gt l j)=A:=⟨_,rfl⟩
       have HA:=Lib.hid hA
       clear hi hj0
       cases A
       ·go_wp2;obtain ⟨V,hV⟩:∃ V,(wr.alloc (.cells #[.int .i64 (gt l j).tm,.int .i64 (gt l j).id] 88)).alloc (.cells #[.int .i64 x.tm,.int .i64 x.id] 88)=V:=⟨_,rfl⟩;have hBV:Below wr.heap.size wr V:=(by rw [← hV];repeat' (first | (with_reducible exact Below.refl _ _) | (with_reducible assumption) | (with_reducible refine kept_alloc ?_ _) | (with_reducible refine kept_drewN ?_ _) | (with_reducible refine Below.drew ?_) | (with_reducible refine Below.setCell ?_ (by first | omega | (simp;omega) | (simp;done)) _) | (refine kept_trans ?_ (by with_reducible assumption))));have hcs:CellsAt V [(wr.heap.size,0,.int .i64 (gt l j).tm),(wr.heap.size,1,.int .i64 (gt l j).id)]:=(by rw [← hV];(simp only [CellsAt];(repeat' (first | exact trivial | (refine And.intro ?_ ?_)));all_goals (first | (focus ((try simp only [World.size_setCell,World.size_alloc]);omega)) | (repeat (first | rfl | assumption | (refine (World.cell?_alloc_past _ _ _ ?_).trans ?_;focus ((try simp only [World.size_setCell,World.size_alloc]);omega)) | (refine (World.cell?_alloc_at _ _ _ _ ?_).trans ?_;focus ((try simp only [World.size_setCell,World.size_alloc]);done)) | (refine (World.cell?_setCell_other _ _ _ _ ?_).trans ?_;focus (simp;done)) | (refine (World.cell?_setCell_other _ _ _ _ ?_).trans ?_;focus (simp;omega)) | (refine World.cell?_setCell_same' _ _ _ ?_;focus (simp;done)))))));rw [hV];clear hV hx
        have c5:=((bcell hBV).1 _ (o+i * 2) hbs).trans c3
        have c6:=((bcell hBV).1 _ (o+i * 2+1) hbs).trans c4
        have hcs:=And.intro (And.intro (Nat.lt_of_lt_of_le hbs hBV.size) c5) (And.intro (And.intro (Nat.lt_of_lt_of_le hbs hBV.size) c6) hcs)
        (refine wp_region_kept (w:=V) [(b,o+i * 2,.int .i64 (gt l i).tm),(b,o+i * 2+1,.int .i64 (gt l i).id),(wr.heap.size,0,.int .i64 (gt l j).tm),(wr.heap.size,1,.int .i64 (gt l j).id)] (by kernel_rfl) (by kernel_rfl) (Below.refl _ _) (by first | exact hcs | (simp [CellsAt, *];done) | (simp [CellsAt, *];omega)) (fun hne=>?_);(have hq0:∀ xwd:Wd V [(b,o+i * 2,.int .i64 (gt l i).tm),(b,o+i * 2+1,.int .i64 (gt l i).id),(wr.heap.size,0,.int .i64 (gt l j).tm),(wr.heap.size,1,.int .i64 (gt l j).id)],xwd.at.cell? ⟨b,o+i * 2,none⟩=some (.int .i64 (gt l i).tm):=fun xwd=>xwd.cells.1.2;have hq1:∀ xwd:Wd V [(b,o+i * 2,.int .i64 (gt l i).tm),(b,o+i * 2+1,.int .i64 (gt l i).id),(wr.heap.size,0,.int .i64 (gt l j).tm),(wr.heap.size,1,.int .i64 (gt l j).id)],xwd.at.cell? ⟨b,o+i * 2+1,none⟩=some (.int .i64 (gt l i).id):=fun xwd=>xwd.cells.2.1.2;have hq2:∀ xwd:Wd V [(b,o+i * 2,.int .i64 (gt l i).tm),(b,o+i * 2+1,.int .i64 (gt l i).id),(wr.heap.size,0,.int .i64 (gt l j).tm),(wr.heap.size,1,.int .i64 (gt l j).id)],xwd.at.cell? ⟨wr.heap.size,0,none⟩=some (.int .i64 (gt l j).tm):=fun xwd=>xwd.cells.2.2.1.2;have hq3:∀ xwd:Wd V [(b,o+i * 2,.int .i64 (gt l i).tm),(b,o+i * 2+1,.int .i64 (gt l i).id),(wr.heap.size,0,.int .i64 (gt l j).tm),(wr.heap.size,1,.int .i64 (gt l j).id)],xwd.at.cell? ⟨wr.heap.size,1,none⟩=some (.int .i64 (gt l j).id):=fun xwd=>xwd.cells.2.2.2.1.2);(try simp only [List.append_eq,List.cons_append,List.nil_append]);(repeat (go_big_quiet_step ((first | (go_at_call 199;exact quiet_call (inTime_any _ _)) | (go_at_call 200;exact quiet_call (ofThread_any _ _)) | (go_at_call 203;exact quiet_call (dah_any _ _ _))))));(refine wpQuiet_nil ?_);intro wq hwq;obtain ⟨xwd,hxwd⟩:=hwq;have hgx:Below V.heap.size V wq:=(by rw [hxwd];exact xwd.kept);have hcs:=(show CellsAt wq [(b,o+i * 2,.int .i64 (gt l i).tm),(b,o+i * 2+1,.int .i64 (gt l i).id),(wr.heap.size,0,.int .i64 (gt l j).tm),(wr.heap.size,1,.int .i64 (gt l j).id)] by rw [hxwd];exact xwd.cells);clear hxwd xwd hne)
        go_wp2;go_ret2;exact ⟨HB.out.trans (((hBV.trans (hgx.mono hBV.size))).mono HB.out.size),.inr ⟨by rw [take_drop_gt hlt'];exact ok_not_snoc (.inr (.inr (.inr ⟨_,(last_gt hlt' hjp).trans (by rw [HJ.out]),HA.out⟩))),rfl⟩⟩
       ·go_wp2;obtain ⟨V,hV⟩:∃ V,(wr.alloc (.cells #[.int .i64 (gt l j).tm,.int .i64 (gt l j).id] 88)).alloc (.cells #[.int .i64 x.tm,.int .i64 x.id] 88)=V:=⟨_,rfl⟩;have hBV:Below wr.heap.size wr V:=(by rw [← hV];repeat' (first | (with_reducible exact Below.refl _ _) | (with_reducible assumption) | (with_reducible refine kept_alloc ?_ _) | (with_reducible refine kept_drewN ?_ _) | (with_reducible refine Below.drew ?_) | (with_reducible refine Below.setCell ?_ (by first | omega | (simp;omega) | (simp;done)) _) | (refine kept_trans ?_ (by with_reducible assumption))));have hcs:CellsAt V [(wr.heap.size,0,.int .i64 (gt l j).tm),(wr.heap.size,1,.int .i64 (gt l j).id)]:=(by rw [← hV];(simp only [CellsAt];(repeat' (first | exact trivial | (refine And.intro ?_ ?_)));all_goals (first | (focus ((try simp only [World.size_setCell,World.size_alloc]);omega)) | (repeat (first | rfl | assumption | (refine (World.cell?_alloc_past _ _ _ ?_).trans ?_;focus ((try simp only [World.size_setCell,World.size_alloc]);omega)) | (refine (World.cell?_alloc_at _ _ _ _ ?_).trans ?_;focus ((try simp only [World.size_setCell,World.size_alloc]);done)) | (refine (World.cell?_setCell_other _ _ _ _ ?_).trans ?_;focus (simp;done)) | (refine (World.cell?_setCell_other _ _ _ _ ?_).trans ?_;focus (simp;omega)) | (refine World.cell?_setCell_same' _ _ _ ?_;focus (simp;done)))))));rw [hV];clear hV hx
        have c5:=((bcell hBV).1 _ (o+i * 2) hbs).trans c3
        have c6:=((bcell hBV).1 _ (o+i * 2+1) hbs).trans c4
        have hcs:=And.intro (And.intro (Nat.lt_of_lt_of_le hbs hBV.size) c5) (And.intro (And.intro (Nat.lt_of_lt_of_le hbs hBV.size) c6) hcs)
        (refine wp_region_kept (w:=V) [(b,o+i * 2,.int .i64 (gt l i).tm),(b,o+i * 2+1,.int .i64 (gt l i).id),(wr.heap.size,0,.int .i64 (gt l j).tm),(wr.heap.size,1,.int .i64 (gt l j).id)] (by kernel_rfl) (by kernel_rfl) (Below.refl _ _) (by first | exact hcs | (simp [CellsAt, *];done) | (simp [CellsAt, *];omega)) (fun hne=>?_);(have hq0:∀ xwd:Wd V [(b,o+i * 2,.int .i64 (gt l i).tm),(b,o+i * 2+1,.int .i64 (gt l i).id),(wr.heap.size,0,.int .i64 (gt l j).tm),(wr.heap.size,1,.int .i64 (gt l j).id)],xwd.at.cell? ⟨b,o+i * 2,none⟩=some (.int .i64 (gt l i).tm):=fun xwd=>xwd.cells.1.2;have hq1:∀ xwd:Wd V [(b,o+i * 2,.int .i64 (gt l i).tm),(b,o+i * 2+1,.int .i64 (gt l i).id),(wr.heap.size,0,.int .i64 (gt l j).tm),(wr.heap.size,1,.int .i64 (gt l j).id)],xwd.at.cell? ⟨b,o+i * 2+1,none⟩=some (.int .i64 (gt l i).id):=fun xwd=>xwd.cells.2.1.2;have hq2:∀ xwd:Wd V [(b,o+i * 2,.int .i64 (gt l i).tm),(b,o+i * 2+1,.int .i64 (gt l i).id),(wr.heap.size,0,.int .i64 (gt l j).tm),(wr.heap.size,1,.int .i64 (gt l j).id)],xwd.at.cell? ⟨wr.heap.size,0,none⟩=some (.int .i64 (gt l j).tm):=fun xwd=>xwd.cells.2.2.1.2;have hq3:∀ xwd:Wd V [(b,o+i * 2,.int .i64 (gt l i).tm),(b,o+i * 2+1,.int .i64 (gt l i).id),(wr.heap.size,0,.int .i64 (gt l j).tm),(wr.heap.size,1,.int .i64 (gt l j).id)],xwd.at.cell? ⟨wr.heap.size,1,none⟩=some (.int .i64 (gt l j).id):=fun xwd=>xwd.cells.2.2.2.1.2);(try simp only [List.append_eq,List.cons_append,List.nil_append]);(repeat (go_big_quiet_step ((first | (go_at_call 199;exact quiet_call (inTime_any _ _)) | (go_at_call 200;exact quiet_call (ofThread_any _ _)) | (go_at_call 203;exact quiet_call (dah_any _ _ _))))));(refine wpQuiet_nil ?_);intro wq hwq;obtain ⟨xwd,hxwd⟩:=hwq;have hgx:Below V.heap.size V wq:=(by rw [hxwd];exact xwd.kept);have hcs:=(show CellsAt wq [(b,o+i * 2,.int .i64 (gt l i).tm),(b,o+i * 2+1,.int .i64 (gt l i).id),(wr.heap.size,0,.int .i64 (gt l j).tm),(wr.heap.size,1,.int .i64 (gt l j).id)] by rw [hxwd];exact xwd.cells);clear hxwd xwd hne)
        have hcs:=hcs.2.2
        clear b5
        have hrx:Below wr.heap.size wr wq:=hBV.trans (hgx.mono hBV.size);obtain ⟨w3,hu,hM3,hO3,hs3⟩:=map_put (HM.out.kept hrx) (gt l j) HT.out;have hq0:=hcs.1.2;have hq1:=hcs.2.1.2;have hz0:=hcs.1.1;have HE:=Lib.hid (And.intro hM3 (And.intro hO3 hs3));clear hM3 hO3 hs3;go_wp2;go_roundw;(case rel=>exact ⟨j+1,by go_num,by omega,by rw [take_gt hlt'];exact HE.out.1,by rw [take_gt hlt'];exact dok_snoc Hok.out HT.out HI.out HF.out (fun e he=>by rw [last_gt hlt' hjp,HJ.out] at he;cases he;exact HA.out),Out.below (HB.out.trans (hrx.mono HB.out.size)) HE.out.2.1 (fun x hx=>by rw [List.mem_singleton] at hx;subst hx;exact Nat.le_refl _) (by have:=hrx.size;have:=HB.out.size;omega)⟩);(case measure=>simp [intOf];omega)
   ·go_wp2;obtain ⟨V,hV⟩:∃ V,(wr.alloc (.cells #[.int .i64 (gt l j).tm,.int .i64 (gt l j).id] 88)).alloc (.cells #[.int .i64 x.tm,.int .i64 x.id] 88)=V:=⟨_,rfl⟩;have hBV:Below wr.heap.size wr V:=(by rw [← hV];repeat' (first | (with_reducible exact Below.refl _ _) | (with_reducible assumption) | (with_reducible refine kept_alloc ?_ _) | (with_reducible refine kept_drewN ?_ _) | (with_reducible refine Below.drew ?_) | (with_reducible refine Below.setCell ?_ (by first | omega | (simp;omega) | (simp;done)) _) | (refine kept_trans ?_ (by with_reducible assumption))));have hcs:CellsAt V [(wr.heap.size,0,.int .i64 (gt l j).tm),(wr.heap.size,1,.int .i64 (gt l j).id)]:=(by rw [← hV];(simp only [CellsAt];(repeat' (first | exact trivial | (refine And.intro ?_ ?_)));all_goals (first | (focus ((try simp only [World.size_setCell,World.size_alloc]);omega)) | (repeat (first | rfl | assumption | (refine (World.cell?_alloc_past _ _ _ ?_).trans ?_;focus ((try simp only [World.size_setCell,World.size_alloc]);omega)) | (refine (World.cell?_alloc_at _ _ _ _ ?_).trans ?_;focus ((try simp only [World.size_setCell,World.size_alloc]);done)) | (refine (World.cell?_setCell_other _ _ _ _ ?_).trans ?_;focus (simp;done)) | (refine (World.cell?_setCell_other _ _ _ _ ?_).trans ?_;focus (simp;omega)) | (refine World.cell?_setCell_same' _ _ _ ?_;focus (simp;done)))))));rw [hV];clear hV hx
    (refine wp_region_kept (w:=V) [(wr.heap.size,0,.int .i64 (gt l j).tm),(wr.heap.size,1,.int .i64 (gt l j).id)] (by kernel_rfl) (by kernel_rfl) (Below.refl _ _) (by first | exact hcs | (simp [CellsAt, *];done) | (simp [CellsAt, *];omega)) (fun hne=>?_);(have hq0:∀ xwd:Wd V [(wr.heap.size,0,.int .i64 (gt l j).tm),(wr.heap.size,1,.int .i64 (gt l j).id)],xwd.at.cell? ⟨wr.heap.size,0,none⟩=some (.int .i64 (gt l j).tm):=fun xwd=>xwd.cells.1.2;have hq1:∀ xwd:Wd V [(wr.heap.size,0,.int .i64 (gt l j).tm),(wr.heap.size,1,.int .i64 (gt l j).id)],xwd.at.cell? ⟨wr.heap.size,1,none⟩=some (.int .i64 (gt l j).id):=fun xwd=>xwd.cells.2.1.2);(try simp only [List.append_eq,List.cons_append,List.nil_append]);(repeat (go_big_quiet_step ((first | fail))));(refine wpQuiet_nil ?_);intro wq hwq;obtain ⟨xwd,hxwd⟩:=hwq;have hgx:Below V.heap.size V wq:=(by rw [hxwd];exact xwd.kept);have hcs:=(show CellsAt wq [(wr.heap.size,0,.int .i64 (gt l j).tm),(wr.heap.size,1,.int .i64 (gt l j).id)] by rw [hxwd];exact xwd.cells);clear hxwd xwd hne)
    go_wp2;go_ret2;exact ⟨HB.out.trans (((hBV.trans (hgx.mono hBV.size))).mono HB.out.size),.inr ⟨by rw [take_drop_gt hlt'];exact ok_not_snoc (.inl HT.out),rfl⟩⟩
  ·have:j=N:=by omega
   subst this
   have HE:=Lib.hid (And.intro hM (And.intro hok hB))
   clear hM hok hB hlt hj
   go_wp2
   go_ret2
   have e1:l.take j=l:=by rw [← HN.out];exact List.take_length
   have h2:=HE.out
   rw [e1] at h2
   exact ⟨h2.2.2,.inl ⟨h2.2.1,_,rfl,h2.1,Nat.le_refl _⟩⟩
end
section
open Go.ChangeShapes Go.WideShapes Go.ChangeAt Go.RowKit
def duOf (e:MapEntry):Du :=
 match e.val with
 | .agg cs=>⟨intOf (cs.getD 0 undef),intOf (cs.getD 1 undef)⟩
 | _=>⟨0,0⟩
theorem MapAt.du {w:World} {mb:Nat} {l:List Du} {es:Array MapEntry} {ck:Nat} (h:MapAt w mb l es ck):es.toList.map duOf=l:=by
 have h1:=congrArg (List.map (fun p:Value×Value=>duOf { key:=p.1,val:=p.2,born:=0 })) h.ents
 rw [List.map_map,List.map_map] at h1
 have h2:((fun p:Value×Value=>duOf { key:=p.1,val:=p.2,born:=0 })∘fun e:MapEntry=>(e.key,e.val))=duOf:=by funext e;rfl
 have h3:((fun p:Value×Value=>duOf { key:=p.1,val:=p.2,born:=0 })∘fun d:Du=>(Value.int .i64 d.id,.agg #[.int .i64 d.tm,.int .i64 d.id]))=id:=by funext d;rfl
 rw [h2,h3,List.map_id] at h1
 exact h1
theorem MapAt.val {w:World} {mb:Nat} {l:List Du} {es:Array MapEntry} {ck:Nat} (h:MapAt w mb l es ck) {e:MapEntry} (he:e∈es.toList):e.key = .int .i64 (duOf e).id∧e.val = .agg #[.int .i64 (duOf e).tm,.int .i64 (duOf e).id]:=by
 obtain ⟨d,_,h1,h2⟩:=h.mem he
 have:duOf e=d:=by unfold duOf;rw [h2];rfl
 rw [this];exact ⟨h1,h2⟩
theorem perm_filter_out {e:MapEntry}:∀ {M:List MapEntry},(M.map (·.born)).Nodup→e∈M→M.Perm (e::M.filter (fun x=>!(x.born==e.born)))
 | [],_,h=>by simp at h
 | x::M,hn,h=>by
  rw [List.map_cons,List.nodup_cons] at hn
  rcases List.mem_cons.1 h with rfl | h
  ·rw [List.filter_cons_of_neg (by simp),List.filter_eq_self.2 (fun y hy=>by
    have:y.born≠e.born:=fun hh=>hn.1 (hh ▸ List.mem_map.2 ⟨y,hy,rfl⟩)
    simpa using this)]
  ·have hne:x.born≠e.born:=fun hh=>hn.1 (hh ▸ List.mem_map.2 ⟨e,h,rfl⟩)
   rw [List.filter_cons_of_pos (by simpa using hne)]
   exact ((perm_filter_out hn.2 h).cons x).trans (List.Perm.swap e x _)
theorem left_perm {es:Array MapEntry} {seen:Array Nat} {e:MapEntry} (hn:(es.toList.map (·.born)).Nodup) (he:e∈(leftOf es seen).toList):(leftOf es seen).toList.Perm (e::(leftOf es (seen.push e.born)).toList):=by
 have h1:(leftOf es (seen.push e.born)).toList=(leftOf es seen).toList.filter (fun x=>!(x.born==e.born)):=by
  unfold leftOf
  rw [Array.toList_filter,Array.toList_filter,List.filter_filter]
  congr 1
  funext x
  rw [contains_push]
  cases seen.contains x.born <;> cases (x.born==e.born) <;> rfl
 rw [h1]
 refine perm_filter_out ?_ he
 unfold leftOf
 rw [Array.toList_filter]
 exact (List.filter_sublist.map _).nodup hn
theorem dleft_zero {es:Array MapEntry} {seen:Array Nat} (h:(leftOf es seen).size=0):(leftOf es seen).toList=[]:=by
 have:leftOf es seen=#[]:=Array.eq_empty_of_size_eq_zero h
 rw [this]
theorem dleft_all (es:Array MapEntry):leftOf es #[]=es:=by
 unfold leftOf
 exact Array.filter_eq_self.2 (fun a _=>by simp)
def diterLeft (es:Array MapEntry) (r:Nat) (w:World):Nat:=(leftOf es (w.iterSeen r)).size
theorem diterLeft_eq {es:Array MapEntry} {r:Nat} {w:World} {m:Option Nat} {a c:Nat} {seen:Array Nat} (h:w.heap[r]? = some (.mapIter m a seen c)):diterLeft es r w=(leftOf es seen).size:=by
 unfold diterLeft World.iterSeen;rw [h]
def PiledPost (w:World) (l:List Du) (e:Ending) (w' : World):Prop :=
 ∃ (pb g cap:Nat) (t:List Du),e = .returned (.iface 199 (.pointer (some ⟨pb,0,none⟩)))∧Pile w' pb g cap t∧t.Perm l∧Heap t∧Kept w w' ∧ w.heap.size≤pb∧w.heap.size≤g
set_option maxHeartbeats 4000000 in
theorem piled_any (l:List Du) (mb:Nat) (w:World) (h:MapD w mb l) (hm:l.length≤800):Calls Tryz.prog 191 #[.map (some mb)] w (PiledPost w l):=by
 obtain ⟨es,ck,hA⟩:=h
 have hu:=Tryz.underlying184
 have hlt:=(show MapD w mb l from ⟨es,ck,hA⟩).lt
 have HA:=Lib.hid hA
 have hrg:=run_range_map (P:=Tryz.prog) ((w.alloc (.cells #[] 88)).alloc (.cells #[.slice (some ⟨w.heap.size,0,none⟩) 0 0] 200)) 184 3 88 mb es ck hu (by rw [heap_alloc_old _ _ (by simp;omega),heap_alloc_old _ _ hlt];exact hA.obj)
 have hA0:MapAt w mb l es ck:=hA
 clear hA
 go_enter Tryz.func191,Tryz.ntmps191
 go_wp2
 clear hrg hu
 have hP0:Pile (((w.alloc (.cells #[] 88)).alloc (.cells #[.slice (some ⟨w.heap.size,0,none⟩) 0 0] 200)).alloc (.mapIter (some mb) ck #[] ck)) (w.heap.size+1) w.heap.size 0 []:=by
  refine Pile.kept (w:=(w.alloc (.cells #[] 88)).alloc (.cells #[.slice (some ⟨w.heap.size,0,none⟩) 0 0] 200)) ⟨by omega,?_,?_⟩ ((Below.refl _ _).alloc (Nat.le_refl _) _)
  ·have:=heap_alloc_new (w.alloc (.cells #[] 88)) (.cells #[.slice (some ⟨w.heap.size,0,none⟩) 0 0] 200)
   simpa using this
  ·exact Ow.kept (Ow.made (base:=0) Du.enc [] #[] rfl (Nat.zero_le _) (by decide) rfl rfl) ((Below.refl _ _).alloc (Nat.le_refl _) _)
 have hI0:(((w.alloc (.cells #[] 88)).alloc (.cells #[.slice (some ⟨w.heap.size,0,none⟩) 0 0] 200)).alloc (.mapIter (some mb) ck #[] ck)).heap[w.heap.size+1+1]? = some (.mapIter (some mb) ck #[] ck):=by
  have:=heap_alloc_new ((w.alloc (.cells #[] 88)).alloc (.cells #[.slice (some ⟨w.heap.size,0,none⟩) 0 0] 200)) (.mapIter (some mb) ck #[] ck)
  simpa using this
 have hp0:([]++(leftOf es #[]).toList.map duOf:List Du).Perm l:=by rw [dleft_all,List.nil_append,hA0.du]
 have HP:=Lib.hid (And.intro hP0 (And.intro hI0 hp0))
 clear hP0 hI0 hp0 hA0
 go_loopw [10] (fun _ wr=>∃ (g cap:Nat) (t:List Du) (seen:Array Nat) (c0:Nat),Pile wr (w.heap.size+1) g cap t∧Heap t∧wr.heap[w.heap.size+1+1]? = some (.mapIter (some mb) ck seen c0)∧ck≤c0∧(t++(leftOf es seen).toList.map duOf).Perm l∧Kept w wr∧w.heap.size≤g) (fun _ wr=>diterLeft es (w.heap.size+1+1) wr)
 case atStart=>exact ⟨_,_,_,_,_,HP.out.1,heap_nil,HP.out.2.1,Nat.le_refl _,HP.out.2.2,by repeat' (first | (with_reducible exact Below.refl _ _) | (with_reducible assumption) | (with_reducible refine kept_alloc ?_ _) | (with_reducible refine kept_drewN ?_ _) | (with_reducible refine Below.drew ?_) | (with_reducible refine Below.setCell ?_ (by first | omega | (simp;omega) | (simp;done)) _) | (refine kept_trans ?_ (by with_reducible assumption))),Nat.le_refl _⟩
 case round =>
  obtain ⟨g,cap,t,seen,c0,hP,hh,hI,hc0,hp,hB,hg⟩:=hrel
  clear HP
  have hAr:wr.heap[mb]? = some (.map es ck):=(hB.block _ hlt).trans HA.out.obj
  have hms:=diterLeft_eq (es:=es) hI
  rcases run_next_at (P:=Tryz.prog) wr 0 (w.heap.size+1+1) mb ck c0 seen es ck hI hAr HA.out.born hc0 with ⟨h0,hrun⟩ | ⟨e,he,w1,hal,hrun⟩
  ·have hE:=Lib.hid (And.intro hP (And.intro hh (And.intro hp (And.intro hB (And.intro hg h0)))))
   clear hP hh hI hp hB hg h0 hms hAr
   go_wp2
   go_ret
   have hp:=hE.out.2.2.1
   rw [dleft_zero hE.out.2.2.2.2.2,List.map_nil,List.append_nil] at hp
   exact ⟨_,g,cap,t,rfl,hE.out.1,hp,hE.out.2.1,hE.out.2.2.2.1,by omega,hE.out.2.2.2.2.1⟩
  ·obtain ⟨hv1,hv2⟩:=HA.out.val (mem_left he).1
   have hlp:=left_perm HA.out.nodup he
   have hls:=left_shrinks es seen e he
   have hr1:w1.heap[w.heap.size+1+1]? = some (.mapIter (some mb) ck seen c0):=by rcases hal with rfl | rfl <;> exact hI
   have hset:=MapKept.heap_set (o' := .mapIter (some mb) ck (seen.push e.born) ck) hr1
   obtain ⟨W2,hW2⟩:∃ W2,Go.ChangeMaps.setBlock w1 (w.heap.size+1+1) (.mapIter (some mb) ck (seen.push e.born) ck)=W2:=⟨_,rfl⟩
   have hO2:Out [w.heap.size+1+1] wr W2:=by
    rw [← hW2]
    refine ⟨?_,?_,?_,?_,fun j _ hn=>(hset.2 j (by simpa using hn)).trans ?_⟩ <;> rcases hal with rfl | rfl <;> first | rfl | exact Nat.le_of_eq (by simp [Go.ChangeMaps.setBlock])
   have hI2:W2.heap[w.heap.size+1+1]? = some (.mapIter (some mb) ck (seen.push e.born) ck):=by rw [← hW2];exact hset.1
   have hM2:W2.heap[mb]? = some (.map es ck):=(hO2.block mb (Array.getElem?_eq_some_iff.1 hAr).1 (by simp;omega)).trans hAr
   have hen:=run_entry_at (P:=Tryz.prog) W2 (w.heap.size+1+1) mb ck seen es ck e hI2 hM2 (mem_left he).1 HA.out.nodup
   rw [hW2] at hrun
   rw [hv1,hv2] at hrun hen
   have hgr:g≠w.heap.size+1+1:=by
    rintro rfl
    obtain ⟨_,⟨h1,_⟩ | ⟨_,_,_,h1,_,h2,_⟩⟩:=hP.own
    ·cases h1
    ·cases h1;rw [h2] at hI;cases hI
   have hP2:=hP.out hO2 (by simp) (by simpa using hgr)
   have htl:t.length≤800:=by have:=hp.length_eq;simp at this;omega
   generalize hd:duOf e=d at *
   have hlp2:=hlp.map duOf
   rw [List.map_cons,hd] at hlp2
   have hE:=Lib.hid (And.intro hP2 (And.intro hh (And.intro hp (And.intro hB (And.intro hg (And.intro hlp2 (And.intro hls (And.intro hO2 (And.intro hI2 (And.intro hgr hms))))))))))
   clear hP hh hI hp hB hg hms hAr hv1 hv2 hlp hls hr1 hset hW2 hO2 hI2 hM2 hgr hP2 hd hlp2 he hal
   go_wp2_with fail
   refine (hpush_any _ _ g cap t d (hE.out.1.kept ((Below.refl _ _).alloc (Nat.le_refl _) _)) hE.out.2.1 (by omega)).mono ?_
   rintro e1 w3 ⟨rfl,g3,k3,t3,hP3,hp3,hh3,hO3,hg3⟩
   have hE3:=Lib.hid (And.intro hP3 (And.intro hp3 (And.intro hh3 (And.intro hO3 hg3))))
   clear hP3 hp3 hh3 hO3 hg3
   go_wp2
   go_roundw
   case rel =>
    obtain ⟨-,-,f3,f4,f5,f6,f7,f8,f9,f10,-⟩:=hE.out
    obtain ⟨g1,g2,g3',g4,g5⟩:=hE3.out
    have hs8:=f8.size
    have hs4:=f4.size
    have hlt2:=(Array.getElem?_eq_some_iff.1 f9).1
    have hI3:w3.heap[w.heap.size+1+1]? = some (.mapIter (some mb) ck (seen.push e.born) ck):=by
     refine (g4.block _ (by simp;omega) (by simp;omega)).trans ?_
     rw [heap_alloc_old _ _ hlt2];exact f9
    have hp4:(t3++(leftOf es (seen.push e.born)).toList.map duOf).Perm l:=by
     refine ((g2.append_right _).trans ?_).trans f3
     rw [List.append_assoc]
     exact (f6.symm).append_left t
    have hB2:Below w.heap.size w (W2.alloc (.cells #[.int .i64 d.tm,.int .i64 d.id] 88)):=(Out.below f4 f8 (by simp;omega) f4.size).alloc (by omega) _
    have hB3:Below w.heap.size w w3:=Out.below hB2 g4 (by simp;omega) hB2.size
    exact ⟨g3,k3,t3,_,ck,g1,g3',hI3,Nat.le_refl _,hp4,hB3,by rcases g5 with rfl | h;exact f5;simp at h;omega⟩
   case measure =>
    obtain ⟨-,-,f3,f4,f5,f6,f7,f8,f9,f10,f11⟩:=hE.out
    obtain ⟨g1,g2,g3',g4,g5⟩:=hE3.out
    have hlt2:=(Array.getElem?_eq_some_iff.1 f9).1
    have hI3:w3.heap[w.heap.size+1+1]? = some (.mapIter (some mb) ck (seen.push e.born) ck):=by
     refine (g4.block _ (by simp;omega) (by simp;omega)).trans ?_
     rw [heap_alloc_old _ _ hlt2];exact f9
    rw [diterLeft_eq hI3,f11]
    exact f7
end
section
open Go.ChangeShapes Go.WideShapes Go.ChangeAt Go.RowKit
theorem hS1 (w:World) (d:Du) {g:Nat} (hg:w.heap.size=g):Sl (w.alloc (.cells #[.int .i64 d.tm,.int .i64 d.id] 88)) 2 Du.cells [d] (.slice (some ⟨g,0,none⟩) 1 1) :=
 Ow.sl Du.enc (Ow.made (base:=0) (e:=88) (W:=w) Du.enc [d] #[.int .i64 d.tm,.int .i64 d.id] rfl (Nat.zero_le _) (by show 1≤maxLen;decide) hg rfl)
theorem below_of_grown {w w' : World} (h:w.grownBy w' none):Below w.heap.size w w' := ⟨h.os,h.tape,h.output,h.size,fun j hj=>h.block j hj (by simp)⟩
theorem out_of_grown {w w' : World} {row:Option Nat} (h:w.grownBy w' row):Out row.toList w w' := ⟨h.os,h.tape,h.output,h.size,fun j hj hn=>h.block j hj (fun e=>hn (by simp [e]))⟩
end
section
open Go.ChangeShapes Go.WideShapes Go.ChangeAt Go.RowKit
def StandYes (w:World) (l:List Du) (e:Ending) (w' : World):Prop:=∃ mb,e = .returned (.tuple #[.map (some mb),.bool true])∧MapD w' mb l∧w.heap.size≤mb∧Kept w w'
theorem stand_yes (l:List Du) (p:Option Addr) (k:Nat) (w:World) (hl:Sl w 2 Du.cells l (.slice p l.length k)) (hm:l.length≤1000) (ho:okB l=true):Calls Tryz.prog 189 #[.slice p l.length k] w (StandYes w l):=by
 refine (stand_any l p k w hl hm).mono ?_
 rintro e w1 ⟨hB1,⟨-,mb,rfl,hM,hmb⟩ | ⟨h1,-⟩⟩
 ·exact ⟨mb,rfl,hM,hmb,hB1⟩
 ·rw [ho] at h1;cases h1
end
section
open Go.ChangeShapes Go.WideShapes Go.ChangeAt Go.RowKit
def RetDN (base:Nat) (w:World) (r:List Du) (e:Ending) (w' : World):Prop :=
 ∃ (p:Option Addr) (k:Nat),e = .returned (.slice p r.length k)∧(Sl w' 2 Du.cells r (.slice p r.length k)∧∀ a,p=some a→base≤a.block)∧Kept w w'
def RetDEN (w:World) (r:List Du) (c:Int) (e:Ending) (w' : World):Prop :=
 ∃ (p:Option Addr) (k:Nat),e = .returned (.tuple #[.slice p r.length k,.int .i64 c])∧(Sl w' 2 Du.cells r (.slice p r.length k)∧∀ a,p=some a→w.heap.size≤a.block)∧Kept w w'
set_option maxHeartbeats 4000000 in
theorem ordered_anyN {base:Nat} (l:List Du) (mb:Nat) (w:World) (h:MapD w mb l) (ha:Apart l) (hm:l.length≤800) (hb0:base≤w.heap.size):Calls Tryz.prog 193 #[.map (some mb)] w (RetDN base w (srt l)):=by
 obtain ⟨es,ck,hA⟩:=h
 have hob:=hA.obj
 have hsz:=hA.size
 obtain ⟨i,hi,hz0,hz1,hz2⟩:=info_parts due_info
 obtain ⟨w0,hmk,how0,hgr0⟩:=run_make_own w w.heap.size 85 88 i _ 2 Tryz.underlying85 hi hz0 hz1 .i64 .i64 l.length (by rw [hz2];omega) (by unfold maxLen;omega) (Nat.le_refl _)
 have hM:MapD w mb l:=⟨es,ck,hA⟩
 have HA:=Lib.hid hA
 have HM:=Lib.hid hM
 clear hA hi hz0 hz1 hz2 hM
 have hlen:((es.size:Nat):Int)=((l.length:Nat):Int):=by rw [hsz]
 have hln:(Builtin.len_ #[184] 3 #[.map (some mb)]).run Tryz.prog w = .ok (.int .i64 l.length) w:=by
  have hg:=MapKept.run_getObj_map (P:=Tryz.prog) hob
  rw [← hlen]
  simp [Builtin.len_,hg,goInt,Result.andThen]
 clear hsz
 have hB0:=below_of_grown hgr0
 have HO:=Lib.hid (show Ow w0 w.heap.size 88 2 Du.cells [] (.slice (some ⟨w.heap.size,0,none⟩) 0 l.length) from how0)
 clear how0 hgr0 hlen
 go_enter Tryz.func193,Tryz.ntmps193
 go_wp2_with fail
 refine (piled_any l mb w0 (HM.out.kept hB0) hm).mono ?_
 rintro e w1 ⟨pb,g,cap,t,rfl,hP,hp,hh,hB1,hpb,hg⟩
 have hs0:=hB0.size
 have hO1:=Ow.kept HO.out hB1
 have hB01:Below w.heap.size w w1:=kept_trans hB0 hB1
 have hlt0:=(Ow.lt HO.out _ rfl).2
 have HE:=Lib.hid (And.intro hP (And.intro hp (And.intro hh (And.intro hO1 (And.intro hB01 (And.intro hlt0 (And.intro hpb hg)))))))
 have hpg:w.heap.size≤pb∧w.heap.size≤g:=by omega
 clear hP hp hh hO1 hB1 hB0 hB01 hlt0 hpb hg hs0 hln hmk hob
 go_wp2
 go_loopw [3] (fun s3 wr=>∃ (p3:Option Addr) (k3:Nat) (done todo t:List Du),s3 = .slice p3 done.length k3∧srt l=done++todo∧Ow wr w.heap.size 88 2 Du.cells done (.slice p3 done.length k3)∧Pile wr pb g cap t∧Heap t∧t.Perm todo∧Kept w wr∧∀ x,p3=some x→x.block≠pb∧x.block≠g) (fun s3 _=>match s3 with | .slice _ n _=>l.length - n | _=>0)
 case atStart=>exact ⟨_,_,[],srt l,t,rfl,rfl,HE.out.2.2.2.1,HE.out.1,HE.out.2.2.1,HE.out.2.1.trans (srt_perm l).symm,HE.out.2.2.2.2.1,fun x hx=>by cases hx;have:=HE.out.2.2.2.2.2;show w.heap.size≠pb∧w.heap.size≠g;omega⟩
 case round =>
  clear HE
  obtain ⟨p3,k3,done,todo,t',rfl,hsl,hO,hP,hh,hp,hB,hne⟩:=hrel
  have hlen:done.length+todo.length=l.length:=by have:=congrArg List.length hsl;rw [srt_len,List.length_append] at this;omega
  cases todo with
  | nil =>
   have ht:t' = []:=List.perm_nil.1 hp
   subst ht
   have HE:=Lib.hid (And.intro hsl (And.intro hO (And.intro hP hB)))
   clear hsl hO hh hp hB hne hlen hP
   go_wp2_with fail
   refine (plen_any wr pb g cap _ HE.out.2.2.1).mono ?_
   rintro e w2 ⟨rfl,hg2⟩
   rw [List.length_nil]
   go_wp2
   go_ret
   have e1:=HE.out.1
   rw [List.append_nil] at e1
   rw [e1]
   exact ⟨p3,k3,rfl,⟨(Ow.sl Du.enc HE.out.2.1).kept hg2,fun a ha=>by subst ha;exact Nat.le_trans hb0 (Ow.lt HE.out.2.1 a.block rfl).1⟩,kept_trans HE.out.2.2.2 hg2⟩
  | cons d0 todo =>
   obtain ⟨n,hn⟩:∃ n,t'.length=n+1:=⟨todo.length,by rw [hp.length_eq];simp⟩
   have hsd:Sorted (d0::todo):=by
    have:=srt_sorted ha
    rw [hsl,Sorted,List.pairwise_append] at this
    exact this.2.1
   have hnb:n≤800:=by have:=hp.length_eq;simp at this hlen;omega
   have hdl:done.length≤800:=by omega
   have HE:=Lib.hid (And.intro hsl (And.intro hO (And.intro hP (And.intro hh (And.intro hp (And.intro hB (And.intro hne (And.intro hlen (And.intro hn hsd)))))))))
   clear hsl hO hP hh hp hB hne hlen hn hsd
   go_wp2_with fail
   refine (plen_any wr pb g cap _ HE.out.2.2.1).mono ?_
   rintro e w2 ⟨rfl,hg2⟩
   rw [HE.out.2.2.2.2.2.2.2.2.1]
   have b1:(0:Int)<(n:Int)+1:=by omega
   go_wp2_with fail
   refine (dnext_any w2 pb g cap n t' (HE.out.2.2.1.kept hg2) HE.out.2.2.2.1 HE.out.2.2.2.2.2.2.2.2.1 (by omega)).mono ?_
   rintro e w3 ⟨rfl,t3,hP3,hp3,hh3,hO3⟩
   obtain ⟨hd,hp4⟩:=heap_first HE.out.2.2.2.2.1 HE.out.2.2.2.2.2.2.2.2.2 hp3 (fun e he=>by
    obtain ⟨k,hk,rfl⟩:=gt_mem he
    exact heap_least HE.out.2.2.2.1 k hk)
   rw [hd]
   have HE3:=Lib.hid (And.intro hP3 (And.intro hh3 (And.intro hO3 hp4)))
   clear hP3 hh3 hO3 hp4 hp3 hd
   have hO3:Ow w3 w.heap.size 88 2 Du.cells done (.slice p3 done.length k3):=by
    refine (Ow.kept HE.out.2.1 hg2).of_block (fun x hx=>HE3.out.2.2.1.block x (Ow.lt (Ow.kept HE.out.2.1 hg2) x hx).2 ?_)
    cases p3 with
    | none=>cases hx
    | some y=>cases hx;have:=HE.out.2.2.2.2.2.2.1 y rfl;simp;omega
   have hB3:Below w.heap.size w w3:=Out.below (kept_trans HE.out.2.2.2.2.2.1 hg2) HE3.out.2.2.1 (by simp;omega) (by have:=HE.out.2.2.2.2.2.1.size;have:=hg2.size;omega)
   have HQ:=Lib.hid (And.intro hO3 hB3)
   clear hO3 hB3 hpg
   go_wp2_with ((at_builtin;refine wpList_appb (wb:=w) rfl _ _ 85 rfl (.agg #[.int .i64 0,.int .i64 0]) 16 Tryz.underlying85 due_info rfl (by decide) Du.enc rfl rfl (xs:=done) (ys:=[d0]) (HQ.out.1.kept ((Below.refl _ _).alloc (Nat.le_refl _) _)) (hS1 _ d0 rfl) (HQ.out.2.alloc (by have:=HQ.out.2.size;omega) _) (by simp only [List.length_append,List.length_nil,List.length_cons];unfold maxLen;omega) (by simp only [List.length_append,List.length_nil,List.length_cons];omega) ?_);intro v1 w4 ho1 hb1 hgr1 hbk1;obtain ⟨g1,k4,rfl⟩:=ow_some ho1 (by simp);rw [List.length_append,List.length_singleton] at ho1 hbk1)
   have HX:=Lib.hid (And.intro ho1 (And.intro hb1 (And.intro hgr1 hbk1)))
   clear ho1 hb1 hgr1 hbk1
   go_wp2
   go_roundw
   case rel =>
    obtain ⟨x1,x2,x3,x4⟩:=HX.out
    obtain ⟨y1,y2,y3,y4,y5,y6,y7,y8,y9,y10⟩:=HE.out
    obtain ⟨z1,z2,z3,z4⟩:=HE3.out
    have hrow:pb∉((Value.slice p3 done.length k3).ownBlock).toList∧g∉((Value.slice p3 done.length k3).ownBlock).toList:=by
     cases p3 with
     | none=>simp [Value.ownBlock]
     | some y=>have:=y7 y rfl;simp [Value.ownBlock];omega
    have hP4:Pile w4 pb g cap t3:=(z1.kept ((Below.refl _ _).alloc (Nat.le_refl _) _)).out (out_of_grown x3) hrow.1 hrow.2
    have hlt:=z1.lt
    refine ⟨some ⟨g1,0,none⟩,k4,done++[d0],todo,t3,by simp,by rw [y1];simp,by rw [List.length_append,List.length_singleton];exact x1,hP4,z2,z4,x2,fun x hx=>?_⟩
    cases hx
    show g1≠pb∧g1≠g
    rcases x4 g1 rfl with h | h
    ·cases p3 with
     | none=>cases h
     | some y=>have:=y7 y rfl;cases h;exact this
    ·simp at h;omega
   case measure =>
    have:=HE.out.2.2.2.2.2.2.2.1
    simp at this ⊢
    omega
set_option maxHeartbeats 2000000 in
theorem dput_okN (l:List Du) (d:Du) (p:Option Addr) (k:Nat) (w:World) (hl:Sl w 2 Du.cells l (.slice p l.length k)) (hm:l.length≤700) (h0:codeI l d=0) :
  Calls Tryz.prog 186 #[.slice p l.length k,.agg #[.int .i64 d.tm,.int .i64 d.id]] w (RetDEN w (putL l d) 0):=by
 have H:=Lib.hid hl
 obtain ⟨-,hok,h3,h4,hT⟩:=ok_put h0
 have hI:inTB d=true:=h3
 have hF:ofTB d=true:=h4
 have HO:=Lib.hid hok
 have HT:=Lib.hid hT
 have e2:putL l d=srt (l++[d]):=putL_ok h0
 have hap:Apart (l++[d]):=List.pairwise_append.2 ⟨(dok_iff.1 hok).2.2,by simp,fun a hA b hb=>by rw [List.mem_singleton] at hb;subst hb;exact nhas_iff.1 hT a hA⟩
 rw [e2]
 have HAP:=Lib.hid hap
 clear hl hok e2 hT hap h0 h3 h4
 go_enter Tryz.func186,Tryz.ntmps186;go_wp2_with fail;refine (stand_yes l p k _ (H.out.kept (by repeat' (first | (with_reducible exact Below.refl _ _) | (with_reducible assumption) | (with_reducible refine kept_alloc ?_ _) | (with_reducible refine kept_drewN ?_ _) | (with_reducible refine Below.drew ?_) | (with_reducible refine Below.setCell ?_ (by first | omega | (simp;omega) | (simp;done)) _) | (refine kept_trans ?_ (by with_reducible assumption))))) (by omega) HO.out).mono ?_;rintro e w1 ⟨mb,rfl,hM,hmb,hB1⟩;have hcs:CellsAt w1 [(w.heap.size,0,.int .i64 d.tm),(w.heap.size,1,.int .i64 d.id)]:=cells_keep hB1 (by (simp only [CellsAt];(repeat' (first | exact trivial | (refine And.intro ?_ ?_)));all_goals (first | (focus ((try simp only [World.size_setCell,World.size_alloc]);omega)) | (repeat (first | rfl | assumption | (refine (World.cell?_alloc_past _ _ _ ?_).trans ?_;focus ((try simp only [World.size_setCell,World.size_alloc]);omega)) | (refine (World.cell?_alloc_at _ _ _ _ ?_).trans ?_;focus ((try simp only [World.size_setCell,World.size_alloc]);done)) | (refine (World.cell?_setCell_other _ _ _ _ ?_).trans ?_;focus (simp;done)) | (refine (World.cell?_setCell_other _ _ _ _ ?_).trans ?_;focus (simp;omega)) | (refine World.cell?_setCell_same' _ _ _ ?_;focus (simp;done)))))));have hq0:=hcs.1.2;have hq1:=hcs.2.1.2;have hz0:=hcs.1.1;obtain ⟨x,hx⟩:=map_look hM d.id;rw [HT.out] at hx;have HM:=Lib.hid hM;clear hM
 go_wp2_with fail;refine (inTime_any d _).mono ?_;rintro e w2 ⟨rfl,hB2⟩;have hcs:CellsAt w2 [(w.heap.size,0,.int .i64 d.tm),(w.heap.size,1,.int .i64 d.id)]:=cells_keep hB2 (by (simp only [CellsAt];(repeat' (first | exact trivial | (refine And.intro ?_ ?_)));all_goals (first | (focus ((try simp only [World.size_setCell,World.size_alloc]);omega)) | (repeat (first | rfl | assumption | (refine (World.cell?_alloc_past _ _ _ ?_).trans ?_;focus ((try simp only [World.size_setCell,World.size_alloc]);omega)) | (refine (World.cell?_alloc_at _ _ _ _ ?_).trans ?_;focus ((try simp only [World.size_setCell,World.size_alloc]);done)) | (refine (World.cell?_setCell_other _ _ _ _ ?_).trans ?_;focus (simp;done)) | (refine (World.cell?_setCell_other _ _ _ _ ?_).trans ?_;focus (simp;omega)) | (refine World.cell?_setCell_same' _ _ _ ?_;focus (simp;done)))))));have hq0:=hcs.1.2;have hq1:=hcs.2.1.2;have hz0:=hcs.1.1
 rw [hI]
 clear hI
 go_wp2_with fail;refine (ofThread_any d _).mono ?_;rintro e w3 ⟨rfl,hB3⟩;have hcs:CellsAt w3 [(w.heap.size,0,.int .i64 d.tm),(w.heap.size,1,.int .i64 d.id)]:=cells_keep hB3 (by (simp only [CellsAt];(repeat' (first | exact trivial | (refine And.intro ?_ ?_)));all_goals (first | (focus ((try simp only [World.size_setCell,World.size_alloc]);omega)) | (repeat (first | rfl | assumption | (refine (World.cell?_alloc_past _ _ _ ?_).trans ?_;focus ((try simp only [World.size_setCell,World.size_alloc]);omega)) | (refine (World.cell?_alloc_at _ _ _ _ ?_).trans ?_;focus ((try simp only [World.size_setCell,World.size_alloc]);done)) | (refine (World.cell?_setCell_other _ _ _ _ ?_).trans ?_;focus (simp;done)) | (refine (World.cell?_setCell_other _ _ _ _ ?_).trans ?_;focus (simp;omega)) | (refine World.cell?_setCell_same' _ _ _ ?_;focus (simp;done)))))));have hq0:=hcs.1.2;have hq1:=hcs.2.1.2;have hz0:=hcs.1.1
 rw [hF]
 clear hF
 have hB13:Kept w1 w3:=by repeat' (first | (with_reducible exact Below.refl _ _) | (with_reducible assumption) | (with_reducible refine kept_alloc ?_ _) | (with_reducible refine kept_drewN ?_ _) | (with_reducible refine Below.drew ?_) | (with_reducible refine Below.setCell ?_ (by first | omega | (simp;omega) | (simp;done)) _) | (refine kept_trans ?_ (by with_reducible assumption)))
 obtain ⟨w4,hu,hM4,hO4,hs4⟩:=map_put (HM.out.kept hB13) d HT.out
 have HE:=Lib.hid (And.intro hM4 (And.intro hO4 hs4))
 clear hM4 hO4 hs4
 go_wp2_with fail
 have hBw0:Kept w w3:=by repeat' (first | (with_reducible exact Below.refl _ _) | (with_reducible assumption) | (with_reducible refine kept_alloc ?_ _) | (with_reducible refine kept_drewN ?_ _) | (with_reducible refine Below.drew ?_) | (with_reducible refine Below.setCell ?_ (by first | omega | (simp;omega) | (simp;done)) _) | (refine kept_trans ?_ (by with_reducible assumption)))
 refine (ordered_anyN (base:=w.heap.size) (l++[d]) mb w4 HE.out.1 HAP.out (by simp;omega) (Nat.le_trans hBw0.size (Nat.le_of_eq HE.out.2.2.symm))).mono ?_
 rintro e w5 ⟨p5,k5,rfl,hS5,hB5⟩
 go_wp2
 go_ret2
 have hBw:Kept w w3:=by repeat' (first | (with_reducible exact Below.refl _ _) | (with_reducible assumption) | (with_reducible refine kept_alloc ?_ _) | (with_reducible refine kept_drewN ?_ _) | (with_reducible refine Below.drew ?_) | (with_reducible refine Below.setCell ?_ (by first | omega | (simp;omega) | (simp;done)) _) | (refine kept_trans ?_ (by with_reducible assumption)))
 have hmb' : w.heap.size≤mb:=by simp at hmb;omega
 exact ⟨p5,k5,rfl,hS5,kept_trans (Out.below hBw HE.out.2.1 (by simp;exact hmb') hBw.size) hB5⟩
end
section
open Go.ChangeShapes Go.WideShapes Go.ChangeAt Go.RowKit
theorem late_split {now:Int}:∀ {done todo:List Du},(∀ d∈done,lateB now d=true)→(∀ d,todo.head? = some d→lateB now d=false)→(done++todo).takeWhile (lateB now)=done∧(done++todo).dropWhile (lateB now)=todo
 | [],todo,_,h2=>by
  cases todo with
  | nil=>simp
  | cons d r=>have:=h2 d rfl;simp [List.takeWhile_cons,List.dropWhile_cons,this]
 | e::done,todo,h1,h2=>by
  have he:=h1 e (by simp)
  obtain ⟨a,b⟩:=late_split (done:=done) (fun d hd=>h1 d (by simp [hd])) h2
  simp [List.takeWhile_cons,List.dropWhile_cons,he,a,b]
theorem hI1 (w:World) (x:Int) {g:Nat} (hg:w.heap.size=g):Sl (w.alloc (.cells #[.int .i64 x] 3)) 1 intC [x] (.slice (some ⟨g,0,none⟩) 1 1) :=
 Ow.sl intEnc (Ow.made (base:=0) (e:=3) (W:=w) intEnc [x] #[.int .i64 x] rfl (Nat.zero_le _) (by show 1≤maxLen;decide) hg rfl)
structure LateAt (w0 wr:World) (l done todo t:List Du) (now:Int) (p3:Option Addr) (k3 mb pb g cap:Nat):Prop where
 all:l=done++todo
 late:∀ d∈done,lateB now d=true
 own:Ow wr w0.heap.size 3 1 intC (done.map Du.id) (.slice p3 done.length k3)
 map:MapD wr mb todo
 pile:Pile wr pb g cap t
 heap:Heap t
 perm:t.Perm todo
 kept:Kept w0 wr
 ne:∀ x,p3=some x→x.block≠pb∧x.block≠g
 ge:w0.heap.size≤mb∧w0.heap.size≤pb∧w0.heap.size≤g
theorem map_ne_pile {w:World} {mb pb g cap:Nat} {l t:List Du} (h:MapD w mb l) (k:Pile w pb g cap t):mb≠pb∧mb≠g:=by
 obtain ⟨es,ck,h1,_⟩:=h
 refine ⟨fun e=>?_,fun e=>?_⟩
 ·subst e;rw [k.obj] at h1;cases h1
 ·subst e
  obtain ⟨_,⟨h2,_⟩ | ⟨_,_,_,h2,_,h3,_⟩⟩:=k.own
  ·cases h2
  ·cases h2;rw [h3] at h1;cases h1
theorem map_ne_own {w:World} {mb base n k c:Nat} {α:Type} {e:TypeId} {enc:α→List Value} {xs:List α} {l:List Du} {p:Option Addr} (h:MapD w mb l) (ho:Ow w base e k enc xs (.slice p n c)):∀ x,p=some x→x.block≠mb:=by
 obtain ⟨es,ck,h1,_⟩:=h
 intro x hx e'
 obtain ⟨_,⟨h2,_⟩ | ⟨_,_,_,h2,_,h3,_⟩⟩:=ho
 ·cases h2;cases hx
 ·cases h2;cases hx;have e2:_=mb:=e';simp only at e2;rw [e2] at h3;rw [h3] at h1;cases h1
theorem late_next {w4 X w5:World} {mb:Nat} {d0:Du} {todo:List Du} {v:Value} (hM:MapD w4 mb (d0::todo)) (hW:Below w4.heap.size w4 X) (hb:X.heap[w4.heap.size]? = some (.cells #[.int .i64 d0.tm,.int .i64 d0.id] 88 (0,0))) (hgr:X.grownBy w5 v.ownBlock)
  (hrow:∀ x,v.ownBlock=some x→x≠mb∧x≠w4.heap.size) (ha:Apart (d0::todo)) :
  ∃ w6,w5.cell? ⟨w4.heap.size,1,none⟩=some (.int .i64 d0.id)∧(Builtin.delete_ #[184,3] 0 #[.map (some mb),.int .i64 d0.id]).run Tryz.prog w5 = .ok (.tuple #[]) w6∧MapD w6 mb todo∧Out [mb] w5 w6∧MapD w5 mb (d0::todo):=by
 have hM5:MapD w5 mb (d0::todo):=hM.of_block ((hgr.block mb (Nat.lt_of_lt_of_le hM.lt hW.size) (fun e=>(hrow mb e.symm).1 rfl)).trans (hW.block mb hM.lt))
 have hb5:w5.heap[w4.heap.size]? = _:=(hgr.block w4.heap.size (Array.getElem?_eq_some_iff.1 hb).1 (fun e=>(hrow _ e.symm).2 rfl)).trans hb
 obtain ⟨w6,hu,hM6,hO6,hs6⟩:=map_drop hM5 d0.id ha 0
 have hw:without (d0::todo) d0.id=todo:=by
  have hp:=(List.pairwise_cons.1 ha).1
  unfold without
  rw [List.filter_cons_of_neg (by simp),List.filter_eq_self.2 (fun x hx=>by simpa using Ne.symm (hp x hx))]
 rw [hw] at hM6
 exact ⟨w6,by simp [World.cell?,hb5],hu,hM6,hO6,hM5⟩
end
section
open Go.ChangeShapes Go.WideShapes Go.ChangeAt Go.RowKit
def RetLN (w:World) (r:List Int) (s:List Du) (e:Ending) (w' : World):Prop :=
 ∃ (p q:Option Addr) (k j:Nat),e = .returned (.tuple #[.slice p r.length k,.slice q s.length j])∧Sl w' 1 intC r (.slice p r.length k)∧Sl w' 2 Du.cells s (.slice q s.length j)∧((∀ a,p=some a→w.heap.size≤a.block)∧(∀ a,q=some a→w.heap.size≤a.block))∧Kept w w'
set_option maxHeartbeats 4000000 in
theorem dlate_okN (l:List Du) (now:Int) (p:Option Addr) (k:Nat) (w:World) (hl:Sl w 2 Du.cells l (.slice p l.length k)) (hm:l.length≤700) (hok:okB l=true) :
  Calls Tryz.prog 178 #[.slice p l.length k,.int .i64 now] w (RetLN w (lateI l now) (restL l now)):=by
 have H:=Lib.hid hl
 obtain ⟨e1,e2⟩:=late_ok (now:=now) hok
 rw [e1,e2]
 have HO:=Lib.hid hok
 have hso:=(dok_iff.1 hok).2
 have HSO:=Lib.hid hso
 clear hl hok e1 e2 hso
 go_enter Tryz.func178,Tryz.ntmps178
 go_wp2_with fail
 refine (stand_yes l p k _ (H.out.kept (by repeat' (first | (with_reducible exact Below.refl _ _) | (with_reducible assumption) | (with_reducible refine kept_alloc ?_ _) | (with_reducible refine kept_drewN ?_ _) | (with_reducible refine Below.drew ?_) | (with_reducible refine Below.setCell ?_ (by first | omega | (simp;omega) | (simp;done)) _) | (refine kept_trans ?_ (by with_reducible assumption))))) (by omega) HO.out).mono ?_
 rintro e w1 ⟨mb,rfl,hM,hmb,hB1⟩
 go_wp2_with fail
 refine (piled_any l mb _ (hM.kept (by repeat' (first | (with_reducible exact Below.refl _ _) | (with_reducible assumption) | (with_reducible refine kept_alloc ?_ _) | (with_reducible refine kept_drewN ?_ _) | (with_reducible refine Below.drew ?_) | (with_reducible refine Below.setCell ?_ (by first | omega | (simp;omega) | (simp;done)) _) | (refine kept_trans ?_ (by with_reducible assumption))))) (by omega)).mono ?_
 rintro e w2 ⟨pb,g,cap,t,rfl,hP,hp,hh,hB2,hpb,hg⟩
 have hs1:=hB1.size
 have hs2:=hB2.size
 have hL0:LateAt w w2 l [] l t now (some ⟨w1.heap.size,0,none⟩) 0 mb pb g cap:=by
  refine ⟨rfl,by simp,?_,hM.kept (kept_trans (by repeat' (first | (with_reducible exact Below.refl _ _) | (with_reducible assumption) | (with_reducible refine kept_alloc ?_ _) | (with_reducible refine kept_drewN ?_ _) | (with_reducible refine Below.drew ?_) | (with_reducible refine Below.setCell ?_ (by first | omega | (simp;omega) | (simp;done)) _) | (refine kept_trans ?_ (by with_reducible assumption)))) hB2),hP,hh,hp,by repeat' (first | (with_reducible exact Below.refl _ _) | (with_reducible assumption) | (with_reducible refine kept_alloc ?_ _) | (with_reducible refine kept_drewN ?_ _) | (with_reducible refine Below.drew ?_) | (with_reducible refine Below.setCell ?_ (by first | omega | (simp;omega) | (simp;done)) _) | (refine kept_trans ?_ (by with_reducible assumption))),fun x hx=>?_,?_⟩
  ·exact Ow.kept (Ow.made (W:=w1) intEnc [] #[] rfl hs1 (by decide) rfl rfl) hB2
  ·cases hx;simp at hpb hg;show w1.heap.size≠pb∧w1.heap.size≠g;omega
  ·simp at hpb hg hmb;omega
 clear hM hmb hB1 hP hp hh hB2 hpb hg hs1 hs2
 have HL:=Lib.hid hL0
 clear hL0
 go_wp2
 go_loopw [8] (fun s8 wr=>∃ (p3:Option Addr) (k3:Nat) (done todo t:List Du),s8 = .slice p3 done.length k3∧LateAt w wr l done todo t now p3 k3 mb pb g cap) (fun s8 _=>match s8 with | .slice _ n _=>l.length - n | _=>0)
 case atStart=>exact ⟨_,_,[],l,t,rfl,HL.out⟩
 case round =>
  clear HL
  obtain ⟨p3,k3,done,todo,t',rfl,hL⟩:=hrel
  have HL:=Lib.hid hL
  cases todo with
  | nil =>
   have ht:t' = []:=List.perm_nil.1 hL.perm
   subst ht
   clear hL
   go_wp2_with fail
   refine (plen_any wr pb g cap _ HL.out.pile).mono ?_
   rintro e w3 ⟨rfl,hg3⟩
   rw [List.length_nil]
   go_wp2_with fail
   refine (ordered_anyN (base:=w.heap.size) [] mb w3 (HL.out.map.kept hg3) (by simp) (by simp) (Nat.le_trans HL.out.kept.size hg3.size)).mono ?_
   rintro e w4 ⟨p5,k5,rfl,⟨hS5,hN5⟩,hB5⟩
   go_wp2
   go_ret2
   have hsp:=late_split (now:=now) HL.out.late (todo:=[]) (by simp)
   rw [← HL.out.all] at hsp
   rw [hsp.1,hsp.2]
   exact ⟨p3,p5,k3,k5,(by rw [List.length_map];rfl),(by rw [List.length_map];exact ((Ow.sl intEnc HL.out.own).kept hg3).kept hB5),hS5,⟨fun a ha=>by subst ha;exact (Ow.lt HL.out.own a.block rfl).1,hN5⟩,kept_trans (kept_trans HL.out.kept hg3) hB5⟩
  | cons d0 todo =>
   obtain ⟨n,hn⟩:∃ n,t'.length=n+1:=⟨todo.length,by rw [hL.perm.length_eq];simp⟩
   have hsd:Sorted (d0::todo):=by
    have:=HSO.out.1
    rw [hL.all,Sorted,List.pairwise_append] at this
    exact this.2.1
   have had:Apart (d0::todo):=by
    have:=HSO.out.2
    rw [hL.all,Apart,List.pairwise_append] at this
    exact this.2.1
   have hlen:done.length+(todo.length+1)=l.length:=by have:=congrArg List.length hL.all;simpa using this.symm
   have hnb:n≤700:=by have:=hL.perm.length_eq;simp at this;omega
   have HS:=Lib.hid (And.intro hsd (And.intro had (And.intro hlen hn)))
   have hdl:done.length≤700:=by omega
   clear hL hsd had hlen hn
   go_wp2_with fail
   refine (plen_any wr pb g cap _ HL.out.pile).mono ?_
   rintro e w3 ⟨rfl,hg3⟩
   rw [HS.out.2.2.2]
   have b1:(0:Int)<(n:Int)+1:=by omega
   go_wp2_with fail
   refine (dnext_any w3 pb g cap n t' (HL.out.pile.kept hg3) HL.out.heap HS.out.2.2.2 (by omega)).mono ?_
   rintro e w4 ⟨rfl,t4,hP4,hp4,hh4,hO4⟩
   obtain ⟨hd,hp5⟩:=heap_first HL.out.perm HS.out.1 hp4 (fun e he=>by
    obtain ⟨k,hk,rfl⟩:=gt_mem he
    exact heap_least HL.out.heap k hk)
   rw [hd]
   have hM4:MapD w4 mb (d0::todo):=by
    have h1:=HL.out.map.kept hg3
    have h2:=map_ne_pile h1 (HL.out.pile.kept hg3)
    exact h1.out hO4 (by simp [h2])
   have hO5:Ow w4 w.heap.size 3 1 intC (done.map Du.id) (.slice p3 done.length k3):=by
    refine (Ow.kept HL.out.own hg3).of_block (fun x hx=>hO4.block x (Ow.lt (Ow.kept HL.out.own hg3) x hx).2 ?_)
    cases p3 with
    | none=>cases hx
    | some y=>cases hx;have:=HL.out.ne y rfl;simp;omega
   have hB4:Below w.heap.size w w4:=Out.below (kept_trans HL.out.kept hg3) hO4 (by have:=HL.out.ge;simp;omega) (by have:=HL.out.kept.size;have:=hg3.size;omega)
   have HE:=Lib.hid (And.intro hP4 (And.intro hh4 (And.intro hp5 (And.intro hM4 (And.intro hO5 hB4)))))
   clear hP4 hp4 hh4 hO4 hp5 hd hM4 hO5 hB4
   by_cases hnow:now<d0.tm
   ·go_wp2_with fail
    refine (ordered_anyN (base:=w.heap.size) (d0::todo) mb _ (HE.out.2.2.2.1.kept (by repeat' (first | (with_reducible exact Below.refl _ _) | (with_reducible assumption) | (with_reducible refine kept_alloc ?_ _) | (with_reducible refine kept_drewN ?_ _) | (with_reducible refine Below.drew ?_) | (with_reducible refine Below.setCell ?_ (by first | omega | (simp;omega) | (simp;done)) _) | (refine kept_trans ?_ (by with_reducible assumption))))) HS.out.2.1 (by have:=HS.out.2.2.1;simp;omega) (Nat.le_trans HE.out.2.2.2.2.2.size (by simp))).mono ?_
    rintro e w5 ⟨p5,k5,rfl,⟨hS5,hN5⟩,hB5⟩
    go_wp2
    go_ret2
    have hsp:=late_split (now:=now) HL.out.late (todo:=d0::todo) (fun d hd=>by cases hd;simp [lateB];omega)
    rw [← HL.out.all] at hsp
    rw [hsp.1,hsp.2]
    rw [srt_id HS.out.1 HS.out.2.1] at hS5 ⊢
    exact ⟨p3,p5,k3,k5,(by rw [List.length_map];rfl),(by rw [List.length_map];exact (Ow.sl intEnc HE.out.2.2.2.2.1).kept (((Below.refl _ _).alloc (Nat.le_refl _) _).trans (hB5.mono (by simp)))),hS5,⟨fun a ha=>by subst ha;exact (Ow.lt HE.out.2.2.2.2.1 a.block rfl).1,hN5⟩,kept_trans (HE.out.2.2.2.2.2.alloc (by have:=HE.out.2.2.2.2.2.size;omega) _) hB5⟩
   ·have hnow' : d0.tm≤now:=by omega
    have hW:Below w4.heap.size w4 ((w4.alloc (.cells #[.int .i64 d0.tm,.int .i64 d0.id] 88)).alloc (.cells #[.int .i64 d0.id] 3)):=by repeat' (first | (with_reducible exact Below.refl _ _) | (with_reducible assumption) | (with_reducible refine kept_alloc ?_ _) | (with_reducible refine kept_drewN ?_ _) | (with_reducible refine Below.drew ?_) | (with_reducible refine Below.setCell ?_ (by first | omega | (simp;omega) | (simp;done)) _) | (refine kept_trans ?_ (by with_reducible assumption)))
    have hbox:((w4.alloc (.cells #[.int .i64 d0.tm,.int .i64 d0.id] 88)).alloc (.cells #[.int .i64 d0.id] 3)).heap[w4.heap.size]? = some (.cells #[.int .i64 d0.tm,.int .i64 d0.id] 88 (0,0)):=by
     rw [heap_alloc_old _ _ (by simp)];exact heap_alloc_new _ _
    have HW:=Lib.hid (And.intro hW hbox)
    have hown:=HE.out.2.2.2.2.1.kept hW
    have hsl:=hI1 (w4.alloc (.cells #[.int .i64 d0.tm,.int .i64 d0.id] 88)) d0.id rfl
    simp only [World.size_alloc] at hsl
    have hbe:=HE.out.2.2.2.2.2.trans (hW.mono HE.out.2.2.2.2.2.size)
    have HZ:=Lib.hid (And.intro hown (And.intro hsl hbe))
    clear hW hbox hown hsl hbe
    have hrow:∀ x,(Value.slice p3 done.length k3).ownBlock=some x→x≠mb∧x≠w4.heap.size:=fun x hx=>by
     cases p3 with
     | none=>cases hx
     | some y=>cases hx;exact ⟨map_ne_own HE.out.2.2.2.1 HE.out.2.2.2.2.1 y rfl,Nat.ne_of_lt (Ow.lt HE.out.2.2.2.2.1 _ rfl).2⟩
    have HR:=Lib.hid hrow
    clear hrow
    go_wp2_with ((at_builtin;refine wpList_appb (wb:=w) rfl _ _ 27 rfl (.int .i64 0) 8 Tryz.underlying27 int_info rfl (by decide) intEnc rfl rfl (xs:=(done.map Du.id)) (ys:=[d0.id]) HZ.out.1 HZ.out.2.1 HZ.out.2.2 (by simp only [List.length_append,List.length_nil,List.length_cons,List.length_map];unfold maxLen;omega) (by simp only [List.length_append,List.length_nil,List.length_cons,List.length_map];omega) ?_);intro v1 w5 ho1 hb1 hgr1 hbk1;obtain ⟨g1,k4,rfl⟩:=ow_some ho1 (by simp);rw [List.length_append,List.length_map,List.length_singleton] at ho1 hbk1;obtain ⟨w6,hq5,hu,hX⟩:=late_next HE.out.2.2.2.1 HW.out.1 HW.out.2 hgr1 HR.out HS.out.2.1;have HX:=Lib.hid (And.intro ho1 (And.intro hb1 (And.intro hgr1 (And.intro hbk1 hX))));clear ho1 hb1 hgr1 hbk1 hX)
    go_roundw
    case rel =>
     obtain ⟨x1,x2,x3,x4,x5,x6,x7⟩:=HX.out
     have x3' : ((w4.alloc (.cells #[.int .i64 d0.tm,.int .i64 d0.id] 88)).alloc (.cells #[.int .i64 d0.id] 3)).grownBy w5 (Value.slice p3 done.length k3).ownBlock:=x3
     have x4' : (some g1:Option Nat)=(Value.slice p3 done.length k3).ownBlock∨g1=w4.heap.size+1+1:=by
      rcases x4 g1 rfl with h | h
      ·exact .inl h.symm
      ·exact .inr (by simpa using h)
     obtain ⟨y1,y2,y3,y4,y5,y6⟩:=HE.out
     have hrow:pb∉((Value.slice p3 done.length k3).ownBlock).toList∧g∉((Value.slice p3 done.length k3).ownBlock).toList:=by
      cases p3 with
      | none=>simp [Value.ownBlock]
      | some y=>have:=HL.out.ne y rfl;simp [Value.ownBlock];omega
     have hP5:Pile w5 pb g cap t4:=(y1.kept HW.out.1).out (out_of_grown x3') hrow.1 hrow.2
     have hmp:=map_ne_pile x7 hP5
     have hmo:=map_ne_own x7 x1 ⟨g1,0,none⟩ rfl
     have hP6:=hP5.out x6 (by simpa using hmp.1.symm) (by simpa using hmp.2.symm)
     have hO6:=x1.of_block (fun x hx=>by cases hx;exact x6.block _ (Ow.lt x1 _ rfl).2 (by simpa using hmo))
     refine ⟨some ⟨g1,0,none⟩,k4,done++[d0],todo,t4,by simp,⟨by rw [HL.out.all];simp,fun d hd=>?_,?_,x5,hP6,y2,y3,Out.below x2 x6 (by have:=HL.out.ge;simp;omega) x2.size,fun x hx=>?_,HL.out.ge⟩⟩
     ·rcases List.mem_append.1 hd with h | h
      ·exact HL.out.late d h
      ·rw [List.mem_singleton] at h;subst h;exact late_iff.2 hnow'
     ·rw [List.map_append,List.length_append,List.length_singleton];exact hO6
     ·cases hx
      show g1≠pb∧g1≠g
      have hlt:=y1.lt
      rcases x4' with h | h
      ·cases p3 with
       | none=>cases h
       | some y=>cases h;exact HL.out.ne y rfl
      ·omega
    case measure =>
     have:=HS.out.2.2.1
     simp
     omega
end
end Go.Proofs.YtbckpadeamlidaaGreat
