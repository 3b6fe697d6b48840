/- Texts merged: EngMT, EngAT, EngCT, EngRT. -/
import Derived.Test.YtfogkllejkmpdaaGreatZf1
import Derived.Laws.MakeOwn
namespace Go.Proofs.YtfogkllejkmpdaaGreat
set_option linter.unusedVariables false
set_option linter.unusedSimpArgs false
set_option maxRecDepth 100000
section
open Go.RowKit
def keyOf:Value→Option Int
 | .agg xs=>match xs.toList with
  | [.int .i64 i,_]=>some i
  | _=>none
 | _=>none
def jV (key:Int) (el:Value):Bool :=
 match keyOf el with
 | some j=>!(j==key)
 | none=>false
def jq (key:Int):List Value→Option (Option Value)
 | []=>some none
 | el::r=>match el with
  | .agg xs=>match xs.toList with
   | [.int .i64 j,v]=>match j==key with
    | true=>some (some v)
    | false=>jq key r
   | _=>none
  | _=>none
def tX (P:Program) (t:TypeId):Option TypeId :=
 match P.underlying t with
 | some (.map kt et)=>match P.underlying kt with
  | some (.int .i64)=>some et
  | _=>none
 | _=>none
def a3r (P:Program) (t:TypeId):Nat :=
 match P.underlying t with
 | some (.int _)=>1
 | _=>0
def Ce (P:Program) (t:TypeId) (nx:Nat) (orc:List Value):EeR :=
 match tX P t with
 | some et=>some (.map (some nx),[],[(nx,some ⟨true,false,0,a3r P et,[]⟩)],nx+1,orc,[])
 | none=>none
def zl (key:Int) (v:Value) (els:List Value):List Value:=els.filter (jV key)++[.agg #[.int .i64 key,v]]
def Ji (key:Int) (els:List Value):List Value:=els.filter (jV key)
def Ue (n:Nat) (orc:List Value):Option (List Value×List Value) :=
 match n with
 | 0=>none
 | _+1=>match orc with
  | .iface 1000020 (.agg els)::orc' => some (els.toList,orc')
  | _=>none
def a1y (orc:List Value):Option (Option Value×List Value) :=
 match orc with
 | .iface 1000021 (.agg xs)::orc' => match xs.toList with
  | []=>some (none,orc')
  | [v]=>some (some v,orc')
  | _=>none
 | _=>none
def vL (P:Program) (t:TypeId) (mv kv vv:Value) (H:Nat→Option Blk) (nx:Nat) (orc:List Value):EeR :=
 match tX P t with
 | some _=>match mv with
  | .map (some i)=>match kv with
   | .int .i64 key=>match H i with
    | some b=>match Ue b.n orc with
     | some (els,orc')=>if b.w&&b.isMap&&dW vv then some (.tuple #[],[i],[(i,some { b with els:=els })],nx,orc',[els=zl key vv b.els]) else none
     | none=>if b.w&&b.isMap&&(b.n==0||dW vv)&&b.els.all (jV key) then
     some (.tuple #[],[i],[(i,some { b with els:=b.els++[.agg #[.int .i64 key,vv]] })],nx,orc,[]) else none
    | none=>none
   | _=>none
  | _=>none
 | none=>none
def Tp (P:Program) (ats:List TypeId) (mv kv:Value) (H:Nat→Option Blk) (nx:Nat) (orc:List Value):EeR :=
 match ats with
 | [t,_]=>match tX P t with
  | some _=>match mv with
   | .map (some i)=>match kv with
    | .int .i64 key=>match H i with
     | some b=>match Ue b.n orc with
      | some (els,orc')=>if b.w&&b.isMap then some (.tuple #[],[i],[(i,some { b with els:=els })],nx,orc',[els=Ji key b.els]) else none
      | none=>none
     | none=>none
    | _=>none
   | _=>none
  | none=>none
 | _=>none
def xW (P:Program) (t:TypeId) (mv kv:Value) (ok:Bool) (H:Nat→Option Blk) (orc:List Value):EvR :=
 match tX P t with
 | some et=>match mv with
  | .map (some i)=>match kv with
   | .int .i64 key=>match H i with
    | some b=>if b.isMap then
     match a1y orc with
     | some (some v,orc')=>some (if ok then .tuple #[v,vD true] else v,[i],orc',[jq key b.els=some (some v)])
     | some (none,orc')=>match P.info? et with
      | some it=>match it.zero with
       | some z=>some (if ok then .tuple #[wT z,vD false] else wT z,[i],orc',[jq key b.els=some none])
       | none=>none
      | none=>none
     | none=>match jq key b.els with
     | some (some v)=>some (if ok then .tuple #[v,vD true] else v,[i],orc,[])
     | some none=>match P.info? et with
      | some it=>match it.zero with
       | some z=>some (if ok then .tuple #[wT z,vD false] else wT z,[i],orc,[])
       | none=>none
      | none=>none
     | none=>none
     else none
    | none=>none
   | _=>none
  | _=>none
 | none=>none
section
variable {P:Program} {mty kt et:TypeId}
theorem sN {t e:TypeId} (h:tX P t=some e):∃ kt,P.underlying t=some (.map kt e)∧P.underlying kt=some (.int .i64):=by
 unfold tX at h
 split at h
 ·next kt et h1 =>
  split at h
  ·next h2=>cases h;exact ⟨kt,h1,h2⟩
  ·cases h
 ·cases h
theorem zA (hu:P.underlying mty=some (.map kt et)) (hd:P.underlying kt=some (.int .i64)) {w:World} {mb:Nat} {l:List (Int×Value)} (h:IMap w mb l) (i:Int) (v:Value) (hn:∀ d∈l,d.1≠i) :
  ∃ es ck,(Instr.mapUpdate mty (.map (some mb)) (.int .i64 i) v).run P w = .ok () { w with heap:=w.heap.setIfInBounds mb (.map es ck) }∧IMap { w with heap:=w.heap.setIfInBounds mb (.map es ck) } mb (l++[(i,v)]) ∧
   (∀ j,j≠mb→(w.heap.setIfInBounds mb (.map es ck))[j]? = w.heap[j]?)∧∃ es0 ck0,w.heap[mb]? = some (.map es0 ck0):=by
 obtain ⟨es,ck,h⟩:=h
 have hg:=MapKept.run_getObj_map (P:=P) h.obj
 have hc:=MapKept.run_checkKey (P:=P) (w:=w) (k:=.int .i64 i) hd rfl false 9999
 rcases h.find i with ⟨h1,h2⟩ | ⟨j,x,h1,h2,h3,h4⟩
 ·have hf:=MapKept.run_findKey (P:=P) (w:=w) hd h1
  have hs:=MapKept.heap_set (o' := .map (es.push { key:=.int .i64 i,val:=v,born:=ck }) (ck+1)) h.obj
  refine ⟨_,_,by simp [Instr.mapUpdate,run_underlying hu,hg,hc,hf,MapKept.run_setObj_map _ h.obj,Result.andThen],⟨_,_,hs.1,?_,?_,?_⟩,fun j hj=>hs.2 j hj,es,ck,h.obj⟩
  ·simp [h.ents]
  ·intro x hx
   simp only [Array.toList_push,List.mem_append,List.mem_singleton] at hx
   rcases hx with hx | rfl
   ·exact Nat.lt_succ_of_lt (h.born x hx)
   ·exact Nat.lt_succ_self _
  ·simp only [Array.toList_push,List.map_append,List.map_cons,List.map_nil]
   refine List.nodup_append.2 ⟨h.nodup,by simp,?_⟩
   intro a ha b hb
   simp only [List.mem_singleton] at hb
   subst hb
   obtain ⟨x,hx,rfl⟩:=List.mem_map.1 ha
   exact Nat.ne_of_lt (h.born x hx)
 ·exact absurd h3 (hn x (List.mem_of_getElem? h2))
theorem Mg (hu:P.underlying mty=some (.map kt et)) (hd:P.underlying kt=some (.int .i64)) {w:World} {mb:Nat} {l:List (Int×Value)} (h:IMap w mb l) (hn:(l.map (·.1)).Nodup) (i:Int) (v:Value) :
  ∃ es ck l',(Instr.mapUpdate mty (.map (some mb)) (.int .i64 i) v).run P w = .ok () { w with heap:=w.heap.setIfInBounds mb (.map es ck) }∧IMap { w with heap:=w.heap.setIfInBounds mb (.map es ck) } mb l' ∧ (l'.map (·.1)).Nodup∧(∀ d,d∈l' ↔ (d∈l∧d.1≠i)∨d=(i,v)) ∧
   (∀ j,j≠mb→(w.heap.setIfInBounds mb (.map es ck))[j]? = w.heap[j]?)∧∃ es0 ck0,w.heap[mb]? = some (.map es0 ck0):=by
 have h0:=h
 obtain ⟨es,ck,h⟩:=h
 have hg:=MapKept.run_getObj_map (P:=P) h.obj
 have hc:=MapKept.run_checkKey (P:=P) (w:=w) (k:=.int .i64 i) hd rfl false 9999
 rcases h.find i with ⟨h1,h2⟩ | ⟨j,x,h1,h2,h3,h4⟩
 ·obtain ⟨es',ck',k1,k2,k3⟩:=zA hu hd h0 i v h2
  refine ⟨es',ck',l++[(i,v)],k1,k2,?_,fun d=>?_,k3⟩
  ·rw [List.map_append]
   refine List.nodup_append.2 ⟨hn,by simp,fun p hp q hq=>?_⟩
   simp only [List.map_cons,List.map_nil,List.mem_singleton] at hq
   subst hq
   obtain ⟨d,hd',rfl⟩:=List.mem_map.1 hp
   exact h2 d hd'
  ·simp only [List.mem_append,List.mem_singleton]
   exact ⟨fun h=>h.imp (fun h=>⟨h,h2 d h⟩) id,fun h=>h.imp (·.1) id⟩
 ·have hf:=MapKept.run_findKey (P:=P) (w:=w) hd h1
  obtain ⟨ee,hj,hK⟩:∃ ee,es[j]? = some ee∧ee.key = .int .i64 i:=by
   have hsz:j<es.toList.length:=by simpa using h4
   obtain ⟨d,e1,e2,-⟩:=h.at (List.getElem?_eq_getElem hsz)
   rw [h2] at e1;cases e1
   exact ⟨es.toList[j],by rw [← Array.getElem?_toList];exact List.getElem?_eq_getElem hsz,by rw [e2,h3]⟩
  have hs:=MapKept.heap_set (o' := .map (es.modify j fun e=>{ e with key:=.int .i64 i,val:=v }) ck) h.obj
  have hlj:j<l.length:=(List.getElem?_eq_some_iff.1 h2).1
  refine ⟨_,_,l.set j (i,v),by simp [Instr.mapUpdate,run_underlying hu,hg,hc,hf,hj,hK,MapKept.run_keyThatStays (P:=P) (w:=w) (d:=.int .i64) (k:=.int .i64 i) rfl,MapKept.run_setObj_map _ h.obj,Result.andThen],⟨_,_,hs.1,?_,?_,?_⟩,?_,fun d=>?_,fun j hj=>hs.2 j hj,es,ck,h.obj⟩
  ·refine List.ext_getElem? fun q=>?_
   have:=congrArg (·[q]?) h.ents
   simp only [List.getElem?_map,Array.getElem?_toList,Array.getElem?_modify,List.getElem?_set] at this ⊢
   by_cases e:j=q
   ·subst e;simp [hj,hlj]
   ·simp only [e,if_false];exact this
  ·intro x hx
   simp only [Array.toList_modify] at hx
   obtain ⟨q,hq⟩:=List.getElem?_of_mem hx
   rw [List.getElem?_modify] at hq
   obtain ⟨y,hy,hxy⟩:=Option.map_eq_some_iff.1 hq
   have:=h.born y (List.mem_of_getElem? hy)
   subst hxy
   split <;> exact this
  ·have:((es.modify j fun e=>{ e with key:=.int .i64 i,val:=v }).toList.map (·.born))=es.toList.map (·.born):=by
    refine List.ext_getElem? fun q=>?_
    simp only [List.getElem?_map,Array.getElem?_toList,Array.getElem?_modify]
    split
    ·cases es[q]? <;> rfl
    ·rfl
   rw [this];exact h.nodup
  ·have:((l.set j (i,v)).map (·.1))=l.map (·.1):=by
    refine List.ext_getElem? fun q=>?_
    simp only [List.getElem?_map,List.getElem?_set]
    split
    ·next e=>subst e;rw [h2];simp [hlj,h3]
    ·rfl
   rw [this];exact hn
  ·constructor
   ·intro hd'
    obtain ⟨q,hq⟩:=List.getElem?_of_mem hd'
    rw [List.getElem?_set] at hq
    split at hq
    ·first
      | (cases hq;exact .inr rfl)
      | (split at hq <;> first | (cases hq;exact .inr rfl) | cases hq)
    ·next e =>
     refine .inl ⟨List.mem_of_getElem? hq,fun hdi=>e ?_⟩
     have e1:(l.map (·.1))[j]? = some i:=by simp [h2,h3]
     have e2:(l.map (·.1))[q]? = some i:=by simp [hq,hdi]
     exact (List.getElem?_inj (by simpa using hlj) hn).1 (e1.trans e2.symm)
   ·rintro (⟨hd',hdi⟩ | rfl)
    ·obtain ⟨q,hq⟩:=List.getElem?_of_mem hd'
     refine List.mem_of_getElem? (i:=q) ?_
     rw [List.getElem?_set,if_neg (fun e=>hdi (by subst e;rw [h2] at hq;cases hq;exact h3))]
     exact hq
    ·exact List.mem_of_getElem? (i:=j) (by rw [List.getElem?_set,if_pos rfl,if_pos hlj])
theorem Ph (hu:P.underlying mty=some (.map kt et)) (hd:P.underlying kt=some (.int .i64)) {w:World} {mb:Nat} {l:List (Int×Value)} (h:IMap w mb l) (hn:(l.map (·.1)).Nodup) (i:Int) (ty kt' : TypeId) :
  ∃ es ck l',(Builtin.delete_ #[mty,kt'] ty #[.map (some mb),.int .i64 i]).run P w = .ok (.tuple #[]) { w with heap:=w.heap.setIfInBounds mb (.map es ck) }∧IMap { w with heap:=w.heap.setIfInBounds mb (.map es ck) } mb l' ∧ (l'.map (·.1)).Nodup∧(∀ d,d∈l' ↔ d∈l∧d.1≠i) ∧
   (∀ j,j≠mb→(w.heap.setIfInBounds mb (.map es ck))[j]? = w.heap[j]?)∧∃ es0 ck0,w.heap[mb]? = some (.map es0 ck0):=by
 obtain ⟨es,ck,h⟩:=h
 have hg:=MapKept.run_getObj_map (P:=P) h.obj
 have hc:=MapKept.run_checkKey (P:=P) (w:=w) (k:=.int .i64 i) hd rfl es.isEmpty 9999
 rcases h.find i with ⟨h1,h2⟩ | ⟨j,x,h1,h2,h3,h4⟩
 ·have hf:=MapKept.run_findKey (P:=P) (w:=w) hd h1
  have hs:=MapKept.heap_set (o' := .map es ck) h.obj
  exact ⟨es,ck,l,by simp [Builtin.delete_,run_underlying hu,hg,hc,hf,MapKept.run_setObj_map _ h.obj,Result.andThen],⟨_,_,hs.1,h.ents,h.born,h.nodup⟩,hn,fun d=>⟨fun h=>⟨h,h2 d h⟩,(·.1)⟩,fun j hj=>hs.2 j hj,es,ck,h.obj⟩
 ·have hf:=MapKept.run_findKey (P:=P) (w:=w) hd h1
  have hlj:j<l.length:=(List.getElem?_eq_some_iff.1 h2).1
  have hs:=MapKept.heap_set (o' := .map (es.eraseIdxIfInBounds j) ck) h.obj
  have he:(es.eraseIdxIfInBounds j).toList=es.toList.eraseIdx j:=by unfold Array.eraseIdxIfInBounds;rw [dif_pos h4];simp
  refine ⟨es.eraseIdxIfInBounds j,ck,l.eraseIdx j,by simp [Builtin.delete_,run_underlying hu,hg,hc,hf,MapKept.run_setObj_map _ h.obj,Result.andThen],⟨_,_,hs.1,?_,?_,?_⟩,?_,fun d=>?_,fun j hj=>hs.2 j hj,es,ck,h.obj⟩
  ·rw [he,List.eraseIdx_eq_take_drop_succ,List.eraseIdx_eq_take_drop_succ,List.map_append,List.map_append,List.map_take,List.map_take,List.map_drop,List.map_drop,h.ents]
  ·intro x hx;rw [he] at hx;exact h.born x ((List.eraseIdx_sublist _ _).subset hx)
  ·rw [he];exact h.nodup.sublist ((List.eraseIdx_sublist _ _).map _)
  ·exact hn.sublist ((List.eraseIdx_sublist _ _).map _)
  ·rw [List.mem_eraseIdx_iff_getElem?]
   constructor
   ·rintro ⟨q,hq,hqd⟩
    refine ⟨List.mem_of_getElem? hqd,fun hdi=>hq ?_⟩
    have e1:(l.map (·.1))[j]? = some i:=by simp [h2,h3]
    have e2:(l.map (·.1))[q]? = some i:=by simp [hqd,hdi]
    exact ((List.getElem?_inj (by simpa using hlj) hn).1 (e1.trans e2.symm)).symm
   ·rintro ⟨hd',hdi⟩
    obtain ⟨q,hq⟩:=List.getElem?_of_mem hd'
    exact ⟨q,fun e=>hdi (by subst e;rw [h2] at hq;cases hq;exact h3),hq⟩
theorem QQ (hu:P.underlying mty=some (.map kt et)) (hd:P.underlying kt=some (.int .i64)) {w:World} {mb:Nat} {l:List (Int×Value)} (h:IMap w mb l) (hn:(l.map (·.1)).Nodup) {n:Nat} {i:Int} {v:Value} (hi:l[n]? = some (i,v)) (ok:Bool) :
  (Instr.lookup mty (.map (some mb)) (.int .i64 i) ok).run P w = .ok (if ok then .tuple #[v,.bool true] else v) w:=by
 obtain ⟨es,ck,h⟩:=h
 have hg:=MapKept.run_getObj_map (P:=P) h.obj
 have hc:=MapKept.run_checkKey (P:=P) (w:=w) (k:=.int .i64 i) hd rfl es.isEmpty 9999
 rcases h.find i with ⟨h1,h2⟩ | ⟨j,d,h1,h2,h3,h4⟩
 ·exact absurd rfl (h2 _ (List.mem_of_getElem? hi))
 ·have hf:=MapKept.run_findKey (P:=P) (w:=w) hd h1
  have e1:(l.map (·.1))[j]? = some i:=by simp [h2,h3]
  have e2:(l.map (·.1))[n]? = some i:=by simp [hi]
  have hl:j<(l.map (·.1)).length:=(List.getElem?_eq_some_iff.1 e1).1
  have:j=n:=(List.getElem?_inj hl hn).1 (e1.trans e2.symm)
  subst this
  rw [h2] at hi;cases hi
  cases ok <;> simp [Instr.lookup,run_underlying hu,hg,hc,hf,Result.andThen]
theorem MC (hu:P.underlying mty=some (.map kt et)) (hd:P.underlying kt=some (.int .i64)) {w:World} {mb:Nat} {l:List (Int×Value)} (h:IMap w mb l) {i:Int} {it:TypeInfo} {z:Value} (hi:P.info? et=some it) (hz:it.zero=some z) (hno:∀ d∈l,d.1≠i) (ok:Bool) :
  (Instr.lookup mty (.map (some mb)) (.int .i64 i) ok).run P w = .ok (if ok then .tuple #[z,.bool false] else z) w:=by
 obtain ⟨es,ck,h⟩:=h
 have hg:=MapKept.run_getObj_map (P:=P) h.obj
 have hc:=MapKept.run_checkKey (P:=P) (w:=w) (k:=.int .i64 i) hd rfl es.isEmpty 9999
 rcases h.find i with ⟨h1,h2⟩ | ⟨j,d,h1,h2,h3,h4⟩
 ·have hf:=MapKept.run_findKey (P:=P) (w:=w) hd h1
  cases ok <;> simp [Instr.lookup,run_underlying hu,hg,hc,hf,zeroValue,typeInfo,hi,hz,Result.andThen]
 ·exact absurd h3 (hno _ (List.mem_of_getElem? h2))
theorem yR {key:Int}:∀ {els:List Value} {r:Option Value},jq key els=some r→(∀ v,r=some v→∃ n:Nat,els[n]? = some (Value.agg #[.int .i64 key,v]))∧(r=none→∀ (n:Nat) (i:Int) (v:Value),els[n]? = some (Value.agg #[.int .i64 i,v])→i≠key)
 | [],r,h=>by cases h;exact ⟨fun v h=>(by cases h),fun _ n i v h=>(by simp at h)⟩
 | el::els,r,h=>by
  unfold jq at h
  split at h
  ·next xs =>
   split at h
   ·next j v hxs =>
    have hx:xs=#[.int .i64 j,v]:=by rw [← Array.toArray_toList (xs:=xs),hxs]
    subst hx
    split at h
    ·next e =>
     have e' : j=key:=by simpa using e
     subst e'
     cases h
     exact ⟨fun v' h=>⟨0,by cases h;rfl⟩,fun h=>by cases h⟩
    ·next e =>
     obtain ⟨h1,h2⟩:=yR h
     refine ⟨fun v' hv=>?_,fun hr n i v' hn=>?_⟩
     ·obtain ⟨n,hn⟩:=h1 v' hv
      exact ⟨n+1,by simpa using hn⟩
     ·cases n with
      | zero =>
       simp only [List.getElem?_cons_zero,Option.some.injEq,Value.agg.injEq] at hn
       have:i=j:=by
        have:=congrArg Array.toList hn
        simp at this;exact this.1.symm
       subst this
       simpa using e
      | succ n=>exact h2 hr n i v' (by simpa using hn)
   ·cases h
  ·cases h
theorem Vd {i j:Int} {u v:Value} (h:(Value.agg #[.int .i64 i,u]) = .agg #[.int .i64 j,v]):i=j∧u=v:=by
 simp only [Value.agg.injEq] at h
 have:=congrArg Array.toList h
 simp at this;exact this
theorem HY {bd:Nat} {o:Oper} {t:TypeId} {e:Operand→Value} {H:Nat→Option Blk} {nx nx' : Nat} {orc orc' : List Value} {v:Value} {rd:List Nat} {wr:List (Nat×Option Blk)} {ob:List Prop} (ho:o.op = .makeMap t none) (h:Ce P t nx orc=some (v,rd,wr,nx',orc',ob)):iy P bd o e H nx nx' rd wr v:=by
 unfold Ce at h
 split at h
 ·cases h
  intro ρ O a W K Q hl he _ _ hf _ _ hK
  have hn:=hf nx (Nat.le_refl _) (by omega)
  have hst:=kE (k:=0) hl (.map #[] 0) nx hn [nx] []
  have hrun:(execOp a.eval o).run P W = .ok (.value (.map (some W.heap.size))) (W.alloc (.map #[] 0)):=by simp [execOp,ho,run_makeMap]
  unfold Oper.wp
  rw [hrun]
  refine hK _ _ _ _ (je.2 ⟨W.heap.size,by simp,rfl⟩) (fun p hp=>?_) hst
  simp only [List.mem_singleton] at hp
  subst hp
  exact ⟨W.heap.size,by simp,.inr rfl,(af rfl).2 ⟨[],⟨IMap.made W,by simp⟩,fun d hd=>(by cases hd),fun el hel=>(by cases hel)⟩⟩
 ·cases h
theorem iN {key i:Int} {v:Value}:jV key (.agg #[.int .i64 i,v])=true↔i≠key:=by simp [jV,keyOf]
theorem Cz {key:Int} {v:Value} {els:List Value} (h:els.all (jV key)=true):els++[.agg #[.int .i64 key,v]]=zl key v els:=by
 unfold zl
 rw [List.filter_eq_self.2 (List.all_eq_true.1 h)]
theorem Yl {W:World} {g ck0:Nat} {es0:Array MapEntry} {X:Array Obj} (hobj:W.heap[g]? = some (.map es0 ck0)) (hoth:∀ j,j≠g→X[j]? = W.heap[j]?):Shp W { W with heap:=X }:=fun g' arr ty hg=>by
 by_cases e1:g' = g
 ·subst e1;rw [hobj] at hg;cases hg
 ·exact ⟨arr,(hoth g' e1).trans hg,rfl⟩
theorem DR {bd:Nat} {o:Oper} {e:Operand→Value} {H:Nat→Option Blk} {nx i:Nat} {b:Blk} {els:List Value} {m:Operand} (hmo:m∈o.op.operands) (hm:e m = .map (some i)) (hb:H i=some b) (hmap:b.isMap=true)
  (hrun:∀ (ρ:A8) (O:Nat→Prop) (W:World) (f:Operand→Value) (g:Nat) (l:List (Int×Value)),(∀ x∈o.op.operands,Rp ρ O W (e x) (f x))→f m = .map (some g)→IMap W g l→(l.map (·.1)).Nodup→∃ es ck l' r,(execOp f o).run P W = .ok r { W with heap:=W.heap.setIfInBounds g (.map es ck) }∧(r = .skip∨r = .value (.tuple #[])) ∧
   IMap { W with heap:=W.heap.setIfInBounds g (.map es ck) } g l' ∧ (l'.map (·.1)).Nodup∧(∀ j,j≠g→(W.heap.setIfInBounds g (.map es ck))[j]? = W.heap[j]?)∧(∃ es0 ck0,W.heap[g]? = some (.map es0 ck0)) ∧
   ((∀ d∈l,∃ v,Value.agg #[.int .i64 d.1,v]∈b.els)→(∀ d∈l',∃ v,Value.agg #[.int .i64 d.1,v]∈els)) ∧
   ((∀ el∈b.els,∃ i v c,el = .agg #[.int .i64 i,v]∧(i,c)∈l∧Rp (b.mpm ρ) O W v c)→∀ el∈els,∃ i v c,el = .agg #[.int .i64 i,v]∧(i,c)∈l' ∧ Rp (b.mpm ρ) O W v c)) :
  iy P bd o e H nx nx [i] [(i,some { b with els:=els })] (.tuple #[]):=by
 intro ρ O a W K Q hl he hr _ _ _ _ hK
 have hmm:=he m hmo
 rw [hm] at hmm
 obtain ⟨g,g1,hmc⟩:=je.1 hmm
 have hh:=hr i (by simp)
 rw [hb] at hh
 obtain ⟨g',g2,hO,hB⟩:=hh
 have hk0:b.k=0:=by simp [Blk.isMap] at hmap;exact hmap.1
 rw [g1,hk0] at g2
 cases g2
 obtain ⟨l,⟨h1,hnd⟩,h2,h3⟩:=(af hmap).1 hB
 obtain ⟨es,ck,l',r,k1,k2,k3,k4,k5,⟨es0,ck0,k6⟩,k7,k8⟩:=hrun ρ O W a.eval g l he hmc h1 hnd
 have hst:Still O W O { W with heap:=W.heap.setIfInBounds g (.map es ck) }:=⟨by simp,fun g' _ hO' => ⟨hO',k5 g' (fun e=>hO' (e ▸ hO))⟩,Yl k6 k5⟩
 have fin:∀ c,c = .tuple #[]→K (a.put o.dst c) { W with heap:=W.heap.setIfInBounds g (.map es ck) }:=fun c hc=>by
  refine hK c ρ O _ (G8.2 ⟨#[],hc,rfl,fun i x hx=>by simp at hx⟩) (fun p hp=>?_) ⟨Sub.refl _,fun _ _ h=>.inl h,hst,fun g' h=>by have:=hl g' h;simpa using this,fun _ h _=>h,⟨rfl,rfl,rfl⟩,fun g' hg' hne=>k5 g' (fun e=>hne i (by simp) 0 (e ▸ g1))⟩
  simp only [List.mem_singleton] at hp
  subst hp
  refine ⟨g,by rw [g1];simp [hk0],hO,(af (b:={ b with els:=els }) hmap).2 ⟨l',⟨k3,k4⟩,k7 h2,fun el hel=>?_⟩⟩
  obtain ⟨i',v,c,e1,e2,e3⟩:=k8 h3 el hel
  exact ⟨i',v,c,e1,e2,e3.mono hst (Sub.refl _)⟩
 unfold Oper.wp
 rw [k1]
 rcases k2 with rfl | rfl
 ·exact fin _ rfl
 ·exact fin _ rfl
theorem xk {bd:Nat} {o:Oper} {t:TypeId} {m k x:Operand} {e:Operand→Value} {H:Nat→Option Blk} {nx nx' : Nat} {orc orc' : List Value} {v:Value} {rd:List Nat} {wr:List (Nat×Option Blk)} {ob:List Prop} (ho:o.op = .mapUpdate t m k x∨o.op = .insert t m k x)
  (h:vL P t (e m) (e k) (e x) H nx orc=some (v,rd,wr,nx',orc',ob)) (hob:J3 ob):iy P bd o e H nx nx' rd wr v:=by
 unfold vL at h
 split at h
 ·next et him =>
  split at h
  ·next i hm =>
   split at h
   ·next key hk =>
    split at h
    ·next b hb =>
     have hops:m∈o.op.operands∧k∈o.op.operands∧x∈o.op.operands:=by rcases ho with ho | ho <;> simp [ho,Op.operands]
     obtain ⟨kt,hu,hd⟩:=sN him
     have go:∀ {els:List Value},b.isMap=true→(b.n=0∨dW (e x)=true)→els=zl key (e x) b.els→iy P bd o e H nx nx [i] [(i,some { b with els:=els })] (.tuple #[]):=fun {els} hmap hcl hels=>by
      refine DR hops.1 hm hb hmap fun ρ O W f g l he hmc h1 hnd=>?_
      have hkk:=he k hops.2.1
      have hxx:=he x hops.2.2
      rw [hk,p8] at hkk
      obtain ⟨es,ck,l',k1,k2,k3,k4,k5,k6⟩:=Mg (P:=P) hu hd h1 hnd key (f x)
      refine ⟨es,ck,l',.skip,by rcases ho with ho | ho <;> simp [execOp,ho,hmc,hkk,k1],.inl rfl,k2,k3,k5,k6,fun h2 d hd' => ?_,fun h3 el hel=>?_⟩
      ·subst hels
       rcases (k4 d).1 hd' with ⟨e1,e2⟩ | rfl
       ·obtain ⟨v,hv⟩:=h2 d e1
        exact ⟨v,List.mem_append_left _ (List.mem_filter.2 ⟨hv,iN.2 e2⟩)⟩
       ·exact ⟨e x,List.mem_append_right _ (by simp)⟩
      ·subst hels
       rcases List.mem_append.1 hel with hel | hel
       ·obtain ⟨e1,e2⟩:=List.mem_filter.1 hel
        obtain ⟨j,u,c,rfl,h5,h6⟩:=h3 el e1
        exact ⟨j,u,c,rfl,(k4 _).2 (.inl ⟨h5,iN.1 e2⟩),h6⟩
       ·simp only [List.mem_singleton] at hel
        subst hel
        refine ⟨key,e x,f x,rfl,(k4 _).2 (.inr rfl),?_⟩
        unfold Blk.mpm
        split
        ·exact hxx
        ·next hn=>exact aJ hxx (hcl.resolve_left (by omega))
     split at h
     ·split at h
      ·next hc =>
       cases h
       simp only [Bool.and_eq_true] at hc
       exact go hc.1.2 (.inr hc.2) hob.1
      ·cases h
     ·split at h
      ·next hc =>
       cases h
       simp only [Bool.and_eq_true,Bool.or_eq_true,beq_iff_eq] at hc
       exact go hc.1.1.2 hc.1.2 (Cz hc.2)
      ·cases h
    ·cases h
   ·cases h
  ·cases h
 ·cases h
theorem Td {bd:Nat} {o:Oper} {args:Array Operand} {ats:Array TypeId} {m k:Operand} {e:Operand→Value} {H:Nat→Option Blk} {nx nx' : Nat} {orc orc' : List Value} {v:Value} {rd:List Nat} {wr:List (Nat×Option Blk)} {ob:List Prop} (ho:o.op = .call { callee:=.builtin .delete,args:=args,argTypes:=ats }) (ha:args.toList=[m,k])
  (h:Tp P ats.toList (e m) (e k) H nx orc=some (v,rd,wr,nx',orc',ob)) (hob:J3 ob):iy P bd o e H nx nx' rd wr v:=by
 unfold Tp at h
 split at h
 ·next t t' hats =>
  split at h
  ·next et him =>
   split at h
   ·next i hm =>
    split at h
    ·next key hk =>
     split at h
     ·next b hb =>
      split at h
      ·split at h
       ·next hc =>
        cases h
        simp only [Bool.and_eq_true] at hc
        have hels:=hob.1
        obtain ⟨kt,hu,hd⟩:=sN him
        have e1:args=#[m,k]:=by rw [← ha]
        have e2:ats=#[t,t']:=by rw [← hats]
        subst e1 e2
        have hops:m∈o.op.operands∧k∈o.op.operands:=by simp [ho,Op.operands,Call.operands]
        refine DR hops.1 hm hb hc.2 fun ρ O W f g l he hmc h1 hnd=>?_
        have hkk:=he k hops.2
        rw [hk,p8] at hkk
        obtain ⟨es,ck,l',k1,k2,k3,k4,k5,k6⟩:=Ph (P:=P) hu hd h1 hnd key o.type t'
        refine ⟨es,ck,l',.value (.tuple #[]),by simp [execOp,ho,resolve,invoke,builtin,hmc,hkk,k1,Result.andThen],.inr rfl,k2,k3,k5,k6,fun h2 d hd' => ?_,fun h3 el hel=>?_⟩
        ·rw [hels]
         obtain ⟨e1,e2⟩:=(k4 d).1 hd'
         obtain ⟨v,hv⟩:=h2 d e1
         exact ⟨v,List.mem_filter.2 ⟨hv,iN.2 e2⟩⟩
        ·rw [hels] at hel
         obtain ⟨e1,e2⟩:=List.mem_filter.1 hel
         obtain ⟨j,u,c,rfl,h5,h6⟩:=h3 el e1
         exact ⟨j,u,c,rfl,(k4 _).2 ⟨h5,iN.1 e2⟩,h6⟩
       ·cases h
      ·cases h
     ·cases h
    ·cases h
   ·cases h
  ·cases h
 ·cases h
theorem Ea {t:TypeId} {m k:Operand} {ok:Bool} {e:Operand→Value} {H:Nat→Option Blk} {orc orc' : List Value} {v:Value} {rd:List Nat} {ob:List Prop} (h:xW P t (e m) (e k) ok H orc=some (v,rd,orc',ob)) (hob:J3 ob):OpVal P (.lookup t m k ok) e H rd v:=by
 unfold xW at h
 split at h
 ·next et him =>
  split at h
  ·next i hm =>
   split at h
   ·next key hk =>
    split at h
    ·next b hb =>
     split at h
     ·next hmap =>
      obtain ⟨kt,hu,hd⟩:=sN him
      intro ρ O W o f ho he hH
      have hmm:=he m (by simp [Op.operands])
      have hkk:=he k (by simp [Op.operands])
      rw [hm] at hmm
      rw [hk,p8] at hkk
      obtain ⟨g,g1,hmc⟩:=je.1 hmm
      have get:i∈rd→∃ l,(IMap W g l∧(l.map (·.1)).Nodup)∧(∀ d∈l,∃ v,Value.agg #[.int .i64 d.1,v]∈b.els)∧∀ el∈b.els,∃ i v c,el = .agg #[.int .i64 i,v]∧(i,c)∈l∧Rp (b.mpm ρ) O W v c:=fun hi=>by
       have hh:=hH i hi
       rw [hb] at hh
       obtain ⟨g',g2,hO,hB⟩:=hh
       have hk0:b.k=0:=by simp [Blk.isMap] at hmap;exact hmap.1
       rw [g1,hk0] at g2
       cases g2
       exact (af hmap).1 hB
      have yes:∀ {u:Value},i∈rd→jq key b.els=some (some u)→v=(if ok then .tuple #[u,vD true] else u)→∃ c,(execOp f o).run P W = .ok (.value c) W∧Rp ρ O W v c:=fun {u} hi hfe hv=>by
       subst hv
       obtain ⟨l,⟨h1,hnd⟩,h2,h3⟩:=get hi
       obtain ⟨n,hn⟩:=(yR hfe).1 u rfl
       obtain ⟨j,u',c,h4,h50,h60⟩:=h3 _ (List.mem_of_getElem? hn)
       have h6:=h60.mono (Still.refl _ _) (VG b ρ)
       obtain ⟨rfl,rfl⟩:=Vd h4
       obtain ⟨m,h5⟩:=List.getElem?_of_mem h50
       have hrun:=QQ (P:=P) hu hd h1 hnd h5 ok
       refine ⟨if ok then .tuple #[c,.bool true] else c,by simp [execOp,ho,hmc,hkk,hrun],?_⟩
       cases ok
       ·exact h6
       ·refine G8.2 ⟨_,rfl,rfl,fun q x hx=>?_⟩
        match q,hx with
        | 0,hx=>simp at hx;subst hx;exact ⟨_,rfl,h6⟩
        | 1,hx=>simp at hx;subst hx;exact ⟨_,rfl,rG.2 rfl⟩
        | q+2,hx=>simp at hx
      have no:∀ {it:TypeInfo} {z:Value},P.info? et=some it→it.zero=some z→i∈rd→jq key b.els=some none→v=(if ok then .tuple #[wT z,vD false] else wT z)→∃ c,(execOp f o).run P W = .ok (.value c) W∧Rp ρ O W v c:=fun {it z} hit hz hi hfe hv=>by
       subst hv
       obtain ⟨l,⟨h1,hnd⟩,h2,h3⟩:=get hi
       have hno:∀ d∈l,d.1≠key:=fun d hd' => by
        obtain ⟨v,hv⟩:=h2 d hd'
        obtain ⟨n,hn⟩:=List.getElem?_of_mem hv
        exact (yR hfe).2 rfl n _ v hn
       have hrun:=MC (P:=P) hu hd h1 hit hz hno ok
       refine ⟨if ok then .tuple #[z,.bool false] else z,by simp [execOp,ho,hmc,hkk,hrun],?_⟩
       cases ok
       ·exact qX z
       ·refine G8.2 ⟨_,rfl,rfl,fun q x hx=>?_⟩
        match q,hx with
        | 0,hx=>simp at hx;subst hx;exact ⟨_,rfl,qX z⟩
        | 1,hx=>simp at hx;subst hx;exact ⟨_,rfl,rG.2 rfl⟩
        | q+2,hx=>simp at hx
      split at h
      ·cases h;exact yes (by simp) hob.1 rfl
      ·split at h
       ·next it hit =>
        split at h
        ·next z hz=>cases h;exact no hit hz (by simp) hob.1 rfl
        ·cases h
       ·cases h
      ·split at h
       ·next hfe=>cases h;exact yes (by simp) hfe rfl
       ·next hfe =>
        split at h
        ·next it hit =>
         split at h
         ·next z hz=>cases h;exact no hit hz (by simp) hfe rfl
         ·cases h
        ·cases h
       ·cases h
     ·cases h
    ·cases h
   ·cases h
  ·cases h
 ·cases h
end
end
section
open Go.RowKit
def uD (k:Nat) (els:List Value):Prop:=∀ el∈els,el.cells.size=k∧el.cells.toList.all lD=true
def vo (L:Nat) (els:List Value) (n:Nat) (xs:List Value) (m:Nat) (ys:List Value):Prop:=L=n+m∧els=xs++ys∧n+m≤1048576
def Eo (L:Nat) (els:List Value) (n:Nat) (xs:List Value) (a b:Int):Prop:=0≤a∧a≤b∧b≤n∧(L:Int)=b - a∧els=(xs.drop a.toNat).take L
def Vb (H:Nat→Option Blk) (k:Nat):Value→Option (List Value×Nat×List Nat×List Prop)
 | .iface 1000000 (.func (.yield m) els _)=>some (els.toList,m,[],[uD k els.toList])
 | .slice (some ⟨j,0,some 0⟩) m _=>match H j with
  | some b=>if b.arr&&b.k==k then some (b.els,m,[j],[m=b.els.length,uD k b.els]) else none
  | none=>none
 | .slice none 0 0=>some ([],0,[],[])
 | _=>none
def wL (P:Program) (ats:List TypeId) (s x:Value) (H:Nat→Option Blk) (nx:Nat) (orc:List Value):EeR :=
 match ats with
 | [t,t']=>match P.underlying t with
  | some (.slice e)=>match P.info? e with
   | some i=>match i.zero with
    | some z=>if t==t' && decide (0<i.size)&&decide (z.cells.size=i.size)&&Nat.ble i.bytes 4096 then
     match Vb H i.size x with
     | some (ys,m,rd,ob)=>match s with
      | .slice none 0 0=>match orc with
       | .iface 1000000 (.func (.yield L) els _)::orc' => some (.slice (some ⟨nx,0,some 0⟩) L 0,rd,[(nx,some ⟨true,true,i.size,L,els.toList⟩)],nx+1,orc',ob++[0<m∧vo L els.toList 0 [] m ys])
       | .slice none 0 0::orc' => some (.slice none 0 0,rd,[],nx,orc',ob++[m=0])
       | _=>none
      | .slice (some ⟨i0,0,some 0⟩) n _=>match H i0 with
       | some b=>if b.arr&&b.w&&b.k==i.size && !(rd.any fun j=>j==i0) then match orc with
        | .iface 1000000 (.func (.yield L) els _)::orc' => some (.slice (some ⟨nx,0,some 0⟩) L 0,i0::rd,[(nx,some ⟨true,true,i.size,L,els.toList⟩),(i0,none)],nx+1,orc',ob++[n=b.els.length,vo L els.toList n b.els m ys])
        | _=>none
        else none
       | none=>none
      | _=>none
     | none=>none
     else none
    | none=>none
   | none=>none
  | _=>none
 | _=>none
def rA (ar:Bool) (P:Program) (t:TypeId) (len:Nat) (parts:List (Nat×Value)) (nx:Nat) (orc:List Value):EeR :=
 match P.underlying t with
 | some (.slice e)=>match P.info? e with
  | some i=>match i.zero with
   | some z=>if decide (0<i.size)&&decide (z.cells.size=i.size)&&z.cells.toList.all zOk&&Nat.ble (len * i.size) 65536&&parts.all (fun p=>okV p.2) then
    match Instr.fill (fun j=>some (j * i.size,i.size)) ((Array.range (len * i.size)).map (z.cells[· % z.cells.size]!)) parts with
    | some cells=>if cells.toList.all lD&&(!ar||cells.toList.all dW)&&decide (cells.size=len * i.size) then
     some (.slice (some ⟨nx,0,some 0⟩) len 0,[],[(nx,some ⟨true,ar,i.size,len,(List.range len).map fun n=>vz i.size ((cells.toList.drop (n * i.size)).take i.size)⟩)],nx+1,orc,[]) else none
    | none=>none
    else none
   | none=>none
  | none=>none
 | _=>none
abbrev DN:=rA true
def WQ:Option Value→Option (Option Int)
 | none=>some none
 | some (.int _ n)=>some (some n)
 | some _=>none
def Ku (P:Program) (t:TypeId) (x:Value) (lo hi:Option Value) (orc:List Value):EvR :=
 match P.underlying t with
 | some (.slice e)=>match BO P e with
  | some sz=>match x with
   | .iface 1000000 (.func (.yield n) xs _)=>match WQ lo,WQ hi with
    | some a,some b=>match orc with
     | .iface 1000000 (.func (.yield L) els zs)::orc' => if zs.isEmpty then some (.iface 1000000 (.func (.yield L) els zs),[],orc',[Eo L els.toList n xs.toList (a.getD 0) (b.getD n),uD sz xs.toList]) else none
     | _=>none
    | _,_=>none
   | _=>none
  | none=>none
 | _=>none
def Lg (l c:Int) (L:Nat) (els:List Value) (z:Value):Prop:=l=L∧l≤c∧c≤1048576∧els=List.replicate L z
def IY (P:Program) (t:TypeId) (lv cv:Value) (nx:Nat) (orc:List Value):EeR :=
 match P.underlying t with
 | some (.slice e)=>match P.info? e with
  | some i=>match i.zero with
   | some z=>if decide (0<i.size)&&decide (z.cells.size=i.size)&&z.cells.toList.all zOk&&z.cells.toList.all lD&&z.cells.toList.all dW&&Nat.ble i.bytes 4096 then
    match lv,cv with
    | .int _ l,.int _ c=>match orc with
     | .iface 1000000 (.func (.yield L) els _)::orc' => some (.slice (some ⟨nx,0,some 0⟩) L 0,[],[(nx,some ⟨true,true,i.size,L,els.toList⟩)],nx+1,orc',[Lg l c L els.toList (vz i.size z.cells.toList)])
     | _=>none
    | _,_=>none
    else none
   | none=>none
  | none=>none
 | _=>none
def Jr (P:Program) (ats:List TypeId) (d x:Value) (H:Nat→Option Blk) (nx:Nat) (orc:List Value):EeR :=
 match ats with
 | [t,_]=>match P.underlying t with
  | some (.slice e)=>match P.info? e with
   | some i=>if decide (0<i.size) then
    match Vb H i.size x with
    | some (ys,m,rd,ob)=>match d with
     | .slice (some ⟨i0,0,some 0⟩) n _=>match H i0 with
      | some b=>if b.arr&&b.w&&b.k==i.size && !(rd.any fun j=>j==i0) then some (.int .i64 m,i0::rd,[(i0,some { b with n:=m,els:=ys })],nx,orc,ob++[m=n∧n=b.els.length]) else none
      | none=>none
     | _=>none
    | none=>none
    else none
   | none=>none
  | _=>none
 | _=>none
def Il (P:Program) (op:Op) (e:Operand→Value) (H:Nat→Option Blk) (nx:Nat) (orc:List Value):EeR :=
 match op with
 | .call { callee:=.builtin .append,args,argTypes }=>match args.toList with
  | [s,x]=>wL P argTypes.toList (e s) (e x) H nx orc
  | _=>none
 | .call { callee:=.builtin .copy,args,argTypes }=>match args.toList with
  | [d,x]=>Jr P argTypes.toList (e d) (e x) H nx orc
  | _=>none
 | .call { callee:=.builtin .delete,args,argTypes }=>match args.toList with
  | [d,x]=>Tp P argTypes.toList (e d) (e x) H nx orc
  | _=>none
 | .buildSlice t len parts=>DN P t len (parts.toList.map fun p=>(p.1,e p.2)) nx orc
 | .slice t x lo hi none=>(Ku P t (e x) (lo.map e) (hi.map e) orc).map fun r=>(r.1,r.2.1,[],nx,r.2.2.1,r.2.2.2)
 | .makeSlice t l c=>IY P t (e l) (e c) nx orc
 | .makeMap t none=>Ce P t nx orc
 | .mapUpdate t m k v=>vL P t (e m) (e k) (e v) H nx orc
 | .insert t m k v=>vL P t (e m) (e k) (e v) H nx orc
 | .lookup t m k ok=>(xW P t (e m) (e k) ok H orc).map fun r=>(r.1,r.2.1,[],nx,r.2.2.1,r.2.2.2)
 | op=>Pb P op e H nx orc
section
variable {P:Program} {ρ:A8} {O:Nat→Prop} {W:World}
structure News (O:Nat→Prop) (W:World) (k:Nat) (ys:List Value) (news:List Value):Prop where
 len:news.length=ys.length * k
 el:∀ (p:Nat) (el:Value),ys[p]? = some el→el.cells.size=k∧∀ (j:Nat) (x:Value),el.cells[j]? = some x→∃ u,news[p * k+j]? = some u∧Rp nowhere O W x u
 one:∀ u∈news,u.oneCell' = true
structure Olds (O:Nat→Prop) (W:World) (k:Nat) (ys:List Value) (olds:List Value):Prop where
 len:olds.length=ys.length * k
 el:∀ (p:Nat) (el:Value),ys[p]? = some el→el.cells.size=k∧∀ (j:Nat) (x:Value),el.cells[j]? = some x→∃ u,olds[p * k+j]? = some u∧Rp nowhere O W x u
theorem JU {g o k:Nat} {ys:List Value} (hk:0<k) (hall:uD k ys) (hc:∀ (n:Nat) (el:Value),ys[n]? = some el→CellsRep (Rp nowhere O W) W g (o+n * k) el.cells):∃ news,News O W k ys news∧∀ j u,news[j]? = some u→W.cell? ⟨g,o+j,none⟩=some u:=by
 have ex:∀ i,i<ys.length * k→∃ u,W.cell? ⟨g,o+i,none⟩=some u∧u.oneCell' = true∧∀ el x,ys[i / k]? = some el→el.cells[i % k]? = some x→Rp nowhere O W x u:=fun i hi=>by
  have hp:i / k<ys.length:=by rw [Nat.div_lt_iff_lt_mul hk];exact hi
  have hm:=Nat.mod_lt i hk
  obtain ⟨h1,h2⟩:=hall ys[i / k] (List.getElem_mem hp)
  have hj:i % k<ys[i / k].cells.size:=by rw [h1];exact hm
  obtain ⟨u,hu,hr⟩:=hc (i / k) ys[i / k] (List.getElem?_eq_getElem hp) (i % k) ys[i / k].cells[i % k] (by simp [hj])
  have he:o+i / k * k+i % k=o+i:=by have:=Nat.div_add_mod i k;rw [Nat.mul_comm] at this;omega
  rw [he] at hu
  refine ⟨u,hu,Lt hr (List.all_eq_true.1 h2 _ (by simp)),fun el x h3 h4=>?_⟩
  rw [List.getElem?_eq_getElem hp] at h3;cases h3
  rw [Array.getElem?_eq_getElem hj] at h4;cases h4
  exact hr
 refine ⟨(List.range (ys.length * k)).map fun i=>(W.cell? ⟨g,o+i,none⟩).getD undef,⟨by simp,fun p el hel=>⟨(hall el (List.mem_of_getElem? hel)).1,fun j x hx=>?_⟩,fun u hu=>?_⟩,fun j u hu=>?_⟩
 ·have hp:=(List.getElem?_eq_some_iff.1 hel).1
  have hj:j<k:=by rw [← (hall el (List.mem_of_getElem? hel)).1];exact (Array.getElem?_eq_some_iff.1 hx).1
  have hlt:p * k+j<ys.length * k:=by
   have:=Nat.mul_le_mul_right k (show p+1≤ys.length from hp)
   rw [Nat.add_mul] at this;omega
  obtain ⟨u,hu,-,hr⟩:=ex _ hlt
  have e1:(p * k+j) / k=p:=by rw [Nat.mul_comm,Nat.mul_add_div hk,Nat.div_eq_of_lt hj];simp
  have e2:(p * k+j) % k=j:=by rw [Nat.mul_comm,Nat.mul_add_mod,Nat.mod_eq_of_lt hj]
  exact ⟨u,by simp [hlt,hu],hr el x (by rw [e1];exact hel) (by rw [e2];exact hx)⟩
 ·obtain ⟨i,hi,rfl⟩:=List.mem_map.1 hu
  obtain ⟨u,hu,h1,-⟩:=ex i (by simpa using hi)
  rw [hu];exact h1
 ·have hj:j<ys.length * k:=by have:=(List.getElem?_eq_some_iff.1 hu).1;simpa using this
  obtain ⟨u',hu',-,-⟩:=ex j hj
  simp only [List.getElem?_map,List.getElem?_range hj,Option.map_some,Option.some.injEq,hu',Option.getD_some] at hu
  rw [hu',hu]
theorem pz {k m:Nat} {a:Addr} {cap:Nat} {news:List Value} (hl:news.length=m * k) (hc:∀ j u,news[j]? = some u→W.cell? (a.add j)=some u) {W1:World} (h1:W1.heap=W.heap):(Builtin.firstCells k m (.slice (some a) m cap)).run P W1 = .ok news.toArray W1 :=
 run_firstCells_some (P:=P) W1 k m a m cap news hl fun j u hu=>by rw [← hc j u hu];simp [World.cell?,h1]
theorem ll {k:Nat} (p:Option Addr) (cap:Nat) {W1:World}:(Builtin.firstCells k 0 (.slice p 0 cap)).run P W1 = .ok #[] W1:=by
 cases p with
 | none=>simp [Builtin.firstCells]
 | some a=>simpa using run_firstCells_some (P:=P) W1 k 0 a 0 cap [] (by simp) (by simp)
theorem News.nil {k:Nat}:News O W k [] []:=⟨by simp,fun p el h=>by simp at h,fun u h=>by simp at h⟩
theorem vV {H:Nat→Option Blk} {k:Nat} {x c:Value} {ys:List Value} {m:Nat} {rd:List Nat} {ob:List Prop} (hk:0<k) (h:Vb H k x=some (ys,m,rd,ob)) (hob:J3 ob) (hr:Rp ρ O W x c) (hH:∀ i∈rd,HAt ρ O W i (H i)) :
  m=ys.length∧(∃ p cap,c = .slice p m cap)∧∃ news,News O W k ys news∧∀ W1:World,W1.heap=W.heap→(Builtin.firstCells k m c).run P W1 = .ok news.toArray W1:=by
 unfold Vb at h
 split at h
 ·next m els zs =>
  cases h
  obtain ⟨p,cap,-,hn,hc,h1,h2,h3,h4⟩:=kH.1 hr
  refine ⟨by simpa using hn,⟨p,cap,hn ▸ hc⟩,?_⟩
  by_cases h0:els.size=0
  ·have he:els=#[]:=Array.eq_empty_of_size_eq_zero h0
   subst he
   subst hn hc
   exact ⟨[],News.nil,fun W1 _=>ll p cap⟩
  ·obtain ⟨g,o,k',rfl,-,-,hcell⟩:=h4 h0
   have hk' : k' = k:=by
    have h5:=(hcell 0 els[0] (by simp [show 0<els.size by omega])).1
    have h6:=(hob.1 els[0] (by simp)).1
    omega
   subst hk'
   obtain ⟨news,hN,hcc⟩:=JU (O:=O) (W:=W) (g:=g) (o:=o) hk hob.1 fun n el hel=>(hcell n el (by simpa using hel)).2
   subst hc
   refine ⟨news,hN,fun W1 h1=>?_⟩
   rw [← hn]
   exact pz (by have:=hN.len;simpa [hn] using this) (fun j u hu=>by rw [Addr.add_lit];simpa using hcc j u hu) h1
 ·next j m n =>
  split at h
  ·next b hb =>
   split at h
   ·next hbk =>
    cases h
    simp only [Bool.and_eq_true,beq_iff_eq] at hbk
    obtain ⟨hm,hall,-⟩:=hob
    have hh:=hH j (by simp)
    rw [hb] at hh
    obtain ⟨g',hg',-,hB⟩:=hh
    obtain ⟨g,k',cap,h1,-,hc⟩:=di.1 hr
    have h1' : ρ j=some (g,k'):=h1
    rw [h1'] at hg';cases hg'
    obtain ⟨news,hN,hcc⟩:=JU (O:=O) (W:=W) (g:=g') (o:=0) hk hall fun n el hel=>by
     have:=hB.cells0 hel hbk.1
     rw [hbk.2] at this
     simpa using this
    subst hc
    refine ⟨hm,⟨_,_,rfl⟩,news,hN,fun W1 h1=>pz (by rw [hN.len,hm]) (fun j u hu=>by rw [Addr.add_lit];simpa using hcc j u hu) h1⟩
   ·cases h
  ·cases h
 ·cases h
  obtain ⟨-,-,rfl⟩:=Y2.1 hr
  exact ⟨rfl,⟨none,0,rfl⟩,[],News.nil,fun W1 _=>ll none 0⟩
 ·cases h
theorem ow {olds news zs:List Value} {q:Nat}:(olds++news++zs)[q]? = if q<olds.length then olds[q]? else if q<olds.length+news.length then news[q - olds.length]? else zs[q - (olds.length+news.length)]? := by
 rw [List.append_assoc,List.getElem?_append]
 split
 ·rfl
 ·rw [List.getElem?_append]
  split
  ·rw [if_pos (by omega)]
  ·rw [if_neg (by omega)];congr 1;omega
theorem Bq {W' : World} {g k:Nat} {xs ys olds news zs els:List Value} {ty:TypeId} {L:Nat} {w:Bool} {O' : Nat→Prop} (hg:W'.heap[g]? = some (.cells (olds++news++zs).toArray ty (0,0))) (hs:Still O W O' W')
  (ho:Olds O W k xs olds) (hn:News O W k ys news) (he:els=xs++ys):BlkAt nowhere O' W' g ⟨w,true,k,L,els⟩:=by
 subst he
 refine (I4 (Z7 rfl)).2 ⟨_,ty,hg,by show (xs++ys).length * k≤(olds++news++zs).toArray.size;simp only [List.length_append,List.size_toArray,ho.len,hn.len,Nat.add_mul];omega,fun p el hel=>?_⟩
 simp only [List.getElem?_append] at hel
 have hpm:(⟨w,true,k,L,xs++ys⟩:Blk).pm nowhere=nowhere:=rfl
 rw [hpm]
 split at hel
 ·next hp =>
  obtain ⟨h1,h2⟩:=ho.el p el hel
  refine ⟨h1,fun j x hx=>?_⟩
  obtain ⟨u,hu,hr⟩:=h2 j x hx
  refine ⟨u,?_,hr.mono hs (Sub.refl _)⟩
  rw [List.getElem?_toArray,ow,if_pos (List.getElem?_eq_some_iff.1 hu).1]
  exact hu
 ·next hp =>
  obtain ⟨h1,h2⟩:=hn.el _ el hel
  refine ⟨h1,fun j x hx=>?_⟩
  obtain ⟨u,hu,hr⟩:=h2 j x hx
  refine ⟨u,?_,hr.mono hs (Sub.refl _)⟩
  have hlt:=(List.getElem?_eq_some_iff.1 hu).1
  have e:p * k=olds.length+(p - xs.length) * k:=by rw [ho.len,← Nat.add_mul];congr 1;omega
  show (olds++news++zs).toArray[p * k+j]? = some u
  rw [List.getElem?_toArray,ow,if_neg (by omega),if_pos (by omega)]
  rw [show p * k+j - olds.length=(p - xs.length) * k+j by omega]
  exact hu
theorem TG {t ty e ty0:TypeId} {i:TypeInfo} (ht:P.underlying t=some (.slice e)) (hi:P.info? e=some i) {g sLen sCap:Nat} {cur:Array Value} (hg:W.heap[g]? = some (.cells cur ty0 (0,0))) {p:Option Addr} {m cap:Nat} {news:List Value} (hl:news.length=m * i.size)
  (hf:(Builtin.firstCells i.size m (.slice p m cap)).run P W = .ok news.toArray W) (h1:∀ u∈news,u.oneCell' = true) (hroom:sLen+m≤sCap) (hfit:(sLen+m) * i.size≤cur.size) :
  (Builtin.append_ #[t,t] ty #[.slice (some ⟨g,0,none⟩) sLen sCap,.slice p m cap]).run P W =
   .ok (.slice (some ⟨g,0,none⟩) (sLen+m) sCap) (W.setRow g (cur.toList.take (sLen * i.size)++news++cur.toList.drop (sLen * i.size+news.length)).toArray):=by
 have hst:=run_storeCells_at P g (sLen * i.size) ty0 news 0 cur W hg (by rw [Nat.add_mul] at hfit;omega) h1
 simp only [Nat.add_zero] at hst
 simp [Builtin.append_,run_underlying ht,sizeOf,typeInfo,hi,Builtin.lenOf,hroom,hf,Addr.add_lit,hst]
theorem ED {t ty e:TypeId} {i:TypeInfo} {z:Value} (ht:P.underlying t=some (.slice e)) (hi:P.info? e=some i) (hz:i.zero=some z) {base:Option Addr} {sLen sCap:Nat} {olds:List Value}
  (hfo:(Builtin.firstCells i.size sLen (.slice base sLen sCap)).run P W.drew = .ok olds.toArray W.drew) {p:Option Addr} {m cap:Nat} {news:List Value}
  (hf:(Builtin.firstCells i.size m (.slice p m cap)).run P W.drew = .ok news.toArray W.drew) (hg:sCap<sLen+m) (hm:sLen+m≤1048576) (hb:i.bytes≤4096) :
  (Builtin.append_ #[t,t] ty #[.slice base sLen sCap,.slice p m cap]).run P W =
   .ok (.slice (some ⟨W.heap.size,0,none⟩) (sLen+m) (grownCap W (sLen+m) sCap e))
    (W.drew.alloc (.cells (olds++news++(Builtin.zeroCells z.cells (grownCap W (sLen+m) sCap e - (sLen+m))).toList).toArray e)):=by
 have hn:¬ (sLen+m≤sCap):=by omega
 have h63' : ¬ (9223372036854775807<((sLen:Int)+(m:Int))):=by omega
 have hfit:Builtin.nextslicecap (sLen+m) sCap * i.bytes≤281474976710656:=growslice_fits hg (Nat.le_trans (Nat.mul_le_mul hm hb) (by decide))
 have h48' : ¬ (281474976710656<Builtin.nextslicecap (sLen+m) sCap * i.bytes):=by omega
 simp [Builtin.append_,run_underlying ht,sizeOf,typeInfo,zeroValue,hi,hz,Builtin.lenOf,hn,h63',h48',Question.forced,hf,hfo,newRow,grownCap]
 try (congr 2;apply Array.ext';simp [List.append_assoc])
theorem nC {W1:World} (h1:W1.heap=W.heap) (arr:Array Value) (ty:TypeId):Still O W (fun x=>O x∨x=W.heap.size) (W1.alloc (.cells arr ty))∧(W1.alloc (.cells arr ty)).heap[W.heap.size]? = some (.cells arr ty (0,0)):=by
 have hsize:W1.heap.size=W.heap.size:=by rw [h1]
 have hst:=lI (O:=O) (W:=W1) (.cells arr ty)
 rw [hsize] at hst
 refine ⟨⟨by have:=hst.size;omega,fun g hg hO=>?_,fun g cur ty' hg=>hst.shp g cur ty' (by rw [h1];exact hg)⟩,by rw [← hsize];exact heap_alloc_new W1 _⟩
 have:=hst.pl g (by omega) hO
 exact ⟨this.1,this.2.trans (by rw [h1])⟩
theorem DT {W1:World} (h1:W1.heap=W.heap∧W1.tape=W.tape∧W1.os=W.os∧W1.output=W.output) (hl:Low O W) {nx:Nat} (hn:ρ nx=none) {arr:Array Value} {ty:TypeId} {L cap:Nat} {b:Blk} (hcap:L≤cap∧cap≤maxLen) (hsz:cap * b.k≤arr.size)
  (hB:BlkAt (fun i=>if i=nx then some (W.heap.size,b.k) else ρ i) (fun x=>O x∨x=W.heap.size) (W1.alloc (.cells arr ty)) W.heap.size b) (ws ks:List Nat) :
  Rp (fun i=>if i=nx then some (W.heap.size,b.k) else ρ i) (fun x=>O x∨x=W.heap.size) (W1.alloc (.cells arr ty)) (.slice (some ⟨nx,0,some 0⟩) L 0) (.slice (some ⟨W.heap.size,0,none⟩) L cap) ∧
   HAt (fun i=>if i=nx then some (W.heap.size,b.k) else ρ i) (fun x=>O x∨x=W.heap.size) (W1.alloc (.cells arr ty)) nx (some b) ∧
   Step ρ O W (fun i=>if i=nx then some (W.heap.size,b.k) else ρ i) (fun x=>O x∨x=W.heap.size) (W1.alloc (.cells arr ty)) ws ks nx (nx+1):=by
 have hsize:W1.heap.size=W.heap.size:=by rw [h1.1]
 have hst:=kE (ρ:=ρ) (O:=O) (W:=W1) (fun g hg=>by rw [hsize];exact hl g hg) (.cells arr ty) b.k nx hn ws ks
 rw [hsize] at hst
 obtain ⟨hs,hnew⟩:=nC (O:=O) h1.1 arr ty
 refine ⟨di.2 ⟨W.heap.size,b.k,cap,by simp,⟨hcap,arr,ty,hnew,by simpa using hsz⟩,by simp⟩,⟨W.heap.size,by simp,.inr rfl,hB⟩,hst.sub,fun i p h=>?_,hs,hst.low,hst.keepO,⟨hst.str.1.trans h1.2.1,hst.str.2.1.trans h1.2.2.1,hst.str.2.2.trans h1.2.2.2⟩,?_⟩
 ·rw [← hsize];exact hst.new i p h
 ·intro g hg hno;rw [← h1.1];exact hst.blk g (by omega) hno
theorem Kn {W1:World} (h1:W1.heap=W.heap∧W1.tape=W.tape∧W1.os=W.os∧W1.output=W.output) (hl:Low O W) {nx:Nat} (hn:ρ nx=none) {arr:Array Value} {ty:TypeId} {L cap k:Nat} {els:List Value} (hcap:L≤cap∧cap≤maxLen) (hsz:cap * k≤arr.size)
  (hB:BlkAt nowhere (fun x=>O x∨x=W.heap.size) (W1.alloc (.cells arr ty)) W.heap.size ⟨true,true,k,L,els⟩) (ws ks:List Nat) :
  Rp (fun i=>if i=nx then some (W.heap.size,k) else ρ i) (fun x=>O x∨x=W.heap.size) (W1.alloc (.cells arr ty)) (.slice (some ⟨nx,0,some 0⟩) L 0) (.slice (some ⟨W.heap.size,0,none⟩) L cap) ∧
   HAt (fun i=>if i=nx then some (W.heap.size,k) else ρ i) (fun x=>O x∨x=W.heap.size) (W1.alloc (.cells arr ty)) nx (some ⟨true,true,k,L,els⟩) ∧
   Step ρ O W (fun i=>if i=nx then some (W.heap.size,k) else ρ i) (fun x=>O x∨x=W.heap.size) (W1.alloc (.cells arr ty)) ws ks nx (nx+1) :=
 DT h1 hl hn hcap (b:=⟨true,true,k,L,els⟩) hsz (hB.mono (Still.refl _ _) (I8 _) rfl) ws ks
theorem vJ {o:Oper} {a:Operand→Value} {args:Array Operand} {ats:Array TypeId} {s x:Operand} {t:TypeId} (ho:o.op = .call { callee:=.builtin .append,args:=args,argTypes:=ats }) (ha:args.toList=[s,x]) (ht:ats.toList=[t,t]) {v:Value} {W' : World}
  (h:(Builtin.append_ #[t,t] o.type #[a s,a x]).run P W = .ok v W'):(execOp a o).run P W = .ok (.value v) W' := by
 have e1:args=#[s,x]:=by rw [← ha]
 have e2:ats=#[t,t]:=by rw [← ht]
 subst e1 e2
 simp [execOp,ho,resolve,invoke,builtin,h,Result.andThen]
theorem zb (cs:Array Value) (n:Nat):(Builtin.zeroCells cs n).size=n * cs.size:=by simp [Builtin.zeroCells]
theorem News.olds {k:Nat} {ys news:List Value} (h:News O W k ys news):Olds O W k ys news:=⟨h.len,h.el⟩
theorem KO {k L sCap:Nat} {z:Value} {e:TypeId} {xs ys els olds news:List Value} (hz:z.cells.size=k) (hl:Low O W) {nx:Nat} (hn:ρ nx=none) (ho:Olds O W k xs olds) (hN:News O W k ys news) (hL:L=xs.length+ys.length) (he:els=xs++ys) (hm:L≤1048576) (ws ks:List Nat) :
  Rp (fun i=>if i=nx then some (W.heap.size,k) else ρ i) (fun x=>O x∨x=W.heap.size) (W.drew.alloc (.cells (olds++news++(Builtin.zeroCells z.cells (grownCap W L sCap e - L)).toList).toArray e)) (.slice (some ⟨nx,0,some 0⟩) L 0) (.slice (some ⟨W.heap.size,0,none⟩) L (grownCap W L sCap e)) ∧
   HAt (fun i=>if i=nx then some (W.heap.size,k) else ρ i) (fun x=>O x∨x=W.heap.size) (W.drew.alloc (.cells (olds++news++(Builtin.zeroCells z.cells (grownCap W L sCap e - L)).toList).toArray e)) nx (some ⟨true,true,k,L,els⟩) ∧
   Step ρ O W (fun i=>if i=nx then some (W.heap.size,k) else ρ i) (fun x=>O x∨x=W.heap.size) (W.drew.alloc (.cells (olds++news++(Builtin.zeroCells z.cells (grownCap W L sCap e - L)).toList).toArray e)) ws ks nx (nx+1):=by
 have hge:=grownCap_ge W L sCap e
 have hml:=grownCap_le_maxLen W L sCap e (by simp only [maxLen];omega)
 obtain ⟨hs,hnew⟩:=nC (O:=O) (W:=W) (W1:=W.drew) rfl (olds++news++(Builtin.zeroCells z.cells (grownCap W L sCap e - L)).toList).toArray e
 refine Kn (W:=W) (W1:=W.drew) ⟨rfl,rfl,rfl,rfl⟩ hl hn ⟨hge,hml⟩ ?_ (Bq hnew hs ho hN he) ws ks
 have h1:=ho.len
 have h2:=hN.len
 have h3:(grownCap W L sCap e - L) * k+L * k=grownCap W L sCap e * k:=by rw [← Nat.add_mul];congr 1;omega
 have h4:L * k=xs.length * k+ys.length * k:=by rw [hL,Nat.add_mul]
 simp only [List.size_toArray,List.length_append,Array.length_toList,zb,hz]
 omega
theorem EU {bd:Nat} {o:Oper} {e:Operand→Value} {H:Nat→Option Blk} {nx nx' : Nat} {orc orc' : List Value} {v:Value} {rd:List Nat} {wr:List (Nat×Option Blk)} {ob:List Prop} {args:Array Operand} {ats:Array TypeId} {s x:Operand} (ho:o.op = .call { callee:=.builtin .append,args:=args,argTypes:=ats }) (ha:args.toList=[s,x])
  (h:wL P ats.toList (e s) (e x) H nx orc=some (v,rd,wr,nx',orc',ob)) (hob:J3 ob):iy P bd o e H nx nx' rd wr v:=by
 unfold wL at h
 split at h
 ·next t t' hats =>
  split at h
  ·next et hu =>
   split at h
   ·next it hi =>
    split at h
    ·next z hz =>
     split at h
     ·next hc =>
      simp only [Bool.and_eq_true,beq_iff_eq,decide_eq_true_eq,Nat.ble_eq] at hc
      obtain ⟨⟨⟨rfl,hk⟩,hzs⟩,hby⟩:=hc
      split at h
      ·next ys m rdx obx hx =>
       have hsx:s∈o.op.operands∧x∈o.op.operands:=by
        have e1:args=#[s,x]:=by rw [← ha]
        subst e1
        simp [ho,Op.operands,Call.operands]
       split at h
       ·next hs =>
        split at h
        ·next L els zs orc1 =>
         cases h
         obtain ⟨hob1,⟨h0,rfl,hels,hm⟩,-⟩:=o6.1 hob
         intro ρ O a W K Q hl he hr _ hf _ _ hK
         obtain ⟨hmy,⟨p,cap,hxc⟩,news,hN,hfc⟩:=vV (P:=P) hk hx hob1 (he x hsx.2) hr
         have hsc:=he s hsx.1
         rw [hs] at hsc
         obtain ⟨-,-,hsc⟩:=Y2.1 hsc
         have hrun:=ED (W:=W) (ty:=o.type) hu hi hz (base:=none) (sLen:=0) (sCap:=0) (olds:=[]) (by simpa using ll (P:=P) (k:=it.size) none 0) (p:=p) (cap:=cap) (hxc ▸ hfc W.drew rfl) (by omega) (by omega) hby
         have hrun' := vJ (a:=a.eval) ho ha hats (by rw [hsc,hxc];exact hrun)
         obtain ⟨g1,g2,g3⟩:=KO (ρ:=ρ) (O:=O) (W:=W) (k:=it.size) (L:=0+m) (sCap:=0) (e:=et) (xs:=[]) (olds:=[]) (els:=els.toList) hzs hl (hf nx (Nat.le_refl _) (by omega)) News.nil.olds hN (by simp [hmy]) hels hm [nx] []
         unfold Oper.wp
         rw [hrun']
         refine hK _ _ _ _ g1 (fun p hp=>?_) g3
         simp only [List.mem_singleton] at hp
         subst hp
         exact g2
        ·next orc1 =>
         cases h
         obtain ⟨hob1,rfl,-⟩:=o6.1 hob
         intro ρ O a W K Q hl he hr _ hf _ _ hK
         obtain ⟨hmy,⟨p,cap,hxc⟩,news,hN,hfc⟩:=vV (P:=P) hk hx hob1 (he x hsx.2) hr
         have hsc:=he s hsx.1
         rw [hs] at hsc
         obtain ⟨-,-,hsc⟩:=Y2.1 hsc
         have hrun:(Builtin.append_ #[t,t] o.type #[.slice none 0 0,.slice p 0 cap]).run P W = .ok (.slice none 0 0) W:=by
          simp [Builtin.append_,run_underlying hu,sizeOf,typeInfo,hi,Builtin.lenOf,ll]
         have hrun' := vJ (a:=a.eval) ho ha hats (by rw [hsc,hxc];exact hrun)
         unfold Oper.wp
         rw [hrun']
         exact hK _ ρ O W (Y2.2 ⟨rfl,rfl,rfl⟩) (fun p hp=>by cases hp) (Step.refl hl _ _ _)
        ·cases h
       ·next i0 n c0 hs =>
        split at h
        ·next b hb =>
         split at h
         ·next hc2 =>
          simp only [Bool.and_eq_true,beq_iff_eq,Bool.not_eq_true'] at hc2
          obtain ⟨⟨⟨hba,hbw⟩,hbk⟩,hni⟩:=hc2
          split at h
          ·next L els zs orc1 =>
           cases h
           obtain ⟨hob1,hnb,⟨rfl,hels,hm⟩,-⟩:=o6.1 hob
           intro ρ O a W K Q hl he hr _ hf _ hinj hK
           obtain ⟨hmy,⟨p,cap,hxc⟩,news,hN,hfc⟩:=vV (P:=P) hk hx hob1 (he x hsx.2) (fun i hi=>hr i (List.mem_cons_of_mem _ hi))
           have hsc:=he s hsx.1
           rw [hs] at hsc
           obtain ⟨g,k',sCap,g1,⟨g2,arr,ty,g3,g4⟩,hsc⟩:=di.1 hsc
           have g1' : ρ i0=some (g,k'):=g1
           have hh:=hr i0 (by simp)
           rw [hb] at hh
           obtain ⟨g',g5,hO,hB⟩:=hh
           rw [g1'] at g5;cases g5
           obtain ⟨arr',ty',g6,g7,g8⟩:=(I4 (Z7 hba)).1 hB
           rw [g3] at g6;cases g6
           simp only [Nat.zero_mul,Nat.zero_add] at g4 hsc
           have hpm:b.pm ρ=nowhere:=by unfold Blk.pm;rw [hba]
           rw [hpm] at g8
           rw [hbk] at g4 g7 g8
           -- the old cells,those that count
           have hOl:Olds O W it.size b.els (arr.toList.take (n * it.size)):=⟨by simp only [List.length_take,Array.length_toList,hnb];omega,fun q el hel=>⟨(g8 q el hel).1,fun j y hy=>?_⟩⟩
           ·have hnw:=hf nx (Nat.le_refl _) (by omega)
            by_cases hroom:n+m≤sCap
            ·have hfit:(n+m) * it.size≤arr.size:=Nat.le_trans (Nat.mul_le_mul_right _ hroom) g4
             have hlen:n * it.size+news.length≤arr.toList.length:=by rw [hN.len,← hmy,← Nat.add_mul];simpa using hfit
             have hrun:=TG (W:=W) (ty:=o.type) hu hi g3 (sLen:=n) (sCap:=sCap) (p:=p) (cap:=cap) (m:=m) (by rw [hN.len,hmy]) (hxc ▸ hfc W rfl) hN.one hroom hfit
             have hrun' := vJ (a:=a.eval) ho ha hats (by rw [hsc,hxc];exact hrun)
             have hsz:(arr.toList.take (n * it.size)++news++arr.toList.drop (n * it.size+news.length)).toArray.size=arr.size:=by
              simp only [Array.length_toList] at hlen
              simp;omega
             have hshp:=ko (W:=W) g3 hsz
             have hnewg:=setRow_heap W g arr (arr.toList.take (n * it.size)++news++arr.toList.drop (n * it.size+news.length)).toArray ty (0,0) g3
             have hst:Still O W O (W.setRow g (arr.toList.take (n * it.size)++news++arr.toList.drop (n * it.size+news.length)).toArray):=⟨by simp,fun g' hg' hO' => ⟨hO',setRow_other W g g' _ (fun e=>hO' (e ▸ hO))⟩,hshp⟩
             have hB' := Bq (W:=W) (w:=true) (L:=n+m) hnewg hst hOl hN hels
             unfold Oper.wp
             rw [hrun']
             refine hK _ (fun i=>if i=nx then some (g,it.size) else ρ i) O _ (di.2 ⟨g,it.size,sCap,by simp,⟨⟨hroom,g2.2⟩,_,ty,hnewg,by rw [hsz];simpa using g4⟩,by simp⟩) (fun p hp=>?_) ⟨fun i p h=>?_,fun i p h=>?_,hst,fun g' h=>by rw [size_setRow];exact hl g' h,fun _ h _=>h,⟨rfl,rfl,rfl⟩,fun g' hg' hne=>setRow_other W g g' _ (fun e=>hne i0 (by simp) b.k (e ▸ g1'))⟩
             ·simp only [List.mem_cons,List.not_mem_nil,or_false] at hp
              rcases hp with rfl | rfl
              ·exact ⟨g,by simp,hO,hB'.mono (Still.refl _ _) (I8 _) rfl⟩
              ·trivial
             ·by_cases e:i=nx
              ·subst e;rw [hnw] at h;cases h
              ·simp [e,h]
             ·by_cases e:i=nx
              ·subst e;simp at h;subst h;exact .inr ⟨Nat.le_refl _,by omega,.inr ⟨i0,by simp [kills],b.k,g1'⟩⟩
              ·simp [e] at h;exact .inl h
            ·have hrun:=ED (W:=W) (ty:=o.type) hu hi hz (base:=some ⟨g,0,none⟩) (sLen:=n) (sCap:=sCap) (olds:=arr.toList.take (n * it.size)) (pz (W:=W) (by rw [hOl.len,hnb]) (fun j u hju=>by rw [Addr.add_lit];simp only [World.cell?,Nat.zero_add,g3];rw [List.getElem?_take] at hju;split at hju;exact (by simpa using hju);cases hju) rfl) (p:=p) (cap:=cap) (m:=m) (hxc ▸ hfc W.drew rfl) (by omega) hm hby
             have hrun' := vJ (a:=a.eval) ho ha hats (by rw [hsc,hxc];exact hrun)
             obtain ⟨g1,g2,g3⟩:=KO (ρ:=ρ) (O:=O) (W:=W) (k:=it.size) (L:=n+m) (sCap:=sCap) (e:=et) hzs hl hnw hOl hN (by rw [hnb,hmy]) hels hm [nx,i0] [i0]
             unfold Oper.wp
             rw [hrun']
             refine hK _ _ _ _ g1 (fun p hp=>?_) g3
             simp only [List.mem_cons,List.not_mem_nil,or_false] at hp
             rcases hp with rfl | rfl
             ·exact g2
             ·trivial
           ·obtain ⟨u,hu',hr'⟩:=(g8 q el hel).2 j y hy
            refine ⟨u,?_,hr'⟩
            have hq:=(List.getElem?_eq_some_iff.1 hel).1
            have hj:j<it.size:=by rw [← (g8 q el hel).1];exact (Array.getElem?_eq_some_iff.1 hy).1
            have:=Nat.mul_le_mul_right it.size (show q+1≤b.els.length from hq)
            rw [Nat.add_mul] at this
            rw [List.getElem?_take,if_pos (by rw [hnb];omega)]
            simpa using hu'
          ·cases h
         ·cases h
        ·cases h
       ·cases h
      ·cases h
     ·cases h
    ·cases h
   ·cases h
  ·cases h
 ·cases h
theorem ny {ar:Bool} {bd:Nat} {o:Oper} {e:Operand→Value} {H:Nat→Option Blk} {nx nx' : Nat} {orc orc' : List Value} {v:Value} {rd:List Nat} {wr:List (Nat×Option Blk)} {ob:List Prop} {t:TypeId} {len:Nat} {parts:Array (Nat×Operand)} (ho:o.op = .buildSlice t len parts)
  (h:rA ar P t len (parts.toList.map fun p=>(p.1,e p.2)) nx orc=some (v,rd,wr,nx',orc',ob)):iy P bd o e H nx nx' rd wr v:=by
 unfold rA at h
 split at h
 ·next et hu =>
  split at h
  ·next it hi =>
   split at h
   ·next z hz =>
    split at h
    ·next hc =>
     simp only [Bool.and_eq_true,decide_eq_true_eq,Nat.ble_eq] at hc
     obtain ⟨⟨⟨⟨hk,hzs⟩,hzo⟩,hlen⟩,hpo⟩:=hc
     split at h
     ·next cells hfill =>
      split at h
      ·next hc2 =>
       simp only [Bool.and_eq_true,decide_eq_true_eq] at hc2
       obtain ⟨⟨hlf,hcl⟩,hcs⟩:=hc2
       cases h
       intro ρ O a W K Q hl he hr _ hf _ _ hK
       have hzz:AtAll (Rp ρ O W) ((Array.range (len * it.size)).map (z.cells[· % z.cells.size]!)) ((Array.range (len * it.size)).map (z.cells[· % z.cells.size]!)):=⟨rfl,fun i x hx=>⟨x,hx,Jj (by
        obtain ⟨j,hj,rfl⟩:=Array.getElem?_eq_some_iff.1 hx
        have hm:i % z.cells.size<z.cells.size:=Nat.mod_lt _ (by omega)
        simp only [Array.getElem_map,Array.getElem_range]
        rw [getElem!_pos z.cells _ hm]
        exact List.all_eq_true.1 hzo _ (by simp))⟩⟩
       have hps:∀ (i:Nat) (p q:Nat×Value),(parts.toList.map fun p=>(p.1,e p.2))[i]? = some p→(parts.toList.map fun p=>(p.1,a.eval p.2))[i]? = some q→p.1=q.1∧AtAll (Rp ρ O W) p.2.cells q.2.cells:=fun i p q hp hq=>by
        have hm:=List.mem_of_getElem? hp
        simp only [List.getElem?_map] at hp hq
        obtain ⟨r,hr,rfl⟩:=Option.map_eq_some_iff.1 hp
        rw [hr] at hq;cases hq
        refine ⟨rfl,mZ (he r.2 ?_) (List.all_eq_true.1 hpo _ hm)⟩
        simp only [ho,Op.operands,List.mem_toArray,List.mem_map]
        exact ⟨r,List.mem_of_getElem? hr,rfl⟩
       obtain ⟨us,hus,hR⟩:=qP (fun j=>some (j * it.size,it.size)) _ _ (by simp) hps hzz hfill
       have hrun:(execOp a.eval o).run P W = .ok (.value (.slice (some ⟨W.heap.size,0,none⟩) len len)) (W.alloc (.cells us et)):=by
        have h24:¬ (16777216<len * it.size):=by omega
        by_cases h0:len * it.size=0
        ·have er:∀ f:Nat→Value,(Array.range 0).map f=#[]:=fun f=>Array.eq_empty_of_size_eq_zero (by simp)
         simp only [h0,er] at hus
         simp [execOp,ho,Instr.buildSlice,run_underlying hu,sizeOf,typeInfo,zeroValue,hi,hz,h24,h0,er,hus,newRow]
        ·simp [execOp,ho,Instr.buildSlice,run_underlying hu,sizeOf,typeInfo,zeroValue,hi,hz,h24,h0,hus,newRow]
       obtain ⟨hs,hnew⟩:=nC (O:=O) (W:=W) (W1:=W) rfl us et
       have hsz:us.size=len * it.size:=by rw [hR.1,hcs]
       have hst:=kE (ρ:=ρ) (O:=O) (W:=W) hl (.cells us et) it.size nx (hf nx (Nat.le_refl _) (by omega)) [] []
       obtain ⟨b,hbe⟩:∃ b:Blk,b=⟨true,ar,it.size,len,(List.range len).map fun n=>vz it.size ((cells.toList.drop (n * it.size)).take it.size)⟩:=⟨_,rfl⟩
       have hbk:b.k=it.size:=by rw [hbe]
       have hB:BlkAt (fun i=>if i=nx then some (W.heap.size,b.k) else ρ i) (fun x=>O x∨x=W.heap.size) (W.alloc (.cells us et)) W.heap.size b:=by
        refine (I4 (rM (by rw [hbk];omega))).2 ⟨us,et,hnew,by rw [hbk,hbe];simp [hsz],fun n el hel=>?_⟩
        rw [hbe] at hel
        simp only [List.getElem?_map] at hel
        obtain ⟨n',hn',rfl⟩:=Option.map_eq_some_iff.1 hel
        have hnl:n<len:=by have:=(List.getElem?_eq_some_iff.1 hn').1;simpa using this
        rw [List.getElem?_range hnl] at hn'
        cases hn'
        have hle:=Nat.mul_le_mul_right it.size (show n+1≤len from hnl)
        rw [Nat.add_mul] at hle
        have hl1:((cells.toList.drop (n * it.size)).take it.size).length=it.size:=by simp;omega
        rw [jY hl1 (fun _=>List.all_eq_true.2 fun x hx=>List.all_eq_true.1 hlf x (List.drop_subset _ _ (List.take_subset _ _ hx))),hbk]
        refine ⟨by simpa using hl1,fun j x hx=>?_⟩
        rw [List.getElem?_toArray,List.getElem?_take] at hx
        split at hx
        ·next hj =>
         rw [List.getElem?_drop] at hx
         obtain ⟨u,hu',hr'⟩:=hR.2 (n * it.size+j) x (by simpa using hx)
         refine ⟨u,hu',?_⟩
         rw [hbe]
         cases ar with
         | true=>exact (aJ hr' (List.all_eq_true.1 (by simpa using hcl) x (List.mem_of_getElem? hx))).mono hs (Sub.refl _)
         | false=>exact hr'.mono hs hst.sub
        ·cases hx
       rw [← hbe] at hK
       obtain ⟨g1,g2,g3⟩:=DT (W:=W) (W1:=W) ⟨rfl,rfl,rfl,rfl⟩ hl (hf nx (Nat.le_refl _) (by omega)) (cap:=len) ⟨Nat.le_refl _,by have:=Nat.le_mul_of_pos_right len hk;simp only [maxLen];omega⟩ (by rw [hbk,hsz];exact Nat.le_refl _) hB [nx] []
       unfold Oper.wp
       rw [hrun]
       refine hK _ _ _ _ g1 (fun p hp=>?_) g3
       simp only [List.mem_singleton] at hp
       subst hp
       exact g2
      ·cases h
     ·cases h
    ·cases h
   ·cases h
  ·cases h
 ·cases h
theorem JP {v:Option Value} {a:Option Int} (h:WQ v=some a) {f:Option Value} (hf:∀ x,v=some x→∃ y,f=some y∧Rp ρ O W x y) (hn:v=none→f=none):(a=none∧f=none)∨∃ k n,a=some n∧f=some (.int k n):=by
 unfold WQ at h
 split at h
 ·cases h;exact .inl ⟨rfl,hn rfl⟩
 ·next k n =>
  cases h
  obtain ⟨y,rfl,hy⟩:=hf _ rfl
  rw [p8.1 hy]
  exact .inr ⟨_,_,rfl,rfl⟩
 ·cases h
theorem vH {k:IntKind} {n:Int} {y:Nat} {code:BoundsCode} (h0:0≤n) (h1:n≤(y:Int)):(Instr.sliceBound (.int k n) y code).run P W = .ok n.toNat W:=by simp [Instr.sliceBound,asIntOf,h0,h1,go_sem]
theorem Pw {len cap:Nat} {lo hi:Option Value} {a b:Option Int} (hlo:(a=none∧lo=none)∨∃ k n,a=some n∧lo=some (.int k n)) (hhi:(b=none∧hi=none)∨∃ k n,b=some n∧hi=some (.int k n)) (h0:0≤a.getD 0) (h1:a.getD 0≤b.getD len) (h2:b.getD len≤len) (hc:len≤cap) :
  (Instr.sliceBounds true len cap lo hi none).run P W = .ok ((a.getD 0).toNat,(b.getD len).toNat,cap) W:=by
 rcases hlo with ⟨rfl,rfl⟩ | ⟨k,n,rfl,rfl⟩ <;> rcases hhi with ⟨rfl,rfl⟩ | ⟨k',n',rfl,rfl⟩ <;> simp only [Option.getD_none,Option.getD_some] at h0 h1 h2 ⊢
 ·simp [Instr.sliceBounds]
 ·simp [Instr.sliceBounds,vH (P:=P) (W:=W) (k:=k') (y:=cap) (code:=.sliceAcap) (show 0≤n' by omega) (by omega)]
 ·simp [Instr.sliceBounds,vH (P:=P) (W:=W) (k:=k) (y:=len) (code:=.sliceB) h0 h1]
 ·simp [Instr.sliceBounds,vH (P:=P) (W:=W) (k:=k') (y:=cap) (code:=.sliceAcap) (show 0≤n' by omega) (by omega),vH (P:=P) (W:=W) (k:=k) (y:=n'.toNat) (code:=.sliceB) h0 (by omega)]
theorem FB {t:TypeId} {x:Operand} {lo hi:Option Operand} {e:Operand→Value} {H:Nat→Option Blk} {orc orc' : List Value} {v:Value} {rd:List Nat} {ob:List Prop} (h:Ku P t (e x) (lo.map e) (hi.map e) orc=some (v,rd,orc',ob)) (hob:J3 ob):OpVal P (.slice t x lo hi none) e H rd v:=by
 unfold Ku at h
 split at h
 ·next et hu =>
  split at h
  ·next sz hsz =>
   split at h
   ·next n xs zs0 hx =>
    split at h
    ·next a b ha hb =>
     split at h
     ·next L els zs orc1 =>
      split at h
      ·next hzs =>
       cases h
       have hz:zs=#[]:=by simpa using hzs
       subst hz
       obtain ⟨⟨h0,h1,h2,hL,hels⟩,hall,-⟩:=hob
       intro ρ O W o f ho he _
       have hxx:=he x (by simp [Op.operands])
       rw [hx] at hxx
       obtain ⟨p,cap,rfl,hn,hc,h3,h4,h5,h6⟩:=kH.1 hxx
       have ea:=JP (ρ:=ρ) (O:=O) (W:=W) ha (f:=lo.map f) (fun z hz=>by
        obtain ⟨w,rfl,rfl⟩:=Option.map_eq_some_iff.1 hz
        exact ⟨f w,rfl,he w (by simp [Op.operands])⟩) (fun hz=>by cases lo <;> simp at hz ⊢)
       have eb:=JP (ρ:=ρ) (O:=O) (W:=W) hb (f:=hi.map f) (fun z hz=>by
        obtain ⟨w,rfl,rfl⟩:=Option.map_eq_some_iff.1 hz
        exact ⟨f w,rfl,he w (by simp [Op.operands])⟩) (fun hz=>by cases hi <;> simp at hz ⊢)
       have hrun:=Pw (P:=P) (W:=W) ea eb h0 h1 h2 (hn ▸ h3)
       have hel:els.size=L:=by
        have:els.toList.length=L:=by rw [hels];simp;omega
        simpa using this
       refine ⟨.slice (if cap=(a.getD 0).toNat then p else p.map (·.add ((a.getD 0).toNat * sz))) L (cap - (a.getD 0).toNat),?_,kH.2 ⟨_,cap - (a.getD 0).toNat,rfl,hel.symm,by rw [hel],by omega,by omega,fun hp=>?_,fun h0' => ?_⟩⟩
       ·have hLn:(b.getD n).toNat - (a.getD 0).toNat=L:=by omega
        rw [← hn] at hc
        simp [execOp,ho,Instr.sliceAt,Instr.slice,hc,run_underlying hu,hrun,mi hsz,hLn]
       ·split at hp
        ·have:=h5 hp;omega
        ·cases p with
         | none=>have:=h5 rfl;omega
         | some q=>simp at hp
       ·have hx0:xs.size≠0:=by omega
        obtain ⟨g,o1,k,hp,hg,hO,hcell⟩:=h6 hx0
        have hk:k=sz:=by
         have h7:=(hcell 0 xs[0] (by simp [show 0<xs.size by omega])).1
         have h8:=(hall xs[0] (by simp)).1
         omega
        subst hk
        refine ⟨g,o1+(a.getD 0).toNat * k,k,by rw [if_neg (by omega),hp];simp [Addr.add_lit],hg,hO,fun m el hm=>?_⟩
        have hm' : els.toList[m]? = some el:=by simpa using hm
        rw [hels,List.getElem?_take] at hm'
        split at hm'
        ·rw [List.getElem?_drop] at hm'
         obtain ⟨h7,h8⟩:=hcell _ el (by simpa using hm')
         refine ⟨h7,?_⟩
         rw [show o1+(a.getD 0).toNat * k+m * k=o1+((a.getD 0).toNat+m) * k by rw [Nat.add_mul];omega]
         exact h8
        ·cases hm'
      ·cases h
     ·cases h
    ·cases h
   ·cases h
  ·cases h
 ·cases h
theorem XK (cs:Array Value) (n:Nat) {i:Nat} (h:i<n) (hs:0<cs.size):(madeCells cs n)[i]? = cs[i % cs.size]? := by
 have:=Nat.mod_lt i hs
 simp [madeCells,h,this]
theorem NP {bd:Nat} {o:Oper} {e:Operand→Value} {H:Nat→Option Blk} {nx nx' : Nat} {orc orc' : List Value} {v:Value} {rd:List Nat} {wr:List (Nat×Option Blk)} {ob:List Prop} {t:TypeId} {x y:Operand} (ho:o.op = .makeSlice t x y)
  (h:IY P t (e x) (e y) nx orc=some (v,rd,wr,nx',orc',ob)) (hob:J3 ob):iy P bd o e H nx nx' rd wr v:=by
 unfold IY at h
 split at h
 ·next et hu =>
  split at h
  ·next it hi =>
   split at h
   ·next z hz =>
    split at h
    ·next hc =>
     simp only [Bool.and_eq_true,decide_eq_true_eq,Nat.ble_eq] at hc
     obtain ⟨⟨⟨⟨⟨hk,hzs⟩,hzo⟩,hlf⟩,hcl⟩,hby⟩:=hc
     split at h
     ·next kl l kc c hl hcv =>
      split at h
      ·next L els zs orc1 =>
       cases h
       obtain ⟨⟨rfl,hlc,hcm,hels⟩,-⟩:=hob
       intro ρ O a W K Q hlow he hr _ hf _ _ hK
       have hx:=he x (by simp [ho,Op.operands])
       have hy:=he y (by simp [ho,Op.operands])
       rw [hl,p8] at hx
       rw [hcv,p8] at hy
       obtain ⟨n,rfl⟩:∃ n:Nat,c=n:=⟨c.toNat,by omega⟩
       have hbn:(it.bytes:Int) * (n:Int)≤281474976710656:=by
        have h1:it.bytes * n≤4096 * 1048576:=Nat.mul_le_mul hby (by omega)
        have h2:((it.bytes * n:Nat):Int)≤281474976710656:=by omega
        rwa [Int.natCast_mul] at h2
       have hrun:=run_make (P:=P) W t et it z hu hi hz kl kc (L:Int) (n:Int) (by omega) hlc hbn (by omega)
       simp only [Int.toNat_natCast] at hrun
       have hrun' : (execOp a.eval o).run P W = .ok (.value (.slice (some ⟨W.heap.size,0,none⟩) L n)) (W.alloc (.cells (madeCells z.cells (n * it.size)) et)):=by
        simp [execOp,ho,hx,hy,hrun]
       obtain ⟨hs,hnew⟩:=nC (O:=O) (W:=W) (W1:=W) rfl (madeCells z.cells (n * it.size)) et
       have hsz:(madeCells z.cells (n * it.size)).size=n * it.size:=size_madeCells _ _
       have hLn:L≤n:=by omega
       have hB:BlkAt nowhere (fun x=>O x∨x=W.heap.size) (W.alloc (.cells (madeCells z.cells (n * it.size)) et)) W.heap.size ⟨true,true,it.size,L,els.toList⟩:=by
        refine (I4 (Z7 rfl)).2 ⟨_,et,hnew,by rw [hsz,hels];simp only [List.length_replicate];exact Nat.mul_le_mul_right _ hLn,fun p el hel=>?_⟩
        simp only [hels] at hel
        rw [List.getElem?_replicate] at hel
        split at hel
        ·next hp =>
         cases hel
         have hcells:=jY (k:=it.size) (cs:=z.cells.toList) (by simpa using hzs) (fun _=>hlf)
         rw [hcells]
         refine ⟨by simpa using hzs,fun j u hu' => ?_⟩
         have hju:z.cells[j]? = some u:=by simpa using hu'
         have hj:j<it.size:=by rw [← hzs];exact (Array.getElem?_eq_some_iff.1 hju).1
         have hle:=Nat.mul_le_mul_right it.size (show p+1≤n by omega)
         rw [Nat.add_mul] at hle
         have hmod:(p * it.size+j) % z.cells.size=j:=by rw [hzs,Nat.mul_comm,Nat.mul_add_mod,Nat.mod_eq_of_lt hj]
         refine ⟨u,by rw [XK _ _ (by show p * it.size+j<n * it.size;omega) (by omega),hmod];exact hju,?_⟩
         exact aJ (ρ:=ρ) (Jj (List.all_eq_true.1 hzo u (List.mem_of_getElem? (by simpa using hju)))) (List.all_eq_true.1 hcl u (List.mem_of_getElem? (by simpa using hju)))
        ·cases hel
       obtain ⟨g1,g2,g3⟩:=Kn (W:=W) (W1:=W) ⟨rfl,rfl,rfl,rfl⟩ hlow (hf nx (Nat.le_refl _) (by omega)) (cap:=n) ⟨hLn,by simp only [maxLen];omega⟩ (by rw [hsz];exact Nat.le_refl _) hB [nx] []
       unfold Oper.wp
       rw [hrun']
       refine hK _ _ _ _ g1 (fun p hp=>?_) g3
       simp only [List.mem_singleton] at hp
       subst hp
       exact g2
      ·cases h
     ·cases h
    ·cases h
   ·cases h
  ·cases h
 ·cases h
theorem VU {t t' ty e ty0:TypeId} {i:TypeInfo} (ht:P.underlying t=some (.slice e)) (hi:P.info? e=some i) {g n c cap:Nat} {cur:Array Value} (hg:W.heap[g]? = some (.cells cur ty0 (0,0))) {p:Option Addr} {news:List Value} (hl:news.length=n * i.size)
  (hf:(Builtin.firstCells i.size n (.slice p n cap)).run P W = .ok news.toArray W) (h1:∀ u∈news,u.oneCell' = true) (hfit:n * i.size≤cur.size) :
  (Builtin.copy_ #[t,t'] ty #[.slice (some ⟨g,0,none⟩) n c,.slice p n cap]).run P W = .ok (.int .i64 n) (W.setRow g ([]++news++cur.toList.drop news.length).toArray):=by
 have hst:=run_storeCells_at P g 0 ty0 news 0 cur W hg (by omega) h1
 simp only [Nat.zero_add,List.take_zero,List.nil_append] at hst
 simp [Builtin.copy_,run_underlying ht,sizeOf,typeInfo,hi,Builtin.lenOf,hf,hst,goInt]
theorem Oz {bd:Nat} {o:Oper} {e:Operand→Value} {H:Nat→Option Blk} {nx nx' : Nat} {orc orc' : List Value} {v:Value} {rd:List Nat} {wr:List (Nat×Option Blk)} {ob:List Prop} {args:Array Operand} {ats:Array TypeId} {d x:Operand} (ho:o.op = .call { callee:=.builtin .copy,args:=args,argTypes:=ats }) (ha:args.toList=[d,x])
  (h:Jr P ats.toList (e d) (e x) H nx orc=some (v,rd,wr,nx',orc',ob)) (hob:J3 ob):iy P bd o e H nx nx' rd wr v:=by
 unfold Jr at h
 split at h
 ·next t t' hats =>
  split at h
  ·next et hu =>
   split at h
   ·next it hi =>
    split at h
    ·next hk =>
     have hk:0<it.size:=by simpa using hk
     split at h
     ·next ys m rdx obx hx =>
      split at h
      ·next i0 n c0 hs =>
       split at h
       ·next b hb =>
        split at h
        ·next hc2 =>
         cases h
         simp only [Bool.and_eq_true,beq_iff_eq,Bool.not_eq_true'] at hc2
         obtain ⟨⟨⟨hba,hbw⟩,hbk⟩,hni⟩:=hc2
         obtain ⟨hob1,⟨rfl,hnb⟩,-⟩:=o6.1 hob
         have e1:args=#[d,x]:=by rw [← ha]
         have e2:ats=#[t,t']:=by rw [← hats]
         subst e1 e2
         intro ρ O a W K Q hl he hr _ hf _ hinj hK
         obtain ⟨hmy,⟨p,cap,hxc⟩,news,hN,hfc⟩:=vV (P:=P) hk hx hob1 (he x (by simp [ho,Op.operands,Call.operands])) (fun i hi=>hr i (List.mem_cons_of_mem _ hi))
         have hsc:=he d (by simp [ho,Op.operands,Call.operands])
         rw [hs] at hsc
         obtain ⟨g,k',sCap,g1,⟨g2,arr,ty,g3,g4⟩,hsc⟩:=di.1 hsc
         have g1' : ρ i0=some (g,k'):=g1
         have hh:=hr i0 (by simp)
         rw [hb] at hh
         obtain ⟨g',g5,hO,hB⟩:=hh
         rw [g1'] at g5;cases g5
         simp only [Nat.zero_mul,Nat.zero_add] at g4 hsc
         rw [hbk] at g4
         have hfit:m * it.size≤arr.size:=Nat.le_trans (Nat.mul_le_mul_right _ g2.1) g4
         have hnl:news.length=m * it.size:=by rw [hN.len,hmy]
         have hrun:=VU (W:=W) (t' := t') (ty:=o.type) hu hi g3 (n:=m) (c:=sCap) (p:=p) (cap:=cap) hnl (hxc ▸ hfc W rfl) hN.one hfit
         have hrun' : (execOp a.eval o).run P W = .ok (.value (.int .i64 m)) (W.setRow g ([]++news++arr.toList.drop news.length).toArray):=by
          simp [execOp,ho,resolve,invoke,builtin,hsc,hxc,hrun,Result.andThen]
         have hsz:([]++news++arr.toList.drop news.length).toArray.size=arr.size:=by simp;omega
         have hshp:=ko (W:=W) g3 hsz
         have hnewg:=setRow_heap W g arr ([]++news++arr.toList.drop news.length).toArray ty (0,0) g3
         have hst:Still O W O (W.setRow g ([]++news++arr.toList.drop news.length).toArray):=⟨by simp,fun g' hg' hO' => ⟨hO',setRow_other W g g' _ (fun e=>hO' (e ▸ hO))⟩,hshp⟩
         have hB' := Bq (W:=W) (w:=true) (L:=m) hnewg hst News.nil.olds hN rfl
         unfold Oper.wp
         rw [hrun']
         refine hK _ ρ O _ (p8.2 rfl) (fun p hp=>?_) ⟨Sub.refl _,fun _ _ h=>.inl h,hst,fun g' h=>by rw [size_setRow];exact hl g' h,fun _ h _=>h,⟨rfl,rfl,rfl⟩,fun g' hg' hne=>setRow_other W g g' _ (fun e=>hne i0 (by simp) b.k (e ▸ g1'))⟩
         simp only [List.mem_singleton] at hp
         subst hp
         have e3:({ b with n:=m,els:=ys }:Blk)=⟨true,true,it.size,m,[]++ys⟩:=by
          obtain ⟨bw,ba,bk,bn,be⟩:=b
          simp only at hba hbw hbk
          subst hba hbw hbk
          rfl
         exact ⟨g,g1',hO,e3 ▸ hB'.mono (Still.refl _ _) (I8 _) rfl⟩
        ·cases h
       ·cases h
      ·cases h
     ·cases h
    ·cases h
   ·cases h
  ·cases h
 ·cases h
theorem Mx {bd:Nat} {o:Oper} {e:Operand→Value} {H:Nat→Option Blk} {nx nx' : Nat} {orc orc' : List Value} {v:Value} {rd:List Nat} {wr:List (Nat×Option Blk)} {ob:List Prop} (h:Il P o.op e H nx orc=some (v,rd,wr,nx',orc',ob)) (hob:J3 ob):iy P bd o e H nx nx' rd wr v:=by
 unfold Il at h
 split at h
 ·next args ats ho =>
  split at h
  ·next s x ha=>exact EU ho ha h hob
  ·cases h
 ·next args ats ho =>
  split at h
  ·next d x ha=>exact Oz ho ha h hob
  ·cases h
 ·next args ats ho =>
  split at h
  ·next d x ha=>exact Td ho ha h hob
  ·cases h
 ·next t len parts ho=>exact ny ho h
 ·next t x lo hi ho =>
  obtain ⟨r,hr,he⟩:=Option.map_eq_some_iff.1 h
  cases he
  exact (FB hr hob).do ho nx
 ·next t x y ho=>exact NP ho h hob
 ·next t ho=>exact HY ho h
 ·next t m k x ho=>exact xk (.inl ho) h hob
 ·next t m k x ho=>exact xk (.inr ho) h hob
 ·next t m k ok ho =>
  obtain ⟨r,hr,he⟩:=Option.map_eq_some_iff.1 h
  cases he
  exact (Ea hr hob).do ho nx
 ·exact Qc h hob
end
end
section
open Go.RowKit
def AC (P:Program) (g:FuncId) (args:List Value) (r:Value):Prop :=
 ∀ (O:Nat→Prop) (W:World) (vs:Array Value),Low O W→AtAll (Rp nowhere O W) args.toArray vs→Calls P g vs W fun e W' => ∃ c,e = .returned c∧Rp nowhere O W' r c∧Kept W W'
def AO (P:Program) (g:FuncId) (args:List Value) (cs:Array Value) (pos k:Nat):Prop :=
 ∀ (O:Nat→Prop) (W:World) (vs:Array Value),Low O W→AtAll (Rp nowhere O W) args.toArray vs→Calls P g vs W fun e W' => ∃ us g0 n els cap,e = .returned (.agg us)∧us.size=cs.size∧Kept W W' ∧ W.heap.size≤g0 ∧
  cs[pos]? = some (F4 n els)∧n≤cap∧(cap≤maxLen∧CapAt W' g0 (cap * k))∧us[pos]? = some (.slice (some ⟨g0,0,none⟩) n cap)∧BlkAt nowhere (fun g=>O g∨g=g0) W' g0 ⟨true,true,k,n,els⟩ ∧
  ∀ (j:Nat) (x:Value),j≠pos→cs[j]? = some x→∃ u,us[j]? = some u∧Rp nowhere (fun g=>O g∨g=g0) W' x u
def AN (P:Program) (g:FuncId) (args:List Value) (r:Value):Prop :=
 ∀ (O:Nat→Prop) (W:World) (vs:Array Value),Low O W→AtAll (Rp nowhere O W) args.toArray vs→Calls P g vs W fun e W' => ∃ c,e = .returned c∧Rp nowhere (fun g=>O g∨g<W.heap.size) W' r c∧Kept W W'
def pu (n m:Nat) (els:List Value):Prop:=n=els.length∧m=els.length
def qB (H:Nat→Option Blk):Value→Option (Value×List Nat×List Prop)
 | .slice (some ⟨i,0,some 0⟩) n _=>match H i with
  | some b=>if b.arr then some (F4 b.n b.els,[i],[pu n b.n b.els]) else none
  | none=>none
 | .slice none 0 0=>some (F4 0 [],[],[])
 | .bool b=>some (.bool b,[],[])
 | .iface 1000003 (.bool b)=>some (.bool b,[],[])
 | .iface 1000000 x=>some (.iface 1000000 x,[],[])
 | .int k n=>some (.int k n,[],[])
 | .string s=>some (.string s,[],[])
 | .pointer none=>some (.pointer none,[],[])
 | .nilFunc=>some (.nilFunc,[],[])
 | .nilIface=>some (.nilIface,[],[])
 | _=>none
def iD (f:Value→Option (Value×List Nat×List Prop)):List Value→Option (List Value×List Nat×List Prop)
 | []=>some ([],[],[])
 | x::r=>match f x,iD f r with
  | some (y,i,p),some (s,is,ps)=>some (y::s,i++is,p++ps)
  | _,_=>none
def ou (H:Nat→Option Blk):Value→Option (Value×List Nat×List Prop)
 | .agg xs=>(iD (qB H) xs.toList).map fun r=>(.agg r.1.toArray,r.2)
 | v=>qB H v
def N9 (ρ:A8) (O:Nat→Prop) (is:List Nat) (g:Nat):Prop:=O g∧∀ i∈is,∀ k,ρ i≠some (g,k)
section
variable {P:Program} {ρ:A8} {O:Nat→Prop} {W:World}
theorem aI (is:List Nat):Still O W (N9 ρ O is) W:=⟨Nat.le_refl _,fun g _ h=>⟨fun h' => h h'.1,rfl⟩,Shp.of_same fun _ _=>rfl⟩
theorem gP {is js:List Nat} (h:∀ i∈is,i∈js):Still (N9 ρ O is) W (N9 ρ O js) W:=⟨Nat.le_refl _,fun g _ hn=>⟨fun h' => hn ⟨h'.1,fun i hi=>h'.2 i (h i hi)⟩,rfl⟩,Shp.of_same fun _ _=>rfl⟩
theorem gX {H:Nat→Option Blk} {v v' c:Value} {is:List Nat} {ob:List Prop} (h:qB H v=some (v',is,ob)) (hob:J3 ob) (hr:Rp ρ O W v c) (hh:∀ i∈is,HAt ρ O W i (H i)):Rp nowhere (N9 ρ O is) W v' c:=by
 unfold qB at h
 split at h
 ·next i n m =>
  split at h
  ·next b hb =>
   split at h
   ·next ha =>
    cases h
    have hH:=hh i (by simp)
    rw [hb] at hH
    obtain ⟨g,hg,hO,hB⟩:=hH
    obtain ⟨g',k',cap,h1,⟨⟨h2,h2'⟩,-⟩,hc⟩:=di.1 hr
    have h1' : ρ i=some (g',k'):=h1
    rw [hg] at h1';cases h1'
    obtain ⟨⟨hn,hn'⟩,-⟩:=hob
    refine kH.2 ⟨some ⟨g,0,none⟩,cap,rfl,by simpa using hn',by rw [hc];simp [hn],by simpa using hn ▸ h2,h2',(fun h=>by cases h),fun _=>⟨g,0,b.k,rfl,hB.lt,fun hu=>hu.2 i (by simp) b.k hg,fun m el hel=>?_⟩⟩
    have hel' : b.els[m]? = some el:=by simpa using hel
    refine ⟨(hB.cells (Z7 ha) hel').1,fun j x hx=>?_⟩
    obtain ⟨u,hu,hx'⟩:=hB.cells0 hel' ha j x hx
    exact ⟨u,by simpa using hu,hx'.mono (aI _) (Sub.refl _)⟩
   ·cases h
  ·cases h
 ·cases h
  obtain ⟨-,-,rfl⟩:=Y2.1 hr
  exact kH.2 ⟨none,0,rfl,rfl,rfl,by simp,by simp,fun _=>rfl,fun h=>by simp at h⟩
 ·cases h;exact H5.2 (H5.1 hr)
 ·cases h;exact H5.2 (rG.1 hr)
 ·cases h;exact (aJ hr rfl).mono (aI _) (Sub.refl _)
 ·cases h;exact p8.2 (p8.1 hr)
 ·cases h;exact (aJ hr rfl).mono (aI _) (Sub.refl _)
 ·cases h;exact tK.2 (tK.1 hr)
 ·cases h;exact (aJ hr rfl).mono (aI _) (Sub.refl _)
 ·cases h;exact (aJ hr rfl).mono (aI _) (Sub.refl _)
 ·cases h
theorem bW {f:Value→Option (Value×List Nat×List Prop)} {H:Nat→Option Blk} (hf:∀ v v' c is ob,f v=some (v',is,ob)→J3 ob→Rp ρ O W v c→(∀ i∈is,HAt ρ O W i (H i))→Rp nowhere (N9 ρ O is) W v' c) :
  ∀ {xs:List Value} {ys:List Value} {al:List Value} {is:List Nat} {ob:List Prop},iD f xs=some (al,is,ob)→J3 ob→AtAll (Rp ρ O W) xs.toArray ys.toArray→(∀ i∈is,HAt ρ O W i (H i))→AtAll (Rp nowhere (N9 ρ O is) W) al.toArray ys.toArray
 | [],ys,al,is,ob,h,_,ha,_=>by
  cases h
  have:ys=[]:=by have:=ha.1;simp at this;exact this
  subst this
  exact ⟨rfl,fun i x hx=>by simp at hx⟩
 | x::r,ys,al,is,ob,h,hob,ha,hh=>by
  simp only [iD] at h
  split at h
  ·next y i p s js ps h1 h2 =>
   cases h
   match ys,ha with
   | [],ha=>have:=ha.1;simp at this
   | y0::ys,ha =>
    obtain ⟨u,hu,hr⟩:=ha.2 0 x (by simp)
    simp at hu;subst hu
    have h3:=hf _ _ _ _ _ h1 (o6.1 hob).1 hr (fun k hk=>hh k (by simp [hk]))
    have h4:=bW (H:=H) hf (ys:=ys) h2 (o6.1 hob).2 ⟨by have:=ha.1;simpa using this,fun k z hz=>by
     obtain ⟨u,hu,hr⟩:=ha.2 (k+1) z (by simpa using hz)
     exact ⟨u,by simpa using hu,hr⟩⟩ (fun k hk=>hh k (by simp [hk]))
    refine ⟨by have:=h4.1;simpa using this,fun k z hz=>?_⟩
    cases k with
    | zero=>simp at hz;subst hz;exact ⟨y0,by simp,h3.mono (gP (by intro i hi;simp [hi])) (Sub.refl _)⟩
    | succ k =>
     obtain ⟨u,hu,hr⟩:=h4.2 k z (by simpa using hz)
     exact ⟨u,by simpa using hu,hr.mono (gP (by intro i hi;simp [hi])) (Sub.refl _)⟩
  ·cases h
theorem gV {H:Nat→Option Blk} {v v' c:Value} {is:List Nat} {ob:List Prop} (h:ou H v=some (v',is,ob)) (hob:J3 ob) (hr:Rp ρ O W v c) (hh:∀ i∈is,HAt ρ O W i (H i)):Rp nowhere (N9 ρ O is) W v' c:=by
 unfold ou at h
 split at h
 ·next xs =>
  obtain ⟨r,hr',he⟩:=Option.map_eq_some_iff.1 h
  obtain ⟨al,js,ps⟩:=r
  cases he
  obtain ⟨ys,rfl,ha⟩:=R9.1 hr
  have:=bW (H:=H) (ys:=ys.toList) (fun v v' c is ob=>gX) hr' hob (by simpa using ha) hh
  exact R9.2 ⟨ys,rfl,by simpa using this⟩
 ·exact gX h hob hr hh
end
def Sa:Value→Value
 | .iface 1000003 (.bool b)=>.bool b
 | v=>v
def Qq:Value→Value
 | .tuple xs=>.tuple (xs.toList.map Sa).toArray
 | v=>Sa v
def BG:Value→Bool
 | .int _ _ | .bool _ | .iface 1000003 (.bool _)=>true
 | .tuple xs=>xs.toList.all fun | .int _ _ | .bool _ | .iface 1000003 (.bool _)=>true | _=>false
 | _=>false
def MP (P:Program) (g:FuncId):Bool :=
 match P.funcs[g]? with
 | some fn=>fn.name != "runtime.NumGoroutine"&&fn.body.isSome
 | none=>false
def PG (P:Program) (g:FuncId) (args:List Value) (H:Nat→Option Blk) (nx:Nat) (orc:List Value):EeR :=
 match iD (ou H) args with
 | some (al,is,ps)=>match orc with
  | r::orc' => match r with
   | .iface 1000004 (.func (.yield pos) rs _)=>match rs.toList with
    | [.agg cs,.int _ k]=>match cs.toList[pos]? with
     | some (.iface 1000000 (.func (.yield n) els _)) =>
      some (.agg (cs.toList.set pos (.slice (some ⟨nx,0,some 0⟩) n 0)).toArray,is,(nx,some ⟨true,true,k.toNat,n,els.toList⟩)::is.map (·,none),nx+1,orc',ps++[AO P g al cs pos k.toNat])
     | _=>none
    | _=>none
   | .iface 1000012 r=>some (r,is,[],nx,orc',ps++[AN P g al (Qq r)])
   | r=>if is.isEmpty||BG r then some (r,is,[],nx,orc',ps++[AC P g al (Qq r)]) else some (r,is,is.map (·,none),nx,orc',ps++[AC P g al (Qq r)])
  | []=>none
 | none=>none
section
variable {P:Program} {ρ:A8} {O:Nat→Prop} {W:World}
theorem KZ {r c:Value} (h:Rp ρ O W (Sa r) c):Rp ρ O W r c:=by
 unfold Sa at h
 split at h
 ·exact rG.2 (H5.1 h)
 ·exact h
theorem wu {r c:Value} (h:Rp ρ O W (Qq r) c):Rp ρ O W r c:=by
 unfold Qq at h
 split at h
 ·next xs =>
  obtain ⟨ys,rfl,hs,hy⟩:=G8.1 h
  refine G8.2 ⟨ys,rfl,by simpa using hs,fun i x hx=>?_⟩
  obtain ⟨y,hy1,hy2⟩:=hy i (Sa x) (by simp only [List.getElem?_toArray,List.getElem?_map,Array.getElem?_toList,hx];rfl)
  exact ⟨y,hy1,KZ hy2⟩
 ·exact KZ h
theorem NC {ρ' : A8} {O' : Nat→Prop} {W' : World} {r c:Value} (h:Rp ρ O W r c) (ha:BG r=true):Rp ρ' O' W' r c:=by
 have one:∀ {x c:Value},Rp ρ O W x c→(match x with | .int _ _ | .bool _ | .iface 1000003 (.bool _)=>true | _=>false)=true→Rp ρ' O' W' x c:=fun {x c} h ha=>by
  split at ha
  ·exact p8.2 (p8.1 h)
  ·exact H5.2 (H5.1 h)
  ·exact rG.2 (rG.1 h)
  ·cases ha
 unfold BG at ha
 split at ha
 ·exact one h rfl
 ·exact one h rfl
 ·exact one h rfl
 ·next xs =>
  obtain ⟨ys,rfl,hs,hy⟩:=G8.1 h
  refine G8.2 ⟨ys,rfl,hs,fun i x hx=>?_⟩
  obtain ⟨y,hy1,hy2⟩:=hy i x hx
  exact ⟨y,hy1,one hy2 (List.all_eq_true.1 ha x (by simpa using Array.mem_of_getElem? hx))⟩
 ·cases ha
theorem yT {O:Nat→Prop} {W W' : World} (h:Kept W W'):Still O W O W' := ⟨h.size,fun g hg hO=>⟨hO,h.block g hg⟩,Shp.of_same h.block⟩
theorem mq {o:Oper} {fo:Operand} {xs:Array Operand} {ats:Array TypeId} {f:Operand→Value} {g:FuncId} {ys us:Array Value} (ho:o.op = .call { callee:=.value fo,args:=xs,argTypes:=ats }) (hf:f fo = .func (.func g) ys us) (hg:MP P g=true) :
  (execOp f o).run P W = .ok (.enter g (ys++xs.map f++us)) W:=by
 unfold MP at hg
 split at hg
 ·next fn hfn =>
  simp only [Bool.and_eq_true,bne_iff_ne,ne_eq] at hg
  obtain ⟨c,hc⟩:=Option.isSome_iff_exists.1 hg.2
  have h1:(fn.name=="runtime.NumGoroutine")=false:=by simpa using hg.1
  have h2:fn.body.isNone=false:=by simp [hc]
  simp only [execOp,ho,resolve,hf,Deferred.ofValue,Sem.run_bind,Sem.run_pure,Result.andThen_ok,invoke,callFunc,run_program,hfn,h1,h2,Bool.false_eq_true,if_false]
 ·cases hg
theorem upon_enter' {o:Oper} {a:Act} {K:Act→World→Prop} {Q:Exit→Act→World→Prop} {g:FuncId} {vs:Array Value} {W' : World} (hr:(execOp a.eval o).run P W = .ok (.enter g vs) W') (h:Calls P g vs W' fun e w=>∃ c,e = .returned c∧K (a.put o.dst c) w):o.wp P a W K Q:=by
 unfold Oper.wp
 rw [hr]
 show Calls P g vs W' _
 exact h.mono fun e w ⟨c,he,hk⟩=>by subst he;exact hk
theorem ik {is:List Nat} (h:Low O W):Low (N9 ρ O is) W:=fun g hg=>h g hg.1
theorem UN {bd:Nat} {o:Oper} {fo:Operand} {xs:Array Operand} {ats:Array TypeId} {e:Operand→Value} {g:FuncId} {fs cs:Array Value} {H:Nat→Option Blk} {nx nx' : Nat} {orc orc' : List Value} {v:Value} {rd:List Nat} {wr:List (Nat×Option Blk)} {ob:List Prop}
  (ho:o.op = .call { callee:=.value fo,args:=xs,argTypes:=ats }) (hfo:e fo = .func (.func g) fs cs) (hg:MP P g=true)
  (h:PG P g (fs.toList++xs.toList.map e++cs.toList) H nx orc=some (v,rd,wr,nx',orc',ob)) (hob:J3 ob):iy P bd o e H nx nx' rd wr v:=by
 intro ρ O a W K Q hl he hrd _ hfr _ _ hK
 have hf:=he fo (by simp [ho,Op.operands,Call.operands])
 rw [hfo] at hf
 obtain ⟨ys,us,hfv,ha1,ha2⟩:=U6.1 hf
 have hargs:AtAll (Rp ρ O W) (fs.toList++xs.toList.map e++cs.toList).toArray (ys++xs.map a.eval++us).toList.toArray:=by
  have h1:=ha1.1
  have h2:=ha2.1
  refine ⟨by simp;omega,fun i x hx=>?_⟩
  simp only [Array.toArray_toList,List.getElem?_toArray,List.getElem?_append,Array.getElem?_append,List.length_append,List.length_map,Array.length_toList,Array.size_append,Array.size_map,h1,List.getElem?_map,Array.getElem?_toList,Array.getElem?_map] at hx ⊢
  split at hx
  ·next c1 =>
   rw [if_pos c1]
   split at hx
   ·next c2=>rw [if_pos c2];exact ha1.2 i x hx
   ·next c2 =>
    rw [if_neg c2]
    obtain ⟨y,hy,rfl⟩:=Option.map_eq_some_iff.1 hx
    exact ⟨a.eval y,by rw [hy];rfl,he y (by simp only [ho,Op.operands,Call.operands];simp [Array.mem_of_getElem? hy])⟩
  ·next c1 =>
   rw [if_neg c1]
   exact ha2.2 _ x hx
 have hrun:=mq (P:=P) (W:=W) (f:=a.eval) ho hfv hg
 unfold PG at h
 split at h
 ·next al is ps hlend =>
  have lent:J3 ps→(∀ i∈is,HAt ρ O W i (H i))→AtAll (Rp nowhere (N9 ρ O is) W) al.toArray (ys++xs.map a.eval++us):=fun h1 h2=>by
   have:=bW (H:=H) (fun v v' c is ob=>gV) hlend h1 hargs h2
   rwa [Array.toArray_toList] at this
  split at h
  ·next r orc1 =>
   split at h
   ·next pos rs zs =>
    split at h
    ·next cs' kk k hrs =>
     split at h
     ·next n els zs' hcs =>
      cases h
      obtain ⟨hp,hAO,-⟩:=o6.1 hob
      refine upon_enter' hrun ((hAO _ W _ (ik hl) (lent hp hrd)).mono ?_)
      rintro e' W' ⟨us',g0,n',els',cap,rfl,hsz,hkept,hg0,hc0,hn1,hn2,hu0,hB,hrest⟩
      have hcs' : cs'[pos]? = some (.iface 1000000 (.func (.yield n) els zs')):=by simpa using hcs
      rw [hcs'] at hc0
      have e1:n=n' ∧ els=els'.toArray:=by
       have:=Option.some.inj hc0
       unfold F4 at this
       injection this with _ h2
       injection h2 with h3 h4 _
       injection h3 with h5
       exact ⟨h5,h4⟩
      obtain ⟨rfl,rfl⟩:=e1
      have hnone:=hfr nx (Nat.le_refl _) (by omega)
      have hsub:Sub ρ (fun i=>if i=nx then some (g0,k.toNat) else ρ i):=fun i p hi=>by
       by_cases e:i=nx
       ·subst e;rw [hnone] at hi;cases hi
       ·simpa [e] using hi
      refine ⟨_,rfl,hK _ (fun i=>if i=nx then some (g0,k.toNat) else ρ i) (fun g=>N9 ρ O rd g∨g=g0) W' (R9.2 ⟨us',rfl,by simpa using hsz,fun i x hx=>?_⟩) (fun p hp=>?_)
       ⟨hsub,fun i p hi=>?_,⟨hkept.size,fun g hg hO=>⟨fun h=>h.elim (fun h=>hO h.1) (fun h=>by omega),hkept.block g hg⟩,Shp.of_same hkept.block⟩,fun g h=>h.elim (fun h=>Nat.lt_of_lt_of_le (hl g h.1) hkept.size) (fun h=>h ▸ hB.lt),fun g hg hno=>.inl ⟨hg,fun i hi k=>hno i (by simp [hi]) k⟩,⟨hkept.tape,hkept.os,hkept.output⟩,fun g hg _=>hkept.block g hg⟩⟩
      ·simp only [List.getElem?_toArray,List.getElem?_set,Array.getElem?_toList,Array.length_toList] at hx
       by_cases e:pos=i
       ·subst e
        have hlt:pos<cs'.size:=(Array.getElem?_eq_some_iff.1 hcs').1
        simp only [if_true,hlt,Option.some.injEq] at hx
        subst hx
        exact ⟨_,hu0,di.2 ⟨g0,k.toNat,cap,by simp,⟨⟨hn1,hn2.1⟩,by simpa using hn2.2⟩,by simp⟩⟩
       ·simp only [e,if_false] at hx
        obtain ⟨u,hu,hr⟩:=hrest i x (Ne.symm e) hx
        exact ⟨u,hu,hr.mono (Still.refl _ _) (I8 _)⟩
      ·rcases List.mem_cons.1 hp with rfl | hp
       ·exact ⟨g0,by simp,.inr rfl,hB.mono (Still.refl _ _) (I8 _) rfl⟩
       ·obtain ⟨i,-,rfl⟩:=List.mem_map.1 hp;trivial
      ·by_cases e:i=nx
       ·subst e;simp at hi;subst hi;exact .inr ⟨Nat.le_refl _,by omega,.inl hg0⟩
       ·simp [e] at hi;exact .inl hi
     ·cases h
    ·cases h
   ·cases h
    obtain ⟨hp,hAN,-⟩:=o6.1 hob
    refine upon_enter' hrun ((hAN _ W _ (ik hl) (lent hp hrd)).mono ?_)
    rintro e' W' ⟨c,rfl,hr,hkept⟩
    exact ⟨_,rfl,hK _ ρ O W' ((wu hr).mono ⟨Nat.le_refl _,fun g _ hn=>⟨fun hO=>hn (.inr (hl g hO)),rfl⟩,Shp.of_same fun _ _=>rfl⟩ (I8 _)) (fun p hp=>by cases hp) ⟨Sub.refl _,fun _ _ h=>.inl h,yT hkept,fun g hg=>Nat.lt_of_lt_of_le (hl g hg) hkept.size,fun _ h _=>h,⟨hkept.tape,hkept.os,hkept.output⟩,fun g hg _=>hkept.block g hg⟩⟩
   ·split at h
    ·next hc =>
     cases h
     obtain ⟨hp,hAC,-⟩:=o6.1 hob
     refine upon_enter' hrun ((hAC _ W _ (ik hl) (lent hp hrd)).mono ?_)
     rintro e' W' ⟨c,rfl,hr,hkept⟩
     have hr' : Rp ρ O W' v c:=by
      rcases Bool.or_eq_true_iff.1 hc with h1 | h1
      ·have h2:rd=[]:=List.isEmpty_iff.1 h1
       subst h2
       exact (wu hr).mono ⟨Nat.le_refl _,fun g _ hn=>⟨fun hO=>hn ⟨hO,fun i hi=>by cases hi⟩,rfl⟩,Shp.of_same fun _ _=>rfl⟩ (I8 _)
      ·exact NC (wu hr) h1
     exact ⟨_,rfl,hK _ ρ O W' hr' (fun p hp=>by cases hp) ⟨Sub.refl _,fun _ _ h=>.inl h,yT hkept,fun g hg=>Nat.lt_of_lt_of_le (hl g hg) hkept.size,fun _ h _=>h,⟨hkept.tape,hkept.os,hkept.output⟩,fun g hg _=>hkept.block g hg⟩⟩
    ·cases h
     obtain ⟨hp,hAC,-⟩:=o6.1 hob
     refine upon_enter' hrun ((hAC _ W _ (ik hl) (lent hp hrd)).mono ?_)
     rintro e' W' ⟨c,rfl,hr,hkept⟩
     refine ⟨_,rfl,hK _ ρ (N9 ρ O rd) W' ((wu hr).mono (Still.refl _ _) (I8 _)) (fun p hp=>by obtain ⟨i,-,rfl⟩:=List.mem_map.1 hp;trivial) ⟨Sub.refl _,fun _ _ h=>.inl h,⟨hkept.size,fun g hg hO=>⟨fun h=>hO h.1,hkept.block g hg⟩,Shp.of_same hkept.block⟩,fun g hg=>Nat.lt_of_lt_of_le (hl g hg.1) hkept.size,fun g hg hno=>⟨hg,fun i hi k=>hno i (by simp [hi]) k⟩,⟨hkept.tape,hkept.os,hkept.output⟩,fun g hg _=>hkept.block g hg⟩⟩
  ·cases h
 ·cases h
end
end
section
open Go.RowKit
structure Sg where
 T:List Value
 H:List (Option Blk)
def look (H:List (Option Blk)) (i:Nat):Option Blk :=
 match H[i]? with
 | some x=>x
 | none=>none
structure HConc (ρ:A8) (O:Nat→Prop) (H:List (Option Blk)) (W:World):Prop where
 low:Low O W
 fr:∀ i,H.length≤i→ρ i=none
 hp:∀ i,HAt ρ O W i (look H i)
 inj:∀ i j b b' g k k',look H i=some b→look H j=some b' → ρ i=some (g,k)→ρ j=some (g,k')→i=j
structure TConc (ρ:A8) (O:Nat→Prop) (T:List Value) (a:Act) (W:World):Prop where
 df:a.defers=[]
 sz:a.tmps.size=T.length
 tm:∀ (t:Nat) (v:Value),T[t]? = some v→∃ c,a.tmps[t]? = some c∧Rp ρ O W v c
structure Ext (ρ:A8) (O:Nat→Prop) (H:List (Option Blk)) (W:World) (ρ' : A8) (O' : Nat→Prop) (H' : List (Option Blk)) (W' : World):Prop where
 sub:Sub ρ ρ'
 new:∀ i p,ρ' i=some p→ρ i=some p∨(H.length≤i∧(W.heap.size≤p.1∨∃ j b k,look H j=some b∧b.w=true∧ρ j=some (p.1,k)))
 still:Still O W O' W'
 keepO:∀ g,O g→(∀ i b,look H i=some b→∀ k,ρ i≠some (g,k))→O' g
 live:∀ i b',look H' i=some b' → (∃ b,look H i=some b∧(b'.w=true→b.w=true))∨H.length≤i
 str:W'.tape=W.tape∧W'.os=W.os∧W'.output=W.output
 blk:∀ g,g<W.heap.size→(∀ i b,look H i=some b→b.w=true→∀ k,ρ i≠some (g,k))→W'.heap[g]? = W.heap[g]?
 keep:∀ i b,look H i=some b→b.w=false→look H' i=some b
 len:H.length≤H'.length
theorem aK {H:List (Option Blk)} {i:Nat} {b:Blk} (h:look H i=some b):i<H.length:=by
 unfold look at h
 split at h
 ·next x hx=>exact (List.getElem?_eq_some_iff.1 hx).1
 ·cases h
theorem Still.trans {O O' O'' : Nat→Prop} {W W' W'' : World} (h:Still O W O' W') (k:Still O' W' O'' W''):Still O W O'' W'' :=
 ⟨Nat.le_trans h.size k.size,fun g hg hO=>⟨(k.pl g (Nat.lt_of_lt_of_le hg h.size) (h.pl g hg hO).1).1,((k.pl g (Nat.lt_of_lt_of_le hg h.size) (h.pl g hg hO).1).2).trans (h.pl g hg hO).2⟩,h.shp.trans k.shp⟩
section
variable {ρ ρ' ρ'' : A8} {O O' O'' : Nat→Prop} {H H' H'' : List (Option Blk)} {W W' W'' : World}
theorem Ext.refl (ρ:A8) (O:Nat→Prop) (H:List (Option Blk)) (W:World):Ext ρ O H W ρ O H W :=
 ⟨Sub.refl _,fun _ _ h=>.inl h,Still.refl _ _,fun _ h _=>h,fun _ b h=>.inl ⟨b,h,fun h=>h⟩,⟨rfl,rfl,rfl⟩,fun _ _ _=>rfl,fun _ _ h _=>h,Nat.le_refl _⟩
theorem Ext.trans (h:Ext ρ O H W ρ' O' H' W') (k:Ext ρ' O' H' W' ρ'' O'' H'' W'') (hc:HConc ρ O H W):Ext ρ O H W ρ'' O'' H'' W'' := by
 have old:∀ g,g<W.heap.size→∀ i b k,look H' i=some b→ρ' i=some (g,k)→∃ i0 b0 k0,look H i0=some b0∧(b.w=true→b0.w=true)∧ρ i0=some (g,k0):=fun g hg i b k hi hk=>by
  rcases h.live i b hi with ⟨b0,h1,h2⟩ | h1
  ·rcases h.new i _ hk with h3 | ⟨h3,-⟩
   ·exact ⟨i,b0,k,h1,h2,h3⟩
   ·have:=aK h1;omega
  ·rcases h.new i _ hk with h3 | ⟨-,h3 | ⟨j,bj,kj,h3,h4,h5⟩⟩
   ·rw [hc.fr i h1] at h3;cases h3
   ·simp at h3;omega
   ·exact ⟨j,bj,kj,h3,fun _=>h4,h5⟩
 refine ⟨h.sub.trans k.sub,fun i p hp=>?_,h.still.trans k.still,fun g hg hno=>?_,fun i b hb=>?_,⟨k.str.1.trans h.str.1,k.str.2.1.trans h.str.2.1,k.str.2.2.trans h.str.2.2⟩,fun g hg hno=>?_,fun i b hi hw=>k.keep i b (h.keep i b hi hw) hw,Nat.le_trans h.len k.len⟩
 ·rcases k.new i p hp with h1 | ⟨h1,h2 | ⟨j,b,kj,h2,h3,h4⟩⟩
  ·exact h.new i p h1
  ·exact .inr ⟨Nat.le_trans h.len h1,.inl (Nat.le_trans h.still.size h2)⟩
  ·refine .inr ⟨Nat.le_trans h.len h1,?_⟩
   by_cases hg:p.1<W.heap.size
   ·obtain ⟨i0,b0,k0,h5,h6,h7⟩:=old p.1 hg j b kj h2 h4
    exact .inr ⟨i0,b0,k0,h5,h6 h3,h7⟩
   ·exact .inl (by omega)
 ·refine k.keepO g (h.keepO g hg hno) fun i b hi m hm=>?_
  obtain ⟨i0,b0,k0,h1,-,h2⟩:=old g (hc.low g hg) i b m hi hm
  exact hno i0 b0 h1 k0 h2
 ·rcases k.live i b hb with ⟨b1,h1,h2⟩ | h1
  ·rcases h.live i b1 h1 with ⟨b0,h3,h4⟩ | h3
   ·exact .inl ⟨b0,h3,fun h=>h4 (h2 h)⟩
   ·exact .inr h3
  ·exact .inr (Nat.le_trans h.len h1)
 ·refine (k.blk g (Nat.lt_of_lt_of_le hg h.still.size) fun i b hi hw m hm=>?_).trans (h.blk g hg hno)
  obtain ⟨i0,b0,k0,h1,h2,h3⟩:=old g hg i b m hi hm
  exact hno i0 b0 h1 (h2 hw) k0 h3
end
def jh (H:List (Option Blk)):List (Nat×Option Blk)→List (Option Blk)
 | []=>H
 | p::r=>jh (H.set p.1 p.2) r
def Y0 (H:List (Option Blk)) (wr:List (Nat×Option Blk)) (nx' : Nat):List (Option Blk):=jh (H++List.replicate (nx' - H.length) none) wr
def zM:List Nat→Bool
 | []=>true
 | x::r=>r.all (fun y=>!(y==x))&&zM r
def zt (H:List (Option Blk)) (wr:List (Nat×Option Blk)) (nx' : Nat):Bool :=
 zM (wr.map (·.1))&&Nat.ble H.length nx' && Nat.ble nx' (H.length+1)&&wr.all fun p =>
  match look H p.1 with
  | some b=>b.w
  | none=>Nat.ble H.length p.1&&Nat.blt p.1 nx'
theorem yg:∀ (wr:List (Nat×Option Blk)) (H:List (Option Blk)),(jh H wr).length=H.length
 | [],_=>rfl
 | p::r,H=>by rw [jh,yg r];simp
theorem RU {H:List (Option Blk)} {i j:Nat} {x:Option Blk} (hi:i<H.length):look (H.set i x) j=if i=j then x else look H j:=by
 unfold look
 rw [List.getElem?_set]
 by_cases e:i=j
 ·subst e;simp [hi]
 ·simp [e]
theorem fI:∀ {wr:List (Nat×Option Blk)} {H:List (Option Blk)} {i:Nat},i∉wr.map (·.1)→look (jh H wr) i=look H i
 | [],_,_,_=>rfl
 | p::r,H,i,h=>by
  simp only [List.map_cons,List.mem_cons,not_or] at h
  rw [jh,fI h.2]
  unfold look
  rw [List.getElem?_set_ne (Ne.symm h.1)]
theorem bf:∀ {wr:List (Nat×Option Blk)} {H:List (Option Blk)} {i:Nat} {x:Option Blk},zM (wr.map (·.1))=true→(i,x)∈wr→i<H.length→look (jh H wr) i=x
 | p::r,H,i,x,hn,hm,hi=>by
  simp only [List.map_cons,zM,Bool.and_eq_true,List.all_eq_true,Bool.not_eq_true',beq_eq_false_iff_ne] at hn
  rw [jh]
  rcases List.mem_cons.1 hm with rfl | hm
  ·rw [fI (fun h=>(hn.1 i h) rfl),RU hi,if_pos rfl]
  ·exact bf hn.2 hm (by simpa using hi)
theorem FQ {H:List (Option Blk)} {n i:Nat}:look (H++List.replicate n none) i=look H i:=by
 unfold look
 by_cases hi:i<H.length
 ·rw [List.getElem?_append_left hi]
 ·rw [List.getElem?_append_right (by omega),List.getElem?_replicate]
  have:H[i]? = none:=by simp;omega
  rw [this]
  by_cases h:i - H.length<n <;> simp [h]
theorem dP {H:List (Option Blk)} {wr:List (Nat×Option Blk)} {nx' : Nat} (h:zt H wr nx' = true):zM (wr.map (·.1))=true∧H.length≤nx' ∧ nx' ≤ H.length+1∧∀ p∈wr,(∃ b,look H p.1=some b∧b.w=true)∨(look H p.1=none∧H.length≤p.1∧p.1<nx'):=by
 simp only [zt,Bool.and_eq_true,Nat.ble_eq,List.all_eq_true] at h
 obtain ⟨⟨⟨h1,h2⟩,h3⟩,h4⟩:=h
 refine ⟨h1,h2,h3,fun p hp=>?_⟩
 have:=h4 p hp
 split at this
 ·next b hb=>exact .inl ⟨b,hb,this⟩
 ·next hb=>simp only [Bool.and_eq_true,Nat.ble_eq,Nat.blt_eq] at this;exact .inr ⟨hb,this⟩
theorem xM {H:List (Option Blk)} {wr:List (Nat×Option Blk)} {nx' : Nat} (h:H.length≤nx'):(Y0 H wr nx').length=nx' := by
 unfold Y0
 rw [yg];simp;omega
theorem V7 {H:List (Option Blk)} {wr:List (Nat×Option Blk)} {nx' : Nat} (h:zt H wr nx' = true) (i:Nat):(i∉wr.map (·.1)∧look (Y0 H wr nx') i=look H i)∨∃ x,(i,x)∈wr∧look (Y0 H wr nx') i=x:=by
 obtain ⟨h1,h2,h3,h4⟩:=dP h
 by_cases hm:i∈wr.map (·.1)
 ·obtain ⟨p,hp,rfl⟩:=List.mem_map.1 hm
  refine .inr ⟨p.2,hp,bf h1 hp ?_⟩
  have:p.1<nx' := by
   rcases h4 p hp with ⟨b,hb,-⟩ | ⟨-,-,hb⟩
   ·have:=aK hb;omega
   ·exact hb
  simp;omega
 ·exact .inl ⟨hm,by unfold Y0;rw [fI hm,FQ]⟩
def qM (T:List Value) (dst:Option Tmp) (v:Value):List Value :=
 match dst with
 | some d=>T.set d v
 | none=>T
theorem jy {ρ:A8} {O:Nat→Prop} {T:List Value} {a:Act} {W:World} (h:TConc ρ O T a W) (dst:Option Tmp) {v c:Value} (hv:Rp ρ O W v c):TConc ρ O (qM T dst v) (a.put dst c) W:=by
 cases dst with
 | none=>exact h
 | some d =>
  refine ⟨h.df,by simp [Act.put,qM,h.sz],fun t u hu=>?_⟩
  simp only [qM,List.getElem?_set] at hu
  simp only [Act.put,Array.getElem?_setIfInBounds]
  by_cases e:d=t
  ·subst e
   simp only [if_true] at hu
   split at hu
   ·next hd=>cases hu;exact ⟨c,by simp [h.sz,hd],hv⟩
   ·cases hu
  ·simp only [e,if_false] at hu ⊢
   exact h.tm t u hu
theorem TConc.mono {ρ ρ' : A8} {O O' : Nat→Prop} {T:List Value} {a:Act} {W W' : World} (h:TConc ρ O T a W) (hs:Still O W O' W') (hr:Sub ρ ρ'):TConc ρ' O' T a W' :=
 ⟨h.df,h.sz,fun t v hv=>let ⟨c,hc,hx⟩:=h.tm t v hv;⟨c,hc,hx.mono hs hr⟩⟩
theorem Av {ρ ρ' : A8} {O O' : Nat→Prop} {H:List (Option Blk)} {W W' : World} {wr:List (Nat×Option Blk)} {nx' : Nat} (hc:HConc ρ O H W) (hw:zt H wr nx' = true) (hs:Step ρ O W ρ' O' W' (wr.map (·.1)) (kills wr) H.length nx') (hp:∀ p∈wr,HAt ρ' O' W' p.1 p.2) :
  HConc ρ' O' (Y0 H wr nx') W' ∧ Ext ρ O H W ρ' O' (Y0 H wr nx') W' := by
 obtain ⟨h1,h2,h3,h4⟩:=dP hw
 have hold:∀ i p,i<H.length→ρ' i=some p→ρ i=some p:=fun i p hi h=>(hs.new i p h).resolve_right (fun h=>by omega)
 have hblk:∀ i b g k,look H i=some b→ρ i=some (g,k)→O g∧g<W.heap.size:=fun i b g k hi hk=>by
  have:=hc.hp i
  rw [hi] at this
  obtain ⟨g',hg',hO,hB⟩:=this
  rw [hk] at hg';cases hg'
  exact ⟨hO,hB.lt⟩
 have hkeep:∀ i b,look H i=some b→i∉wr.map (·.1)→HAt ρ' O' W' i (some b):=fun i b hi hni=>by
  have:=hc.hp i
  rw [hi] at this
  obtain ⟨g,hg,hO,hB⟩:=this
  have hno:∀ j∈wr.map (·.1),∀ k,ρ j≠some (g,k):=fun j hj k hk=>by
   obtain ⟨p,hpm,rfl⟩:=List.mem_map.1 hj
   rcases h4 p hpm with ⟨b',hb',-⟩ | ⟨-,hb',-⟩
   ·have:=hc.inj i p.1 b b' g _ _ hi hb' hg hk
    exact hni (this ▸ hj)
   ·rw [hc.fr _ hb'] at hk;cases hk
  exact ⟨g,hs.sub _ _ hg,hs.keepO g hO hno,hB.mono hs.still hs.sub (hs.blk g hB.lt hno)⟩
 have hkill:∀ j∈kills wr,(j,none)∈wr:=fun j hj=>by
  obtain ⟨p,hp,rfl⟩:=List.mem_map.1 hj
  obtain ⟨hp1,hp2⟩:=List.mem_filter.1 hp
  have:p=(p.1,none):=by obtain ⟨a,b⟩:=p;cases b <;> simp_all
  rw [← this];exact hp1
 have killW:∀ j∈kills wr,∀ p,ρ j=some p→∃ b,look H j=some b∧b.w=true:=fun j hj p hp=>by
  rcases h4 _ (hkill j hj) with h | ⟨-,h,-⟩
  ·exact h
  ·rw [hc.fr j h] at hp;cases hp
 have hlen:=xM (wr:=wr) h2
 refine ⟨⟨hs.low,fun i hi=>?_,fun i=>?_,fun i j b b' g k k' hi hj hgi hgj=>?_⟩,⟨hs.sub,fun i p h=>(hs.new i p h).imp id (fun h=>⟨h.1,h.2.2.imp id fun ⟨j,hj,k,hk⟩=>(killW j hj _ hk).elim fun b hb=>⟨j,b,k,hb.1,hb.2,hk⟩⟩),hs.still,fun g hg hno=>hs.keepO g hg fun i hi k hk=>?_,fun i b hb=>?_,hs.str,fun g hg hno=>hs.blk g hg fun i hi k hk=>?_,fun i b hi hwf=>?_,by omega⟩⟩
 ·rw [hlen] at hi
  cases hh:ρ' i with
  | none=>rfl
  | some p =>
   rcases hs.new i p hh with h | ⟨-,h,-⟩
   ·rw [hc.fr i (by omega)] at h;cases h
   ·omega
 ·rcases V7 hw i with ⟨h5,h6⟩ | ⟨x,h5,h6⟩
  ·rw [h6]
   cases hl:look H i with
   | none=>trivial
   | some b=>exact hkeep i b hl h5
  ·rw [h6];exact hp _ h5
 ·have cls:∀ i b g k,look (Y0 H wr nx') i=some b→ρ' i=some (g,k)→(∃ b0,look H i=some b0∧ρ i=some (g,k))∨(H.length≤i∧i<nx' ∧ (W.heap.size≤g∨∃ j∈kills wr,∃ k,ρ j=some (g,k))):=fun i b g k hi hk=>by
   have:(∃ b0,look H i=some b0)∨H.length≤i:=by
    rcases V7 hw i with ⟨-,h6⟩ | ⟨x,h5,h6⟩
    ·exact .inl ⟨b,h6 ▸ hi⟩
    ·rcases h4 _ h5 with ⟨b',hb',-⟩ | ⟨-,hb',-⟩
     ·exact .inl ⟨b',hb'⟩
     ·exact .inr hb'
   rcases this with ⟨b0,hb0⟩ | hge
   ·exact .inl ⟨b0,hb0,hold i _ (aK hb0) hk⟩
   ·rcases hs.new i _ hk with h | h
    ·rw [hc.fr i hge] at h;cases h
    ·exact .inr h
  have apart:∀ i b b0 g k,look (Y0 H wr nx') i=some b→look H i=some b0→ρ i=some (g,k)→(W.heap.size≤g∨∃ j∈kills wr,∃ k,ρ j=some (g,k))→False:=fun i b b0 g k h5 h6 h7 h8=>by
   rcases h8 with h8 | ⟨m,hm,km,h8⟩
   ·have:=(hblk i b0 g k h6 h7).2;omega
   ·obtain ⟨bm,hbm,-⟩:=killW m hm _ h8
    have:=hc.inj i m b0 bm g k km h6 hbm h7 h8
    subst this
    rcases V7 hw i with ⟨h9,-⟩ | ⟨x,h9,h10⟩
    ·exact h9 (List.mem_map.2 ⟨_,hkill i hm,rfl⟩)
    ·have:=bf (H:=H++List.replicate (nx' - H.length) none) h1 (hkill i hm) (by have:=aK h6;simp;omega)
     have h11:look (Y0 H wr nx') i=none:=this
     rw [h11] at h5;cases h5
  rcases cls i b g k hi hgi with ⟨b0,h5,h6⟩ | h5 <;> rcases cls j b' g k' hj hgj with ⟨b1,h7,h8⟩ | h7
  ·exact hc.inj i j b0 b1 g k k' h5 h7 h6 h8
  ·exact (apart i b b0 g k hi h5 h6 h7.2.2).elim
  ·exact (apart j b' b1 g k' hj h7 h8 h5.2.2).elim
  ·omega
 ·obtain ⟨p,hpm,rfl⟩:=List.mem_map.1 hi
  rcases h4 p hpm with ⟨b',hb',-⟩ | ⟨-,hb',-⟩
  ·exact hno _ b' hb' k hk
  ·rw [hc.fr _ hb'] at hk;cases hk
 ·rcases V7 hw i with ⟨-,h6⟩ | ⟨x,h5,h6⟩
  ·exact .inl ⟨b,h6 ▸ hb,fun h=>h⟩
  ·rcases h4 _ h5 with ⟨b',hb',hw'⟩ | ⟨-,hb',-⟩
   ·exact .inl ⟨b',hb',fun _=>hw'⟩
   ·exact .inr hb'
 ·obtain ⟨p,hpm,rfl⟩:=List.mem_map.1 hi
  rcases h4 p hpm with ⟨b',hb',hw'⟩ | ⟨-,hb',-⟩
  ·exact hno _ b' hb' hw' k hk
  ·rw [hc.fr _ hb'] at hk;cases hk
 ·rcases V7 hw i with ⟨-,h6⟩ | ⟨x,h5,h6⟩
  ·rw [h6];exact hi
  ·rcases h4 _ h5 with ⟨b',hb',hw'⟩ | ⟨hb',-⟩
   ·have hb'' : look H i=some b' := hb'
    rw [hi] at hb'';cases hb'';rw [hw'] at hwf;cases hwf
   ·have hb'' : look H i=none:=hb'
    rw [hi] at hb'';cases hb''
end
end Go.Proofs.YtfogkllejkmpdaaGreat
