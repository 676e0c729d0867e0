/- What the claim leans on, part 1: plain theorems, and walks of functions of the program and of the document. -/
import Derived.OrdersHeld
import Derived.Laws.World
import Derived.RangeFuncNested
import Derived.RangeFuncBound
import Derived.RangeFuncCalls
import Derived.RangeFuncLeaves
import Derived.OrdersIn
import Derived.TacticsInMore
import Derived.Tactics
import Derived.Tactics2
import Derived.WalkKit
import Derived.Below
import Derived.Deep.Draws
import Derived.Deep.MidRow
import Derived.Laws.Rows
import Derived.Laws.Tables
import Derived.Laws.CopyRow
import Derived.Laws.MakeOwn
import Derived.Laws.BitsAllLaws
import Derived.Lib.Hide
import Derived.KernelRfl
import Derived.Great.Ranges
import Derived.IntWalk
import Derived.Laws.AppendOwn
import Derived.Laws.AppendOwnNone
import Derived.Laws.OwnMore
import Derived.Laws.IdiomStrings
import Derived.Great.BuildSlice
import Derived.Great.FillDense
import Derived.OwnWalk
import Derived.Scope
import Derived.Laws.Cover3
import Derived.Laws.ResultCell
import Derived.ChangeKeysEq
import Derived.Lib.SlBytesConst
import Derived.Test.YtajppfmjbkebfaaGreatDoorProg
import Derived.ProofKit
import Derived.OpenShut
import Derived.ChangeSlices
set_option maxHeartbeats 8000000
namespace Go.Proofs.YtajppfmjbkebfaaGreatDoor
open Go Go.RowKit
set_option maxRecDepth 100000
section
open Go
section
variable{P:Program}{ops:Array Oper}{Q:Exit→Act→World→Prop}{md:Region.Mode}{S:World→Prop}
def ib(md:Region.Mode)(ops:Array Oper):Nat→Nat→Nat→Bool
 | 0,_,_=>false
 | f+1,j,k=>match ops[j]? with
  | none=>false
  | some o=>o.after.any (fun e=>Region.binds md e&&e.on == k)||o.after.any (fun e=>Region.binds md e&&ib md ops f e.on k)
def Closed(md:Region.Mode)(ops:Array Oper)(L:Array Bool):Prop :=
 ∀ j o,ops[j]?=some o→L.getD j true=true → ∀ e∈o.after,Region.binds md e=true→L.getD e.on false=true
theorem pZ{L:Array Bool}{m:Nat}(h:L.getD m false=true):L.getD m true=true:=by
 rcases Nat.lt_or_ge m L.size with h' | h'
 ·simp[Array.getD,h']at h ⊢;exact h
 ·simp[Array.getD,Nat.not_lt.2 h']
theorem lo{L:Array Bool}{m:Nat}(h:L.getD m true=false):L.getD m false=false:=by
 rcases Nat.lt_or_ge m L.size with h' | h'
 ·simp[Array.getD,h']at h ⊢;exact h
 ·simp[Array.getD,Nat.not_lt.2 h']
theorem eW{L:Array Bool}(hc:Closed md ops L)(k:Nat):∀ f j,ib md ops f j k=true→(∀ o,ops[j]?=some o → ∀ e∈o.after,Region.binds md e=true→L.getD e.on false=true)→L.getD k false=true:=by
 intro f
 induction f with
 | zero=>intro j h;cases h
 | succ f ih =>
  intro j h hall
  unfold ib at h
  cases hj:ops[j]? with
  | none=>rw[hj]at h;cases h
  | some o =>
   rw[hj]at h
   simp only[Bool.or_eq_true,Array.any_eq_true',Bool.and_eq_true,beq_iff_eq]at h
   rcases h with ⟨e,he,hb,rfl⟩ | ⟨e,he,hb,hw⟩
   ·exact hall o hj e he hb
   ·exact ih e.on hw fun o' ho' e' he' hb'=>hc e.on o' ho' (pZ (hall o hj e he hb)) e' he' hb'
theorem Closed.set{L:Array Bool}(hc:Closed md ops L){i:Nat}(hi:i∈Region.ready md ops L):Closed md ops (L.setIfInBounds i true):=by
 intro j o hj hL e he hb
 obtain ⟨_,oi,hoi,hall⟩:=mem_ready.1 hi
 have up:∀ m,L.getD m false=true→(L.setIfInBounds i true).getD m false=true:=fun m hm=>by
  by_cases h:i=m
  ·subst h
   rcases Nat.lt_or_ge i L.size with h' | h'
   ·simp[Array.getD,h']
   ·simp[Array.getD,Nat.not_lt.2 h']at hm
  ·rw[getD_set_ne false h];exact hm
 by_cases hij:i=j
 ·subst hij
  rw[hoi]at hj
  obtain rfl:=Option.some.inj hj
  exact up _ (hall e he hb)
 ·rw[getD_set_ne true hij]at hL
  exact up _ (hc j o hj hL e he hb)
theorem Closed.none(md:Region.Mode)(ops:Array Oper):Closed md ops (Array.replicate ops.size false):=by
 intro j o hj hL
 have hlt:j<ops.size:=(Array.getElem?_eq_some_iff.1 hj).1
 simp[Array.getD,hlt]at hL
def pre(n k:Nat):Array Bool:=((List.range n).map fun j=>decide (j<k)).toArray
end
end
section
open Go
section
variable{P:Program}{ops:Array Oper}{Q:Exit→Act→World→Prop}{md:Region.Mode}{SS:Option Nat→World→Prop}
abbrev jI(g:Nat):Value:=.pointer (some ⟨g,0,none⟩)
end
end
section
open Go
section
variable{P:Program}{ops:Array Oper}{Q:Exit→Act→World→Prop}{md:Region.Mode}{SS:(Nat→Bool)→(Nat→Value)→World→Prop}{isM:Nat→Bool}
def dn(isM:Nat→Bool)(L:Array Bool):Nat→Bool:=fun k=>isM k&&L.getD k false
end
end
section
def xr(x y:UInt8):UInt8:=x^^^y
def dbl(x:UInt8):UInt8:=x<<<1^^^(x>>>7)*0x1b
def added(b k:Nat→UInt8):Nat→UInt8:=fun i=>xr (b i) (k i)
def boxed(s b:Nat→UInt8):Nat→UInt8:=fun i=>s (b i).toNat
def shifted(b:Nat→UInt8):Nat→UInt8:=fun i=>b ((i+i%4*4)%16)
def unshifted(b:Nat→UInt8):Nat→UInt8:=fun i=>b ((i+i%4*12)%16)
def mixed(b:Nat→UInt8):Nat→UInt8:=fun i =>
 xr (xr (b i) (xr (xr (xr (b (i-i%4)) (b (i-i%4+1))) (b (i-i%4+2))) (b (i-i%4+3)))) (dbl (xr (b i) (b (i-i%4+(i+1)%4))))
def premixed(b:Nat→UInt8):Nat→UInt8:=fun i=>xr (b i) (dbl (dbl (xr (b i) (b (i-i%4+(i+2)%4)))))
def unmixed(b:Nat→UInt8):Nat→UInt8:=mixed (premixed b)
def cpy(off k:Nat)(f fs:Nat→UInt8):Nat→UInt8:=fun j=>if off≤j∧j<off+k then fs (j-off) else f j
def bk(s:Nat→UInt8):Nat→Nat→UInt8
 | 0=>fun _=>0
 | m+1=>fun j=>if j=(s m).toNat then UInt8.ofNat m else bk s m j
def rc:Nat→UInt8
 | 0=>1
 | n+1=>dbl (rc n)
def tw(s:Nat→UInt8)(nk:Nat)(W:Nat→UInt8)(i k:Nat):UInt8 :=
 if i%nk=0 then (if k=0 then xr (s (W (4*(i-1)+1)).toNat) (rc ((i-1)/nk)) else s (W (4*(i-1)+(k+1)%4)).toNat)
 else if nk=8∧i%nk=4 then s (W (4*(i-1)+k)).toNat else W (4*(i-1)+k)
def lF(s:Nat→UInt8)(nk:Nat)(key W:Nat→UInt8):Prop :=
 (∀ j,j<4*nk→W j=key j) ∧ ∀ i k,nk≤i→i<4*nk+28→k<4→W (4*i+k)=xr (W (4*(i-nk)+k)) (tw s nk W i k)
theorem p7{s key W:Nat→UInt8}{nk:Nat}(hn:0<nk)(hW:lF s nk key W)(d q:Nat)(hd:d<3*nk+28)(hq:q=4*d+(4*nk-4))(hA:(d+nk)%nk=0)(k:Nat)(hk:k<4):
  W (q+4+k)=xr (W (q+4+k-4*nk)) (if k=0 then xr (s (W (q+1)).toNat) (rc ((d+(nk-1))/nk)) else s (W (q+(k+1)%4)).toNat):=by
 have h:=hW.2 (d+nk) k (by omega) (by omega) hk
 unfold tw at h
 rw[if_pos hA,show 4*(d+nk)+k=q+4+k by omega,show 4*(d+nk-nk)+k=q+4+k-4*nk by omega,show 4*(d+nk-1)=q by omega,show d+nk-1=d+(nk-1) by omega]at h
 exact h
theorem p8{s key W:Nat→UInt8}{nk:Nat}(hn:0<nk)(hW:lF s nk key W)(d q:Nat)(hd:d<3*nk+28)(hq:q=4*d+(4*nk-4))(hA:¬ (d+nk)%nk=0)(hB:¬ (nk=8∧(d+nk)%nk=4))(k:Nat)(hk:k<4):
  W (q+4+k)=xr (W (q+4+k-4*nk)) (W (q+k)):=by
 have h:=hW.2 (d+nk) k (by omega) (by omega) hk
 unfold tw at h
 rw[if_neg hA,if_neg hB,show 4*(d+nk)+k=q+4+k by omega,show 4*(d+nk-nk)+k=q+4+k-4*nk by omega,show 4*(d+nk-1)=q by omega]at h
 exact h
theorem p9{s key W:Nat→UInt8}{nk:Nat}(_:0<nk)(hW:lF s nk key W)(d q:Nat)(hd:d<3*nk+28)(hq:q=4*d+(4*nk-4))(hA:¬ (d+nk)%nk=0)(hB:nk=8∧(d+nk)%nk=4)(k:Nat)(hk:k<4):
  W (q+4+k)=xr (W (q+4+k-4*nk)) (s (W (q+k)).toNat):=by
 have h:=hW.2 (d+nk) k (by omega) (by omega) hk
 unfold tw at h
 rw[if_neg hA,if_pos hB,show 4*(d+nk)+k=q+4+k by omega,show 4*(d+nk-nk)+k=q+4+k-4*nk by omega,show 4*(d+nk-1)=q by omega]at h
 exact h
def rk(W:Nat→UInt8)(r:Nat):Nat→UInt8:=fun j=>W (16*r+j)
def encR(s W b:Nat→UInt8):Nat→Nat→UInt8
 | 0=>added b (rk W 0)
 | i+1=>added (mixed (shifted (boxed s (encR s W b i)))) (rk W (i+1))
def enc(s:Nat→UInt8)(r:Nat)(W b:Nat→UInt8):Nat→UInt8:=added (shifted (boxed s (encR s W b (r-1)))) (rk W r)
def decR(back:Nat→UInt8)(r:Nat)(W b:Nat→UInt8):Nat→Nat→UInt8
 | 0=>boxed back (unshifted (added b (rk W r)))
 | i+1=>boxed back (unshifted (unmixed (added (decR back r W b i) (rk W (r-1-i)))))
def dec(back:Nat→UInt8)(r:Nat)(W b:Nat→UInt8):Nat→UInt8:=added (decR back r W b (r-1)) (rk W 0)
end
def by8(x:UInt8):Value:=.int .u8 (x.toNat:Int)
def row(n:Nat)(f:Nat→UInt8):Array Value:=Array.ofFn fun i:Fin n=>by8 (f i)
theorem bH(n:Nat)(f:Nat→UInt8):(row n f).size=n:=by simp[row]
theorem ce(n:Nat)(f:Nat→UInt8)(i:Nat)(h:i<n):(row n f)[i]?=some (by8 (f i)):=by
 simp[row,h]
theorem rW{n:Nat}{f g:Nat→UInt8}(h:∀ i,i<n→f i=g i):row n f=row n g:=by
 unfold row
 congr 1
 funext i
 rw[h i.1 i.2]
theorem vJ(n:Nat)(f:Nat→UInt8):(row n f).all (·.oneCell')=true:=by
 rw[Array.all_eq_true_iff_forall_mem]
 intro v hv
 simp only[row,Array.mem_ofFn]at hv
 obtain ⟨i,rfl⟩:=hv
 rfl
section
variable{w w':World}{g:Nat}{t:TypeId}{n:Nat}{f:Nat→UInt8}
end
section
variable{P:Program}{w:World}
end
section
variable{P:Program}{w:World}
end
theorem dR{P:Program}{ty:TypeId}(hdd:(P.underlying ty).map (·.isRow)=some true):∃ d,P.underlying ty=some d∧d.isRow=true:=by
 cases h:P.underlying ty with
 | none=>rw[h]at hdd;cases hdd
 | some d =>
  rw[h]at hdd
  exact ⟨d,rfl,Option.some.inj hdd⟩
def bJ(cs:Array Value):Nat→List Value→Array Value
 | _,[]=>cs
 | o,v::r=>bJ (cs.setIfInBounds o v) (o+1) r
section
variable{gw:Nat}{w w1 w2:World}
end
section
variable{P:Program}
end
section
variable{P:Program}{ops:Array Oper}{Q:Exit→Act→World→Prop}{w:World}
theorem oR{o:Oper}{a:Act}(t:TypeId)(parts:Array (Nat×Operand))(ho:o.op=.build t parts)(cells:Array Value)(vals:List (Nat×Value))(hv:(parts.map fun (i,x)=>(i,a.eval x)).toList=vals)
  (hb:P.built t vals=some cells) (w:World):(execOp a.eval o).run P w=.ok (.value (.agg cells)) w:=by
 subst hv
 unfold execOp
 simp only[ho,Sem.run_bind,Sem.run_pure]
 rw[run_build w t _ cells hb]
 rfl
end
abbrev bl(g:Nat)(t:TypeId)(cs:Array Value):Nat×Obj:=(g,.cells cs t (0,0))
structure Hold(w0:World)(R:List Nat)(L:List (Nat×Obj))(w:World):Prop where
 os:w.os=w0.os
 tape:w.tape=w0.tape
 output:w.output=w0.output
 size:w0.heap.size≤w.heap.size
 blk:∀ x∈L,w.heap[x.1]?=some x.2
 ne:L.Pairwise fun x y=>x.1≠y.1
 own:∀ x∈L,w0.heap.size≤x.1∨x.1∈R
 frame:∀ k,k<w0.heap.size→k ∉ R→w.heap[k]?=w0.heap[k]?
section
variable{w0 w w':World}{R:List Nat}{L L':List (Nat×Obj)}
theorem Hold.init(w:World):Hold w [] [] w:=⟨rfl,rfl,rfl,Nat.le_refl _,fun _ h=>(by cases h),.nil,fun _ h=>(by cases h),fun _ _ _=>rfl⟩
theorem Hold.of_below(h:Below w0.heap.size w0 w):Hold w0 [] [] w:=⟨h.os,h.tape,h.output,h.size,fun _ h=>(by cases h),.nil,fun _ h=>(by cases h),fun k hk _=>h.block k hk⟩
theorem Hold.drew(h:Hold w0 R L w):Hold w0 R L w.drew:=⟨h.os,h.tape,h.output,h.size,h.blk,h.ne,h.own,h.frame⟩
theorem Hold.lt(h:Hold w0 R L w){x:Nat×Obj}(hx:x∈L):x.1<w.heap.size:=(Array.getElem?_eq_some_iff.1 (h.blk x hx)).1
theorem Hold.get(h:Hold w0 R L w)(i:Nat){g:Nat}{o:Obj}(hx:L[i]?=some (g,o)):w.heap[g]?=some o:=h.blk (g,o) (List.mem_of_getElem? hx)
theorem Hold.new(h:Hold w0 R L w)(o:Obj):Hold w0 R (L++[(w.heap.size,o)]) (w.alloc o):=by
 refine ⟨h.os,h.tape,h.output,Nat.le_trans h.size (by simp),fun x hx => ?_,?_,fun x hx => ?_,fun k hk hkR => ?_⟩
 ·rcases List.mem_append.1 hx with hx | hx
  ·exact (Below.heap_alloc w o x.1 (h.lt hx)).trans (h.blk x hx)
  ·obtain rfl:x=(w.heap.size,o):=by simpa using hx
   exact heap_alloc_new w o
 ·refine List.pairwise_append.2 ⟨h.ne,by simp,fun x hx y hy => ?_⟩
  obtain rfl:y=(w.heap.size,o):=by simpa using hy
  exact Nat.ne_of_lt (h.lt hx)
 ·rcases List.mem_append.1 hx with hx | hx
  ·exact h.own x hx
  ·obtain rfl:x=(w.heap.size,o):=by simpa using hx
   exact .inl h.size
 ·exact (Below.heap_alloc w o k (Nat.lt_of_lt_of_le hk h.size)).trans (h.frame k hk hkR)
theorem Hold.call(h:Hold w0 R L w)(hb:Below w.heap.size w w'):Hold w0 R L w' :=
 ⟨hb.os.trans h.os,hb.tape.trans h.tape,hb.output.trans h.output,Nat.le_trans h.size hb.size,fun x hx=>(hb.block x.1 (h.lt hx)).trans (h.blk x hx),h.ne,h.own,fun k hk hkR=>(hb.block k (Nat.lt_of_lt_of_le hk h.size)).trans (h.frame k hk hkR)⟩
theorem Hold.perm(h:Hold w0 R L w)(hp:L.Perm L'):Hold w0 R L' w :=
 ⟨h.os,h.tape,h.output,h.size,fun x hx=>h.blk x (hp.mem_iff.2 hx),hp.pairwise h.ne (fun h=>Ne.symm h),fun x hx=>h.own x (hp.mem_iff.2 hx),h.frame⟩
theorem Hold.sub(h:Hold w0 R L w)(hs:L'.Sublist L):Hold w0 R L' w :=
 ⟨h.os,h.tape,h.output,h.size,fun x hx=>h.blk x (hs.subset hx),h.ne.sublist hs,fun x hx=>h.own x (hs.subset hx),h.frame⟩
theorem Hold.toBelow(h:Hold w0 [] L w):Below w0.heap.size w0 w:=⟨h.os,h.tape,h.output,h.size,fun k hk=>h.frame k hk (by simp)⟩
theorem Hold.apart(h:Hold w0 R L w){i j:Nat}{x y:Nat×Obj}(hi:L[i]?=some x)(hj:L[j]?=some y)(hij:i≠j):x.1≠y.1:=by
 obtain ⟨hi1,hi2⟩:=List.getElem?_eq_some_iff.1 hi
 obtain ⟨hj1,hj2⟩:=List.getElem?_eq_some_iff.1 hj
 subst hi2 hj2
 rcases Nat.lt_or_ge i j with h1 | h1
 ·exact List.pairwise_iff_getElem.1 h.ne i j hi1 hj1 h1
 ·exact Ne.symm (List.pairwise_iff_getElem.1 h.ne j i hj1 hi1 (by omega))
theorem Hold.upd(h:Hold w0 R L w)(i:Nat){g:Nat}{o o':Obj}(hx:L[i]?=some (g,o))(hos:w'.os=w.os)(htp:w'.tape=w.tape)(hou:w'.output=w.output)(hsz:w.heap.size≤w'.heap.size)
  (hg:w'.heap[g]?=some o') (hk:∀ k,k<w.heap.size→k≠g→w'.heap[k]?=w.heap[k]?):Hold w0 R (L.set i (g,o')) w':=by
 obtain ⟨hi1,hi2⟩:=List.getElem?_eq_some_iff.1 hx
 have hset:∀ x∈L.set i (g,o'),x=(g,o')∨(x∈L∧x.1≠g):=fun x hx'=>by
  obtain ⟨j,hj,rfl⟩:=List.mem_iff_getElem.1 hx'
  rw[List.getElem_set]
  split
  ·exact .inl rfl
  ·rename_i hij
   have hj':j<L.length:=by simpa using hj
   exact .inr ⟨List.getElem_mem hj',fun e=>by
    have:=h.apart (i:=i) (j:=j) hx (List.getElem?_eq_getElem hj') hij
    exact this e.symm⟩
 refine ⟨hos.trans h.os,htp.trans h.tape,hou.trans h.output,Nat.le_trans h.size hsz,fun x hx' => ?_,?_,fun x hx' => ?_,fun k hk' hkR => ?_⟩
 ·rcases hset x hx' with rfl | ⟨h1,h2⟩
  ·exact hg
  ·exact (hk x.1 (h.lt h1) h2).trans (h.blk x h1)
 ·rw[List.pairwise_iff_getElem]
  intro a b ha hb hab
  have ha':a<L.length:=by simpa using ha
  have hb':b<L.length:=by simpa using hb
  have hne:=List.pairwise_iff_getElem.1 h.ne a b ha' hb' hab
  rw[List.getElem_set,List.getElem_set]
  have e1:∀ j (hj:j<L.length),i=j→L[j].1=g:=fun j hj e=>by subst e;rw[hi2]
  split
  ·rename_i e
   split
   ·omega
   ·have h5:=e1 a ha' e
    rw[h5]at hne;exact hne
  ·split
   ·rename_i e
    have h5:=e1 b hb' e
    rw[h5]at hne;exact hne
   ·exact hne
 ·rcases hset x hx' with rfl | ⟨h1,_⟩
  ·exact h.own (g,o) (List.mem_of_getElem? hx)
  ·exact h.own x h1
 ·rw[hk k (Nat.lt_of_lt_of_le hk' h.size) ?_]
  ·exact h.frame k hk' hkR
  ·rintro rfl
   rcases h.own (k,o) (List.mem_of_getElem? hx) with h1 | h1
   ·exact absurd hk' (Nat.not_lt.2 h1)
   ·exact hkR h1
theorem Hold.setRow(h:Hold w0 R L w)(i:Nat){g:Nat}{t:TypeId}{cs:Array Value}(hx:L[i]?=some (bl g t cs))(cs':Array Value):Hold w0 R (L.set i (bl g t cs')) (w.setRow g cs') :=
 h.upd i hx rfl rfl rfl (by simp[World.setRow]) (setRow_heap w g cs cs' t (0,0) (h.get i hx)) fun k _ hk=>setRow_other w g k cs' hk
theorem Hold.setCell(h:Hold w0 R L w)(i:Nat){g:Nat}{t:TypeId}{cs:Array Value}(hx:L[i]?=some (bl g t cs))(o:Nat)(v:Value):Hold w0 R (L.set i (bl g t (cs.setIfInBounds o v))) (w.setCell ⟨g,o,none⟩ v) :=
 h.upd i hx rfl rfl rfl (by simp[World.setCell]) (heap_setCell_same w g o cs t v (h.get i hx)) fun k _ hk=>Below.heap_setCell w ⟨g,o,none⟩ v k hk
theorem Hold.setCells:∀ (vs:List Value) (o:Nat) {w:World} {L:List (Nat×Obj)} {cs:Array Value},Hold w0 R L w → ∀ (i:Nat) {g:Nat} {t:TypeId},L[i]?=some (bl g t cs)→Hold w0 R (L.set i (bl g t (bJ cs o vs))) (w.setCells g o vs)
 | [],_,w,L,cs,h,i,g,t,hx=>by
  have e:L.set i (bl g t cs)=L:=by
   refine List.ext_getElem? fun j => ?_
   rw[List.getElem?_set]
   split
   ·rename_i e;subst e
    split
    ·exact hx.symm
    ·rename_i h2;rw[List.getElem?_eq_none (by omega)]
   ·rfl
  show Hold w0 R (L.set i (bl g t cs)) w
  rw[e];exact h
 | v::r,o,w,L,cs,h,i,g,t,hx=>by
  have h1:=h.setCell i hx o v
  have hi:i<L.length:=(List.getElem?_eq_some_iff.1 hx).1
  have h2:=Hold.setCells r (o+1) h1 i (g:=g) (t:=t) (cs:=cs.setIfInBounds o v) (by rw[List.getElem?_set];simp[hi])
  rw[List.set_set]at h2
  exact h2
theorem Hold.cell(h:Hold w0 R L w)(i:Nat){g:Nat}{t:TypeId}{cs:Array Value}(hx:L[i]?=some (bl g t cs))(o:Nat):w.cell? ⟨g,o,none⟩=cs[o]?:=cell_of_row w g o _ t (0,0) (h.get i hx)
theorem Hold.frozen(h:Hold w0 R L w)(i:Nat){g:Nat}{t:TypeId}{cs:Array Value}(hx:L[i]?=some (bl g t cs))(o:Nat):w.frozen? ⟨g,o,none⟩=false:=by
 have:=h.get i hx
 simp[World.frozen?,this]
theorem Hold.there(h:Hold w0 R L w)(i:Nat){g:Nat}{t:TypeId}{cs:Array Value}(hx:L[i]?=some (bl g t cs))(o n:Nat)(hn:o+n≤cs.size):w.there g o n:=fun j hj=>by
 refine ⟨?_,h.frozen i hx _⟩
 rw[h.cell i hx,Array.getElem?_eq_getElem (by omega)];rfl
end
section
variable{P:Program}{w0 w:World}{R:List Nat}{L:List (Nat×Obj)}{ops:Array Oper}{rest:List Oper}{o:Oper}{a:Act}{Q:Exit→Act→World→Prop}
end
section
variable{P:Program}{w0 w:World}{R:List Nat}{L:(Nat→Bool)→List (Nat×Obj)}{Ms:List (Nat×((Nat→Bool)→Obj))}{D:Nat→Bool}{π:Nat→Value}
variable{ops:Array Oper}{o:Oper}{a:Act}{Q:Exit→Act→World→Prop}
variable{md:Region.Mode}{isM:Nat→Bool}
end
section
variable{P:Program}{w0 w:World}{R:List Nat}{L:List (Nat×Obj)}{ops:Array Oper}{o:Oper}{a:Act}{Q:Exit→Act→World→Prop}
end
section
variable{P:Program}{w0:World}{R:List Nat}{L:(Nat→Bool)→List (Nat×Obj)}{md:Region.Mode}{ops:Array Oper}{Q:Exit→Act→World→Prop}{isM:Nat→Bool}{A:(Nat→Value)→Act}{o:Oper}{rest:List Oper}{gt:Nat}{L':List (Nat×Obj)}
end
structure Sz where
 n:Nat
 ds:List Deferred
structure Fr(n:Sz)(l:List (Nat×Value))(a:Act):Prop where
 size:a.tmps.size=n.n
 defers:a.defers=n.ds
 get:∀ x∈l,a.tmps.getD x.1 undef=x.2
def ex(d:Nat)(l:List (Nat×Value)):Bool:=l.all fun x=>x.1 != d
structure Kept(d:Nat)(l' l:List (Nat×Value)):Prop where
 sub:l'.Sublist l
 ne:ex d l'=true
section
variable{n:Sz}{l l':List (Nat×Value)}{a:Act}
theorem Fr.ev(h:Fr n l a)(i:Nat){k:Nat}{v:Value}(hi:l[i]?=some (k,v)):a.eval (.tmp k)=v:=h.get (k,v) (List.mem_of_getElem? hi)
theorem Fr.at(h:Fr n l a)(i:Nat){k:Nat}{v:Value}(hi:l[i]?=some (k,v)):a.tmps.getD k undef=v:=h.get (k,v) (List.mem_of_getElem? hi)
theorem Fr.sub(h:Fr n l a)(hs:l'.Sublist l):Fr n l' a:=⟨h.size,h.defers,fun x hx=>h.get x (hs.subset hx)⟩
theorem Fr.put(h:Fr n l a){d:Nat}(v:Value)(hk:Kept d l' l)(hd:d<n.n):Fr n ((d,v)::l') (a.put (some d) v):=by
 refine ⟨by simp[Act.put,h.size],by simp[Act.put,h.defers],fun x hx => ?_⟩
 have hs:d<a.tmps.size:=by rw[h.size];exact hd
 rcases List.mem_cons.1 hx with rfl | hx
 ·simp[Act.put,hs]
 ·have hne:x.1≠d:=by
   have:=List.all_eq_true.1 hk.ne x hx
   simpa using this
  have h1:=h.get x (hk.sub.subset hx)
  simp only[Act.put,Array.getD_eq_getD_getElem?]at h1 ⊢
  rw[Array.getElem?_setIfInBounds_ne (Ne.symm hne)]
  exact h1
theorem Fr.of(h:Fr n l a)(hs:∀ x∈l',x∈l):Fr n l' a:=⟨h.size,h.defers,fun x hx=>h.get x (hs x hx)⟩
end
def js:Nat→List Value→List (Nat×Value)
 | _,[]=>[]
 | k,v::r=>(k,v)::js (k+1) r
theorem lH:∀ (vs:List Value) (k:Nat) (x:Nat×Value),x∈js k vs → ∃ i,x.1=k+i∧vs[i]?=some x.2
 | [],_,_,h=>by cases h
 | v::r,k,x,h=>by
  rcases List.mem_cons.1 h with rfl | h
  ·exact ⟨0,rfl,rfl⟩
  ·obtain ⟨i,h1,h2⟩:=lH r (k+1) x h
   exact ⟨i+1,by omega,by simpa using h2⟩
theorem vK{P:Program}{f:FuncId}{fn:Func}{c:Code}{args:Array Value}{w:World}{R:Ending→World→Prop}{n:Nat}{l:List (Nat×Value)}(hf:P.funcs[f]?=some fn)(hb:fn.body=some c)(hn:fn.ntmps=n)(hsz:args.size≤n)(hl:js 0 args.toList=l)
  (h:∀ a,Fr ⟨n,[]⟩ l a→c.wp P (bodyPost P fn R) a w):Calls P f args w R:=by
 refine calls_of_wp hf hb (h _ ⟨?_,rfl,fun x hx => ?_⟩)
 ·simp[hn];omega
 ·subst hl
  obtain ⟨i,h1,h2⟩:=lH _ _ _ hx
  rw[Nat.zero_add]at h1
  have hi:i<args.size:=by
   have:=(List.getElem?_eq_some_iff.1 h2).1
   simpa using this
  rw[h1]
  simp only[Array.getD_eq_getD_getElem?]
  rw[Array.getElem?_append_left hi,← Array.getElem?_toList,h2]
  rfl
section
variable{P:Program}{Q:Exit→Act→World→Prop}{a:Act}{w:World}{n:Sz}{l l':List (Nat×Value)}
theorem AU{σ:Type}{c:Code}(I:σ→Act→World→Prop)(μ:σ→Nat)(x0:σ)(h0:I x0 a w)
  (round:∀ x a w,I x a w→c.wp P (Exit.then (fun a' w' => ∃ x',I x' a' w'∧μ x'<μ x) Q) a w):(Code.loop c).wp P Q a w:=by
 intro b k cs
 have key:∀ n x a w,μ x=n→I x a w →
   ∃ e a' w',Q e a' w'∧Arrives P (lone (b.at a (.code c::.inLoop c::k)) cs w) b k cs e a' w':=by
  intro n
  induction n using Nat.strongRecOn with
  | _ n ih =>
   intro x a w hn hI
   obtain ⟨e,a₁,w₁,hq,harr⟩:=round x a w hI b (.inLoop c::k) cs
   cases e with
   | normal =>
    obtain ⟨x',hI₁,hlt⟩:=hq
    obtain ⟨e₂,a₂,w₂,hq₂,harr₂⟩:=ih (μ x') (hn▸hlt) x' a₁ w₁ rfl hI₁
    exact ⟨e₂,a₂,w₂,hq₂,.of_steps (Steps.trans harr (.one step_inLoop)) harr₂⟩
   | exit id=>exact ⟨_,a₁,w₁,hq,.pass (x:=.inLoop c) rfl (fun _ _=>.inl (by simp)) harr⟩
   | goto l=>exact ⟨_,a₁,w₁,hq,.pass (x:=.inLoop c) rfl (fun _ _=>.inl (by simp)) harr⟩
   | ret=>exact ⟨_,a₁,w₁,hq,.pass (x:=.inLoop c) rfl (fun _ _=>.inl (by simp)) harr⟩
   | panic ch=>exact ⟨_,a₁,w₁,hq,.pass (x:=.inLoop c) rfl (fun _ _=>.inl (by simp)) harr⟩
   | outgrown=>exact ⟨_,a₁,w₁,hq,.pass (x:=.inLoop c) rfl (fun _ _=>.inl (by simp)) harr⟩
 obtain ⟨e,a',w',hq,harr⟩:=key _ x0 a w rfl h0
 exact ⟨e,a',w',hq,.of_steps (.one step_loop) harr⟩
end
abbrev Hl:=List (Nat×Obj)
def HH(w0:World)(R:List Nat)(Hs:List Hl)(w:World):Prop:=Hold w0 R Hs.flatten w
structure Has(E:Hl)(w:World):Prop where
 blk:∀ x∈E,w.heap[x.1]?=some x.2
 ne:E.Pairwise fun x y=>x.1≠y.1
abbrev bks(E:Hl):List Nat:=E.map (·.1)
section
variable{w0 w w':World}{R:List Nat}{L L' E E':Hl}{Hs Hs':List Hl}
theorem Has.nil(w:World):Has [] w:=⟨fun _ h=>(by cases h),.nil⟩
theorem Has.of(h:Has E w)(hs:E'.Sublist E):Has E' w:=⟨fun x hx=>h.blk x (hs.subset hx),h.ne.sublist hs⟩
theorem Has.hold(h:Has E w):Hold w (bks E) E w :=
 ⟨rfl,rfl,rfl,Nat.le_refl _,h.blk,h.ne,fun _ hx=>.inr (List.mem_map_of_mem hx),fun _ _ _=>rfl⟩
theorem Hold.has(h:Hold w0 R L w):Has L w:=⟨h.blk,h.ne⟩
theorem Has.start(h:Has E w):HH w (bks E) [E] w:=by
 unfold HH
 rw[List.flatten_cons,List.flatten_nil,List.append_nil]
 exact h.hold
theorem Hold.frameE(h:Hold w0 R (L++(E++L')) w)(hE:Hold w (bks E) E' w'):Hold w0 R (L++(E'++L')) w':=by
 have hne:=List.pairwise_append.1 h.ne
 have hne2:=List.pairwise_append.1 hne.2.1
 have hold:∀ x,(x∈L∨x∈L')→x.1 ∉ bks E:=fun x hx hm=>by
  obtain ⟨y,hy,e⟩:=List.mem_map.1 hm
  rcases hx with hx | hx
  ·exact hne.2.2 x hx y (List.mem_append_left _ hy) e.symm
  ·exact hne2.2.2 y hy x hx e
 have hin:∀ x,(x∈L∨x∈L')→x∈L++(E++L'):=fun x hx=>by
  rcases hx with hx | hx
  ·exact List.mem_append_left _ hx
  ·exact List.mem_append_right _ (List.mem_append_right _ hx)
 have hblk:∀ x,(x∈L∨x∈L')→w'.heap[x.1]?=some x.2:=fun x hx =>
  (hE.frame x.1 (h.lt (hin x hx)) (hold x hx)).trans (h.blk x (hin x hx))
 have hapart:∀ x∈E',∀ y,(y∈L∨y∈L')→x.1≠y.1:=fun x hx y hy e=>by
  rcases hE.own x hx with h1 | h1
  ·have:=h.lt (hin y hy)
   omega
  ·exact hold y hy (e▸h1)
 refine ⟨hE.os.trans h.os,hE.tape.trans h.tape,hE.output.trans h.output,Nat.le_trans h.size hE.size,fun x hx => ?_,?_,fun x hx => ?_,fun k hk hkR => ?_⟩
 ·rcases List.mem_append.1 hx with hx | hx
  ·exact hblk x (.inl hx)
  ·rcases List.mem_append.1 hx with hx | hx
   ·exact hE.blk x hx
   ·exact hblk x (.inr hx)
 ·refine List.pairwise_append.2 ⟨hne.1,List.pairwise_append.2 ⟨hE.ne,hne2.2.1,fun x hx y hy=>hapart x hx y (.inr hy)⟩,fun x hx y hy => ?_⟩
  rcases List.mem_append.1 hy with hy | hy
  ·exact (hapart y hy x (.inl hx)).symm
  ·exact hne.2.2 x hx y (List.mem_append_right _ hy)
 ·rcases List.mem_append.1 hx with hx | hx
  ·exact h.own x (hin x (.inl hx))
  ·rcases List.mem_append.1 hx with hx | hx
   ·rcases hE.own x hx with h1 | h1
    ·exact .inl (Nat.le_trans h.size h1)
    ·obtain ⟨y,hy,e⟩:=List.mem_map.1 h1
     rw[← e]
     exact h.own y (List.mem_append_right _ (List.mem_append_left _ hy))
   ·exact h.own x (hin x (.inr hx))
 ·have hnE:k ∉ bks E:=fun hm=>by
   obtain ⟨y,hy,e⟩:=List.mem_map.1 hm
   rcases h.own y (List.mem_append_right _ (List.mem_append_left _ hy)) with h1 | h1
   ·omega
   ·exact hkR (e▸h1)
  exact (hE.frame k (Nat.lt_of_lt_of_le hk h.size) hnE).trans (h.frame k hk hkR)
theorem ec:∀ {Hs:List Hl} {i:Nat} {E:Hl},Hs[i]?=some E → ∃ L L',Hs.flatten=L++(E++L') ∧ ∀ E',(Hs.set i E').flatten=L++(E'++L')
 | [],i,E,h=>by simp at h
 | H::r,0,E,h=>by
  obtain rfl:H=E:=by simpa using h
  exact ⟨[],r.flatten,by simp,fun E'=>by simp⟩
 | H::r,i+1,E,h=>by
  obtain ⟨L,L',h1,h2⟩:=ec (Hs:=r) (i:=i) (E:=E) (by simpa using h)
  exact ⟨H++L,L',by simp[h1],fun E'=>by simp[h2]⟩
theorem HH.turn(h:HH w0 R Hs w)(i:Nat)(hi:Hs[i]?=some E)(hE:Hold w (bks E) E' w'):HH w0 R (Hs.set i E') w':=by
 obtain ⟨L,L',h1,h2⟩:=ec hi
 unfold HH at *
 rw[h1]at h
 rw[h2]
 exact h.frameE hE
theorem HH.add(h:HH w0 R Hs w)(hE:Hold w [] E' w'):HH w0 R (Hs++[E']) w':=by
 unfold HH at *
 have h1:Hold w0 R (Hs.flatten++([]++[])) w:=by simpa using h
 have h2:=h1.frameE (E:=[]) hE
 simpa using h2
theorem HH.has(h:HH w0 R Hs w)(i:Nat)(hi:Hs[i]?=some E):Has E w:=by
 obtain ⟨L,L',h1,_⟩:=ec hi
 have h2:=Hold.has h
 rw[h1]at h2
 exact h2.of ((List.sublist_append_left E L').trans (List.sublist_append_right L _))
theorem HH.blk(h:HH w0 R Hs w)(i:Nat){g:Nat}{o:Obj}(hi:Hs[i]?=some [(g,o)]):w.heap[g]?=some o:=(h.has i hi).blk (g,o) (by simp)
theorem HH.cast(h:HH w0 R Hs w)(e:Hs.flatten=Hs'.flatten):HH w0 R Hs' w:=by unfold HH at *;rw[← e];exact h
theorem HH.perm(h:HH w0 R Hs w)(e:Hs.flatten.Perm Hs'.flatten):HH w0 R Hs' w:=Hold.perm h e
theorem jt{Hs Hs':List Hl}(e:Hs'.Sublist Hs):Hs'.flatten.Sublist Hs.flatten:=by
 induction e with
 | slnil=>exact .slnil
 | cons a _ ih=>rw[List.flatten_cons];exact ih.trans (List.sublist_append_right _ _)
 | cons_cons a _ ih=>rw[List.flatten_cons,List.flatten_cons];exact ih.append_left a
theorem HH.drop(h:HH w0 R Hs w)(e:Hs'.Sublist Hs):HH w0 R Hs' w:=Hold.sub h (jt e)
theorem HH.below(h:HH w0 R Hs w)(hb:Below w.heap.size w w'):HH w0 R Hs w':=Hold.call h hb
theorem HH.drew(h:HH w0 R Hs w):HH w0 R Hs w.drew:=Hold.drew h
theorem HH.toBelow(h:HH w0 [] Hs w):Below w0.heap.size w0 w:=Hold.toBelow h
theorem HH.old(h:HH w0 R Hs w){g:Nat}(hg:g<w0.heap.size)(hR:g ∉ R):w.heap[g]?=w0.heap[g]?:=Hold.frame h g hg hR
theorem HH.hold(h:HH w0 R [E] w):Hold w0 R E w:=by
 unfold HH at h
 rw[List.flatten_cons,List.flatten_nil,List.append_nil]at h
 exact h
end
def Out(P:Program)(K:Value→World→Prop):Result Next→Prop
 | .ok (.value v) w=>K v w
 | .ok .skip w=>K undef w
 | .ok (.enter f args) w=>Calls P f args w fun e w' => ∃ v,e=.returned v∧K v w'
 | _=>False
theorem Out.mono{P:Program}{K K':Value→World→Prop}{r:Result Next}(h:Out P K r)(hk:∀ v w,K v w→K' v w):Out P K' r:=by
 cases r with
 | ok x w =>
  cases x with
  | value v=>exact hk _ _ h
  | skip=>exact hk _ _ h
  | enter f args=>exact Calls.mono h fun e w' ⟨v,he,hv⟩=>⟨v,he,hk _ _ hv⟩
  | _=>exact h.elim
 | halt x w=>exact h.elim
theorem Out.wp{P:Program}{o:Oper}{a:Act}{w:World}{next:Act→World→Prop}{Q:Exit→Act→World→Prop}(h:Out P (fun v w'=>next (a.put o.dst v) w') ((execOp a.eval o).run P w)):o.wp P a w next Q:=by
 unfold Oper.wp
 revert h
 generalize (execOp a.eval o).run P w=r
 intro h
 cases r with
 | ok x w' =>
  cases x with
  | value v=>exact h
  | skip=>exact h
  | enter f args =>
   refine Calls.mono h ?_
   rintro e w'' ⟨v,rfl,hv⟩
   exact hv
  | _=>exact h.elim
 | halt x w'=>exact h.elim
def Does(P:Program)(f:FuncId)(args:Array Value)(E:Hl)(Rd:World→Prop)(post:Value→Hl→Prop):Prop :=
 ∀ w,Has E w→Rd w→Calls P f args w fun e w' => ∃ v E',e=.returned v∧post v E'∧Hold w (bks E) E' w'
def cA(P:Program)(a:Act)(o:Oper)(E:Hl)(Rd:World→Prop)(post:Value→Hl→Prop):Prop :=
 ∀ w,Has E w→Rd w→Out P (fun v w' => ∃ E',post v E'∧Hold w (bks E) E' w') ((execOp a.eval o).run P w)
theorem Does.mono{P:Program}{f:FuncId}{args:Array Value}{E:Hl}{Rd Rd':World→Prop}{post post':Value→Hl→Prop}(h:Does P f args E Rd post)(hR:∀ w,Rd' w→Rd w)(hp:∀ v E',post v E'→post' v E'):Does P f args E Rd' post' :=
 fun w hE hw=>(h w hE (hR w hw)).mono fun _ _ ⟨v,E',h1,h2,h3⟩=>⟨v,E',h1,hp v E' h2,h3⟩
theorem Does.small{P:Program}{f:FuncId}{args:Array Value}{E:Hl}{Rd:World→Prop}{post:Value→Hl→Prop}{a:Act}{o:Oper}(h:Does P f args E Rd post)(hr:∀ w,(execOp a.eval o).run P w=.ok (.enter f args) w):cA P a o E Rd post:=fun w hE hw=>by
 rw[hr w]
 exact (h w hE hw).mono fun _ _ ⟨v,E',h1,h2,h3⟩=>⟨v,h1,E',h2,h3⟩
section
variable{P:Program}{ops:Array Oper}{Q:Exit→Act→World→Prop}{o:Oper}{rest:List Oper}{a:Act}{w0 w:World}{n:Sz}{l l':List (Nat×Value)}{R:List Nat}{Hs:List Hl}{E:Hl}{Rd:World→Prop}{post:Value→Hl→Prop}{d:Nat}{v:Value}
theorem xU(hF:Fr n l a)(hd:o.dst=some d)(hg:Region.wanted o (yielded ops a.tmps)=true)(hr:(execOp a.eval o).run P w=.ok (.value v) w)(hk:Kept d l' l)(hdn:d<n.n)
  (h:∀ a',Fr n ((d,v)::l') a'→wpList P ops Q rest a' w):wpList P ops Q (o::rest) a w:=by
 refine wpList_step fun K hK => ?_
 rw[if_pos hg]
 unfold Oper.wp
 rw[hr]
 show K (a.put o.dst v) w
 rw[hd]
 exact hK _ _ (h _ (hF.put v hk hdn))
theorem AV(hF:Fr n l a)(hd:o.dst=some d)(hg:Region.wanted o (yielded ops a.tmps)=false)(hk:Kept d l' l)(hdn:d<n.n)
  (h:∀ a',Fr n l' a'→wpList P ops Q rest a' w):wpList P ops Q (o::rest) a w:=by
 refine wpList_step fun K hK => ?_
 rw[if_neg (by rw[hg];simp),hd]
 exact hK _ _ (h _ ((hF.put undef hk hdn).sub (List.sublist_cons_self _ _)))
theorem AW(i:Nat)(hF:Fr n l a)(hH:HH w0 R Hs w)(hi:Hs[i]?=some E)(hs:cA P a o E Rd post)(hRd:Rd w)(hd:o.dst=some d)(hg:Region.wanted o (yielded ops a.tmps)=true)(hk:Kept d l' l)(hdn:d<n.n)
  (h:∀ v E' a' w',post v E'→Fr n ((d,v)::l') a'→HH w0 R (Hs.set i E') w'→wpList P ops Q rest a' w'):wpList P ops Q (o::rest) a w:=by
 refine wpList_step fun K hK => ?_
 rw[if_pos hg]
 refine Out.wp ((hs w (hH.has i hi) hRd).mono ?_)
 rintro v w' ⟨E',h1,h2⟩
 rw[hd]
 exact hK _ _ (h v E' _ w' h1 (hF.put v hk hdn) (hH.turn i hi h2))
theorem yH(i:Nat)(hH:HH w0 R Hs w)(hi:Hs[i]?=some E)(hs:cA P a o E Rd post)(hRd:Rd w)(hd:o.dst=none)(hg:Region.wanted o (yielded ops a.tmps)=true)
  (h:∀ v E' w',post v E'→HH w0 R (Hs.set i E') w'→wpList P ops Q rest a w'):wpList P ops Q (o::rest) a w:=by
 refine wpList_step fun K hK => ?_
 rw[if_pos hg]
 refine Out.wp ((hs w (hH.has i hi) hRd).mono ?_)
 rintro v w' ⟨E',h1,h2⟩
 rw[hd]
 exact hK _ _ (h v E' w' h1 (hH.turn i hi h2))
theorem AX(hF:Fr n l a)(hH:HH w0 R Hs w)(hs:cA P a o [] Rd post)(hRd:Rd w)(hd:o.dst=some d)(hg:Region.wanted o (yielded ops a.tmps)=true)(hk:Kept d l' l)(hdn:d<n.n)
  (h:∀ v E' a' w',post v E'→Fr n ((d,v)::l') a'→HH w0 R (Hs++[E']) w'→wpList P ops Q rest a' w'):wpList P ops Q (o::rest) a w:=by
 refine wpList_step fun K hK => ?_
 rw[if_pos hg]
 refine Out.wp ((hs w (Has.nil w) hRd).mono ?_)
 rintro v w' ⟨E',h1,h2⟩
 rw[hd]
 exact hK _ _ (h v E' _ w' h1 (hF.put v hk hdn) (hH.add h2))
end
theorem Fr.wanted{n:Sz}{l:List (Nat×Value)}{a:Act}{ops:Array Oper}{o:Oper}(hF:Fr n l a)(i:Nat){j k:Nat}{b c:Bool}(hi:l[i]?=some (k,.bool b))(hd:(ops[j]?).bind (·.dst)=some k)(hg:o.guard=some (j,c))(hk:k<n.n):Region.wanted o (yielded ops a.tmps)=(b == c):=by
 have h1:=hF.at i hi
 have hk':k<a.tmps.size:=by rw[hF.size];exact hk
 have h2:a.tmps[k]?=some (.bool b):=by
  rw[Array.getD_eq_getD_getElem?,Array.getElem?_eq_getElem hk']at h1
  rw[Array.getElem?_eq_getElem hk']
  simpa using h1
 unfold Region.wanted yielded
 rw[hg]
 simp only[hd,Option.bind_some,h2]
 cases b<;>cases c<;>rfl
section
variable{P:Program}{a:Act}{o:Oper}{w:World}{v vx vy:Value}{x y:Operand}{t t2:TypeId}
theorem bo(ho:o.op=.move x)(hx:a.eval x=v):(execOp a.eval o).run P w=.ok (.value v) w:=by
 unfold execOp;simp only[ho,hx,Sem.run_pure]
theorem fY(ho:o.op=.assign x)(hx:a.eval x=v):(execOp a.eval o).run P w=.ok (.value v) w:=by
 unfold execOp;simp only[ho,hx,Sem.run_pure]
theorem cB{c:Operand}(ho:o.op=.pick c x y)(hc:a.eval c=.bool true)(hx:a.eval x=v):(execOp a.eval o).run P w=.ok (.value v) w:=by
 unfold execOp;simp[ho,hx,hc,asBool]
theorem cv{c:Operand}(ho:o.op=.pick c x y)(hc:a.eval c=.bool false)(hy:a.eval y=v):(execOp a.eval o).run P w=.ok (.value v) w:=by
 unfold execOp;simp[ho,hy,hc,asBool]
theorem eR{op:BinOp}{k:IntKind}{m j:Int}(ho:o.op=.binOp op t x y t2)(hx:a.eval x=.int k m)(hy:a.eval y=.int k j)(hr:(binOp op t (.int k m) (.int k j)).run P w=.ok v w):(execOp a.eval o).run P w=.ok (.value v) w:=by
 unfold execOp;simp[ho,hx,hy,eqGuard,hr]
theorem ny{k:IntKind}{m j z:Int}(ho:o.op=.binOp .add t x y t2)(hx:a.eval x=.int k m)(hy:a.eval y=.int k j)(hz:k.wrap (m+j)=z):(execOp a.eval o).run P w=.ok (.value (.int k z)) w :=
 eR ho hx hy (by simp[binOp,Op.intArith,hz])
theorem ju{k:IntKind}{m j z:Int}(ho:o.op=.binOp .sub t x y t2)(hx:a.eval x=.int k m)(hy:a.eval y=.int k j)(hz:k.wrap (m-j)=z):(execOp a.eval o).run P w=.ok (.value (.int k z)) w :=
 eR ho hx hy (by simp[binOp,Op.intArith,hz])
theorem ti{k:IntKind}{m j z:Int}(ho:o.op=.binOp .mul t x y t2)(hx:a.eval x=.int k m)(hy:a.eval y=.int k j)(hz:k.wrap (m*j)=z):(execOp a.eval o).run P w=.ok (.value (.int k z)) w :=
 eR ho hx hy (by simp[binOp,Op.intArith,hz])
theorem cM{k:IntKind}{m j z:Int}(ho:o.op=.binOp .quo t x y t2)(hx:a.eval x=.int k m)(hy:a.eval y=.int k j)(h0:j≠0)(hz:k.wrap (m.tdiv j)=z):(execOp a.eval o).run P w=.ok (.value (.int k z)) w :=
 eR ho hx hy (by simp[binOp,Op.intDiv,hz,h0])
theorem bm{k:IntKind}{m j z:Int}(ho:o.op=.binOp .rem t x y t2)(hx:a.eval x=.int k m)(hy:a.eval y=.int k j)(h0:j≠0)(hz:m.tmod j=z):(execOp a.eval o).run P w=.ok (.value (.int k z)) w :=
 eR ho hx hy (by simp[binOp,Op.intDiv,hz,h0])
theorem jv{k:IntKind}{m j:Int}{b:Bool}(ho:o.op=.binOp .lss t x y t2)(hx:a.eval x=.int k m)(hy:a.eval y=.int k j)(hb:decide (m<j)=b):(execOp a.eval o).run P w=.ok (.value (.bool b)) w :=
 eR ho hx hy (by subst hb;simp[binOp,Op.intCmp])
theorem xV{k:IntKind}{m j:Int}{b:Bool}(ho:o.op=.binOp .leq t x y t2)(hx:a.eval x=.int k m)(hy:a.eval y=.int k j)(hb:decide (m≤j)=b):(execOp a.eval o).run P w=.ok (.value (.bool b)) w :=
 eR ho hx hy (by subst hb;simp[binOp,Op.intCmp])
theorem nB{k:IntKind}{m j:Int}{b:Bool}(ho:o.op=.binOp .gtr t x y t2)(hx:a.eval x=.int k m)(hy:a.eval y=.int k j)(hb:decide (m > j)=b):(execOp a.eval o).run P w=.ok (.value (.bool b)) w :=
 eR ho hx hy (by subst hb;simp[binOp,Op.intCmp])
theorem fL{k:IntKind}{m j:Int}{b:Bool}(ho:o.op=.binOp .geq t x y t2)(hx:a.eval x=.int k m)(hy:a.eval y=.int k j)(hb:decide (m ≥ j)=b):(execOp a.eval o).run P w=.ok (.value (.bool b)) w :=
 eR ho hx hy (by subst hb;simp[binOp,Op.intCmp])
theorem fN{k:IntKind}{m j:Int}{b:Bool}(ho:o.op=.binOp .eql t x y t2)(hx:a.eval x=.int k m)(hy:a.eval y=.int k j)(hb:decide (m=j)=b):(execOp a.eval o).run P w=.ok (.value (.bool b)) w :=
 eR ho hx hy (by subst hb;simp[binOp,Op.intCmp];rfl)
theorem ic{k:IntKind}{m j:Int}{b:Bool}(ho:o.op=.binOp .neq t x y t2)(hx:a.eval x=.int k m)(hy:a.eval y=.int k j)(hb:decide (m≠j)=b):(execOp a.eval o).run P w=.ok (.value (.bool b)) w :=
 eR ho hx hy (by subst hb;simp[binOp,Op.intCmp];rfl)
theorem tj(p q:ByteArray):(p.toList == q.toList)=decide (p=q):=by
 rcases p with ⟨⟨p⟩⟩
 rcases q with ⟨⟨q⟩⟩
 rw[ByteArray.toList_mk,ByteArray.toList_mk,Bool.eq_iff_iff]
 simp
theorem rX(d:Nat){p:Option Addr}{e:TypeId}(hu:P.underlying t=some (.pointer e)):(Op.equalIn (d+1) t (.pointer p) (.pointer none)).run P w=.ok p.isNone w:=by
 cases p<;>simp[Op.equalIn,run_underlying hu]
theorem qa{e:TypeId}{p:Option Addr}{b:Bool}(ho:o.op=.binOp .eql t x y t2)(hu:P.underlying t=some (.pointer e))(hx:a.eval x=.pointer p)(hy:a.eval y=.pointer none)(hb:p.isNone=b):(execOp a.eval o).run P w=.ok (.value (.bool b)) w:=by
 subst hb
 have h:(Op.equal t (.pointer p) (.pointer none)).run P w=.ok p.isNone w:=rX 9999 hu
 have h2:(binOp .eql t (.pointer p) (.pointer none)).run P w=.ok (.bool p.isNone) w:=by
  simp only[binOp,Sem.run_bind,h,Result.andThen_ok,Sem.run_pure]
 unfold execOp
 simp[ho,hx,hy,eqGuard,h2]
theorem AY{p q:ByteArray}{b:Bool}(ho:o.op=.binOp .eql t x y t2)(hx:a.eval x=.string p)(hy:a.eval y=.string q)(hb:decide (p=q)=b):(execOp a.eval o).run P w=.ok (.value (.bool b)) w:=by
 subst hb
 unfold execOp;simp[ho,hx,hy,eqGuard,binOp,Op.stringOp,tj]
theorem AZ{p q:ByteArray}{b:Bool}(ho:o.op=.binOp .neq t x y t2)(hx:a.eval x=.string p)(hy:a.eval y=.string q)(hb:decide (p≠q)=b):(execOp a.eval o).run P w=.ok (.value (.bool b)) w:=by
 subst hb
 unfold execOp;simp[ho,hx,hy,eqGuard,binOp,Op.stringOp,tj]
theorem ej{b c:Bool}(ho:o.op=.unOp .not t x)(hx:a.eval x=.bool b)(hc:(!b)=c):(execOp a.eval o).run P w=.ok (.value (.bool c)) w:=by
 subst hc
 unfold execOp;simp[ho,hx,Op.unary]
theorem oS{ad:Addr}(ho:o.op=.nilCheck x)(hx:a.eval x=.pointer (some ad)):(execOp a.eval o).run P w=.ok (.value (.pointer (some ad))) w:=by
 unfold execOp;simp[ho,hx]
theorem rY{i:Nat}{vs:Array Value}(ho:o.op=.extract x i)(hx:a.eval x=.tuple vs)(hi:vs[i]?=some v):(execOp a.eval o).run P w=.ok (.value v) w:=by
 unfold execOp;simp[ho,hx,Instr.extract,hi]
theorem fj{e ty:TypeId}{A:Option Addr}{n c:Nat}(ho:o.op=.call { callee:=.builtin .len,args := #[x],argTypes := #[ty] })(hu:P.underlying ty=some (.slice e))(hx:a.eval x=.slice A n c):(execOp a.eval o).run P w=.ok (.value (.int .i64 (n:Int))) w:=by
 unfold execOp;simp[ho,hx,resolve,invoke,builtin,Builtin.len_,run_underlying hu,goInt]
theorem Ba{k:IntKind}{m j z:Int}{ts:Array TypeId}(ho:o.op=.call { callee:=.builtin .min,args := #[x,y],argTypes:=ts })(hx:a.eval x=.int k m)(hy:a.eval y=.int k j)(hz:min m j=z):(execOp a.eval o).run P w=.ok (.value (.int k z)) w:=by
 subst hz
 have e:(if j<m then j else m)=min m j:=by split<;>omega
 unfold execOp;simp[ho,hx,hy,resolve,invoke,builtin,Builtin.min_,Builtin.min2,e]
def j7(P:Program)(s:TypeId)(f:Nat):Option Nat :=
 match P.underlying s with
 | some (.struct fs)=>match fs[f]? with
  | some fd=>match P.info? fd.type with
   | some i=>if i.size=0 then none else some fd.offset
   | none=>none
  | none=>none
 | _=>none
theorem vL{s f off b c:Nat}(ho:o.op=.fieldAddr s x f)(hx:a.eval x=.pointer (some ⟨b,c,none⟩))(hf:j7 P s f=some off):(execOp a.eval o).run P w=.ok (.value (.pointer (some ⟨b,c+off,none⟩))) w:=by
 unfold j7 at hf
 split at hf
 ·rename_i fs hu
  split at hf
  ·rename_i fd hfd
   split at hf
   ·rename_i i hi
    split at hf
    ·cases hf
    ·rename_i h0
     obtain rfl:=Option.some.inj hf
     have hadd:(⟨b,c,none⟩:Addr).add fd.offset=⟨b,c+fd.offset,none⟩:=Addr.add_mid ..
     unfold execOp
     simp[ho,hx,Instr.fieldAt,run_underlying hu,hfd,Instr.sureAddr,fieldPlace,sizeOf,typeInfo,hi,h0,hadd]
   ·cases hf
  ·cases hf
 ·cases hf
theorem ig{e ty:TypeId}{b off n c i sz:Nat}{k:IntKind}{j:Int}(ho:o.op=.indexAddr ty x y)(hu:P.underlying ty=some (.slice e))(hs:(P.info? e).map (·.size)=some sz)(hx:a.eval x=.slice (some ⟨b,off,none⟩) n c)(hy:a.eval y=.int k j)(hj:j=(i:Int))(hi:i<n):
  (execOp a.eval o).run P w=.ok (.value (.pointer (some ⟨b,off+i*sz,none⟩))) w:=by
 subst hj
 obtain ⟨ie,hie,rfl⟩:=Option.map_eq_some_iff.1 hs
 have hadd:(⟨b,off,none⟩:Addr).add (i*ie.size)=⟨b,off+i*ie.size,none⟩:=Addr.add_mid ..
 unfold execOp
 simp[ho,hx,hy,Instr.indexAt,asIntOf,run_underlying hu,sizeOf,typeInfo,hie,hadd,hi]
theorem tk{e ty:TypeId}{b off n i sz:Nat}{k:IntKind}{j:Int}(ho:o.op=.indexAddr ty x y)(hu:P.underlying ty=some (.array n e))(hs:(P.info? e).map (·.size)=some sz)(hx:a.eval x=.pointer (some ⟨b,off,none⟩))(hy:a.eval y=.int k j)(hj:j=(i:Int))(hi:i<n):
  (execOp a.eval o).run P w=.ok (.value (.pointer (some ⟨b,off+i*sz,none⟩))) w:=by
 subst hj
 obtain ⟨ie,hie,rfl⟩:=Option.map_eq_some_iff.1 hs
 have hadd:(⟨b,off,none⟩:Addr).add (i*ie.size)=⟨b,off+i*ie.size,none⟩:=Addr.add_mid ..
 unfold execOp
 simp[ho,hx,hy,Instr.indexAt,Instr.sureAddr,asIntOf,run_underlying hu,sizeOf,typeInfo,hie,hadd,hi]
theorem dE{e:TypeId}{sz:Nat}(hs:(P.info? e).map (·.size)=some sz)(w:World):(sizeOf e).run P w=.ok sz w:=by
 obtain ⟨ie,hie,rfl⟩:=Option.map_eq_some_iff.1 hs
 simp[sizeOf,typeInfo,hie]
theorem mw{ty e:TypeId}(hu:P.underlying ty=some (.slice e)):P.elem ty=e:=by simp[Program.elem,hu]
theorem fZ{ty e:TypeId}{n:Nat}(hu:P.underlying ty=some (.array n e)):P.elem ty=e:=by simp[Program.elem,hu]
theorem ii{ty e:TypeId}{n:Nat}(hu:P.underlying ty=some (.array n e)):P.arrayLen ty=n:=by simp[Program.arrayLen,hu]
variable{e ty:TypeId}{b off n c l h sz:Nat}{kl kh:IntKind}{jl jh:Int}{xl xh:Operand}
theorem aV(ho:o.op=.slice ty x none none none)(hu:P.underlying ty=some (.array n e))(hs:(P.info? e).map (·.size)=some sz)(hx:a.eval x=.pointer (some ⟨b,off,none⟩)):
  (execOp a.eval o).run P w=.ok (.value (.slice (some ⟨b,off,none⟩) n n)) w:=by
 have he:=fZ hu
 have hn:=ii hu
 have hu':P.underlying ty=some (.array (P.arrayLen ty) (P.elem ty)):=by rw[he,hn];exact hu
 unfold execOp
 simp only[ho,Option.map_none,hx,Sem.run_bind,Sem.run_pure,run_sliceAt_array_all w ty ⟨b,off,none⟩ hu',he,hn,dE hs,Result.andThen_ok,slicedAt]
 simp[Addr.add]
theorem bS{m:Nat}{A:Option Addr}(ho:o.op=.sliceToArrayPointer ty x)(hu:P.underlying ty=some (.array m e))(hx:a.eval x=.slice A n c)(hn:m≤n):
  (execOp a.eval o).run P w=.ok (.value (.pointer A)) w:=by
 unfold execOp
 simp[ho,hx,Instr.arrayAt,run_underlying hu,show ¬ n<m by omega]
inductive Evs(a:Act):List Operand→List Value→Prop where
 | nil:Evs a [] []
 | cons {x:Operand} {v:Value} {xs:List Operand} {vs:List Value} (h:a.eval x=v) (r:Evs a xs vs):Evs a (x::xs) (v::vs)
theorem Evs.map{xs:List Operand}{vs:List Value}(h:Evs a xs vs):xs.map a.eval=vs:=by
 induction h with
 | nil=>rfl
 | cons h _ ih=>rw[List.map_cons,h,ih]
theorem oT{f:FuncId}{fn:Func}{xs:List Operand}{vs:List Value}{ts:Array TypeId}(ho:o.op=.call { callee:=.value (.func f),args:=xs.toArray,argTypes:=ts })(hf:P.funcs[f]?=some fn)(hn:(fn.name == "runtime.NumGoroutine")=false)(hb:fn.body.isNone=false)
  (hx:Evs a xs vs) (w:World):(execOp a.eval o).run P w=.ok (.enter f vs.toArray) w:=by
 have e:=hx.map
 unfold execOp
 simp only[ho,resolve,Act.eval,Deferred.ofValue,Sem.run_bind,Sem.run_pure,Result.andThen_ok,invoke,callFunc,run_program,hf,hn,hb,List.map_toArray]
 simp[e]
end
theorem dr{v:Value}(h1:v.oneCell'=true):v.cells = #[v]:=by cases v<;>first | rfl | cases h1
theorem fk:∀ (vs:List Value) (cs:Array Value) (o:Nat),(bJ cs o vs).size=cs.size
 | [],_,_=>rfl
 | v::r,cs,o=>by
  show (bJ (cs.setIfInBounds o v) (o+1) r).size=_
  rw[fk r];simp
theorem cr:∀ (vs:List Value) (cs:Array Value) (o k:Nat),(bJ cs o vs)[k]?=if o≤k∧k<o+vs.length∧k<cs.size then vs[k-o]? else cs[k]?
 | [],cs,o,k=>by
  have:¬ (o≤k∧k<o+([]:List Value).length∧k<cs.size):=by simp;omega
  rw[if_neg this];rfl
 | v::r,cs,o,k=>by
  show (bJ (cs.setIfInBounds o v) (o+1) r)[k]?=_
  rw[cr r]
  simp only[Array.size_setIfInBounds,List.length_cons]
  by_cases hk:k<cs.size
  ·by_cases h1:o+1≤k∧k<o+1+r.length
   ·rw[if_pos ⟨h1.1,h1.2,hk⟩,if_pos (by omega)]
    rw[show k-o=(k-(o+1))+1 by omega,List.getElem?_cons_succ]
   ·rw[if_neg (fun h=>h1 ⟨h.1,h.2.1⟩)]
    by_cases h2:o=k
    ·subst h2
     rw[if_pos (by omega),Array.getElem?_setIfInBounds_self_of_lt hk,Nat.sub_self]
     rfl
    ·rw[if_neg (by omega),Array.getElem?_setIfInBounds_ne h2]
  ·rw[if_neg (by omega),if_neg (by omega),Array.getElem?_eq_none (by simp;omega),Array.getElem?_eq_none (by omega)]
section
variable{P:Program}{a:Act}{o:Oper}{w w0:World}{R:List Nat}{Hs:List Hl}{v vx vy:Value}{x y:Operand}{t ty e:TypeId}{g off:Nat}{cs cs':Array Value}
theorem qb(ho:o.op=.load ty x)(hx:a.eval x=.pointer (some ⟨g,off,none⟩))(hdd:(P.underlying ty).map (·.isRow)=some false)(hc:w.cell? ⟨g,off,none⟩=some v):(execOp a.eval o).run P w=.ok (.value v) w:=by
 cases h:P.underlying ty with
 | none=>rw[h]at hdd;cases hdd
 | some d =>
  rw[h]at hdd
  have hd:d.isRow=false:=Option.some.inj hdd
  have hag:(isAgg ty).run P w=.ok false w:=by cases d<;>first | (cases hd;done) | simp[isAgg,run_underlying h]
  unfold execOp
  simp only[ho,hx,Instr.loadAt,Instr.sureAddr,loadVar,Sem.run_bind,Sem.run_pure,Result.andThen_ok,hag,Bool.false_eq_true,if_false,run_load,hc]
theorem nC{xs:Array Value}(ho:o.op=.load ty x)(hx:a.eval x=.pointer (some ⟨g,off,none⟩))(hdd:(P.underlying ty).map (·.isRow)=some true)(hs:(P.info? ty).map (·.size)=some xs.size)(hc:∀ j u,xs[j]?=some u→w.cell? ⟨g,off+j,none⟩=some u):(execOp a.eval o).run P w=.ok (.value (.agg xs)) w:=by
 obtain ⟨d,hu,hdr⟩:=dR hdd
 have hr:=run_loadAt_mid (P:=P) w g off ty xs.toList d (fun j u hj=>hc j u (by rw[Array.getElem?_toList]at hj;exact hj)) hu hdr (by rw[hs,Array.length_toList])
 unfold execOp
 simp only[ho,hx,Sem.run_bind,Sem.run_pure,Result.andThen_ok,hr]
theorem qc(ho:o.op=.store ty x y)(hx:a.eval x=.pointer (some ⟨g,off,none⟩))(hy:a.eval y=v)(hs:(P.info? ty).map (·.size)=some 1)(hn:off<cs.size)(h1:v.oneCell'=true)(hcs:cs.setIfInBounds off v=cs'):
  cA P a o [bl g t cs] (fun _=>True) (fun _ E'=>E'=[bl g t cs']):=fun w hE _=>by
 subst hcs
 have hh:=Has.hold hE
 have hc:=dr h1
 have hth:=Hold.there hh 0 rfl off 1 (by omega)
 have:=run_storeCells_cells (P:=P) g off [v] 0 w (fun j hj=>by simpa using (hth j (by simpa using hj)).1) (fun j hj=>by simpa using (hth j (by simpa using hj)).2) (fun x hx=>by simp at hx;subst hx;exact h1)
 have hr:(Instr.storeAt ty (.pointer (some ⟨g,off,none⟩)) v).run P w=.ok () (w.setCell ⟨g,off,none⟩ v):=by
  cases hq:P.info? ty with
  | none=>simp[hq]at hs
  | some i =>
   have hs:i.size=1:=by simpa[hq] using hs
   simp only[Nat.add_zero]at this
   simp only[Instr.storeAt,Instr.sureAddr,Sem.run_bind,Sem.run_pure,Result.andThen_ok]
   simp[storeVar,sizeOf,typeInfo,hq,hc,hs,this,World.setCells]
 unfold execOp
 simp only[ho,hx,hy,Sem.run_bind,Sem.run_pure,Result.andThen_ok,hr]
 exact ⟨_,rfl,hh.setCell 0 rfl off v⟩
theorem nD{xs:Array Value}(ho:o.op=.store ty x y)(hx:a.eval x=.pointer (some ⟨g,off,none⟩))(hy:a.eval y=.agg xs)(hs:(P.info? ty).map (·.size)=some xs.size)(hn:off+xs.size≤cs.size)(h1:xs.all (·.oneCell')=true)(hcs:bJ cs off xs.toList=cs'):
  cA P a o [bl g t cs] (fun _=>True) (fun _ E'=>E'=[bl g t cs']):=fun w hE _=>by
 subst hcs
 have hh:=Has.hold hE
 have hr:=run_storeAt_mid (P:=P) w g off ty xs (Hold.there hh 0 rfl off xs.size hn) hs h1
 unfold execOp
 simp only[ho,hx,hy,Sem.run_bind,Sem.run_pure,Result.andThen_ok,hr]
 exact ⟨_,rfl,Hold.setCells xs.toList off hh 0 rfl⟩
theorem Has.new(w:World)(ob:Obj):Hold w [] [(w.heap.size,ob)] (w.alloc ob):=by
 have:=(Hold.init w).new ob
 simpa using this
theorem mx{z:Value}(ho:o.op=.alloc ty)(hz:(P.info? ty).bind (·.zero)=some z)(hcs:z.cells=cs):cA P a o [] (fun _=>True) (fun v E' => ∃ g,v=jI g∧E'=[bl g ty cs]):=fun w _ _=>by
 subst hcs
 have hr:(Instr.alloc ty true (.tuple #[])).run P w=.ok (.pointer (some ⟨w.heap.size,0,none⟩)) (w.alloc (.cells z.cells ty)):=by
  cases hq:P.info? ty with
  | none=>simp[hq]at hz
  | some i =>
   have hs:i.zero=some z:=by simpa[hq] using hz
   simp[Instr.alloc,zeroValue,typeInfo,hq,hs,newVar,newRow]
 unfold execOp
 simp only[ho,Sem.run_bind,Sem.run_pure,Result.andThen_ok,hr]
 exact ⟨_,⟨_,rfl,rfl⟩,Has.new w _⟩
theorem xW(ho:o.op=.box ty x)(hx:a.eval x=v)(hcs:v.cells=cs):cA P a o [] (fun _=>True) (fun v E' => ∃ g,v=jI g∧E'=[bl g ty cs]):=fun w _ _=>by
 subst hcs
 have hr:(Instr.box ty v).run P w=.ok (.pointer (some ⟨w.heap.size,0,none⟩)) (w.alloc (.cells v.cells ty)):=by
  simp[Instr.box,newVar,newRow]
 unfold execOp
 simp only[ho,hx,Sem.run_bind,Sem.run_pure,Result.andThen_ok,hr]
 exact ⟨_,⟨_,rfl,rfl⟩,Has.new w _⟩
theorem f0{n sz by_:Nat}{z:Value}{k k2:IntKind}{m m2:Int}(ho:o.op=.makeSlice ty x y)(hu:P.underlying ty=some (.slice e))(hi:(P.info? e).map (fun i=>(i.zero,i.size,i.bytes))=some (some z,sz,by_))(hx:a.eval x=.int k m)(hy:a.eval y=.int k2 m2)(hm:m=(n:Int))(hm2:m2=(n:Int))(hb:by_*n≤281474976710656)(hn:n≤9223372036854775807)(hcs:madeCells z.cells (n*sz)=cs):
  cA P a o [] (fun _=>True) (fun v E' => ∃ g,v=.slice (some ⟨g,0,none⟩) n n∧E'=[bl g e cs]):=fun w _ _=>by
 subst hcs hm hm2
 obtain ⟨i,hi',h2⟩:=Option.map_eq_some_iff.1 hi
 simp only[Prod.mk.injEq]at h2
 obtain ⟨hz,rfl,rfl⟩:=h2
 have hr:=run_make (P:=P) w ty e i z hu hi' hz k k2 n n (by omega) (by omega) (by rw[← Int.natCast_mul];omega) (by omega)
 rw[Int.toNat_natCast]at hr
 unfold execOp
 simp only[ho,hx,hy,Sem.run_bind,Sem.run_pure,Result.andThen_ok,hr]
 exact ⟨_,⟨_,rfl,rfl⟩,Has.new w _⟩
theorem j8(ho:o.op=.buildSlice ty 0 #[])(hu:P.underlying ty=some (.slice e))(hs:((P.info? e).map (·.size)).isSome=true):
  cA P a o [] (fun _=>True) (fun v E' => ∃ g,v=.slice (some ⟨g,0,none⟩) 0 0∧E'=[bl g e #[]]):=fun w _ _=>by
 obtain ⟨sz,hs⟩:=Option.isSome_iff_exists.1 hs
 obtain ⟨i,hi,rfl⟩:=Option.map_eq_some_iff.1 hs
 have hr:(Instr.buildSlice ty 0 #[]).run P w=.ok (.slice (some ⟨w.heap.size,0,none⟩) 0 0) (w.alloc (.cells #[] e)):=by
  simp[Instr.buildSlice,run_underlying hu,sizeOf,typeInfo,hi,newRow,Instr.fill]
  rw[show Array.range 0 = #[] from rfl,Array.map_empty]
 unfold execOp
 simp only[ho,Sem.run_bind,Sem.run_pure,Result.andThen_ok,List.map_toArray,List.map_nil,hr]
 exact ⟨_,⟨_,rfl,rfl⟩,Has.new w _⟩
theorem cx{sz:Nat}{z:Value}{by_:Nat}(ho:o.op=.buildSlice ty 1 #[(0,x)])(hu:P.underlying ty=some (.slice e))(hi:(P.info? e).map (fun i=>(i.zero,i.size,i.bytes))=some (some z,sz,by_))(hx:a.eval x=v)(hv:v.cells.size=sz)(h0:0<sz)(h1:sz≤16777216)(hcs:v.cells=cs):
  cA P a o [] (fun _=>True) (fun v E' => ∃ g,v=.slice (some ⟨g,0,none⟩) 1 1∧E'=[bl g e cs]):=fun w _ _=>by
 subst hcs
 obtain ⟨i,hi',h2⟩:=Option.map_eq_some_iff.1 hi
 simp only[Prod.mk.injEq]at h2
 obtain ⟨hz,hsz,rfl⟩:=h2
 rw[← hsz]at hv h0 h1
 have hf:Instr.fill (fun k=>some (k*i.size,i.size)) ((Array.range (1*i.size)).map (z.cells[·%z.cells.size]!)) [(0,v)]=some v.cells:=by
  obtain ⟨g1,g2⟩:=Great.foldl_set 0 v.cells.toList 0 ((Array.range (1*i.size)).map (z.cells[·%z.cells.size]!))
  unfold Instr.fill
  simp only[hv]
  rw[if_neg (by simp)]
  unfold Instr.fill
  congr 1
  apply Array.ext_getElem?
  intro k
  have g3:=g2 k
  simp only[Nat.zero_mul,Array.toList_zipIdx,← Array.foldl_toList]at g3 ⊢
  rw[g3]
  simp only[Array.length_toList,Array.size_map,Array.size_range,Nat.zero_add,Nat.one_mul,hv,Nat.sub_zero,Array.getElem?_toList]
  by_cases hk:k<i.size
  ·rw[if_pos ⟨Nat.zero_le _,hk,hk⟩]
  ·rw[if_neg (by omega),Array.getElem?_eq_none (by simp;omega),Array.getElem?_eq_none (by omega)]
 have hr:=run_buildSlice (P:=P) w ty e 1 #[(0,v)] v.cells i z hu hi' hz (by omega) (by omega) hf
 unfold execOp
 simp only[ho,Sem.run_bind,Sem.run_pure,Result.andThen_ok,List.map_toArray,List.map_cons,List.map_nil,hx,hr]
 exact ⟨_,⟨_,rfl,rfl⟩,Has.new w _⟩
def OwnS(e:TypeId)(sz:Nat)(v:Value)(n:Nat)(xs:List Value)(E:Hl):Prop :=
 xs.length=n*sz∧((v=.slice none 0 0∧n=0∧E=[]) ∨
  ∃ g cap cur,v=.slice (some ⟨g,0,none⟩) n cap∧E=[bl g e cur]∧n≤cap∧cap≤maxLen∧cur.size=cap*sz∧cur.toList.take (n*sz)=xs)
theorem OwnS.nil(e:TypeId)(sz:Nat):OwnS e sz (.slice none 0 0) 0 [] []:=⟨by simp,.inl ⟨rfl,rfl,rfl⟩⟩
theorem OwnS.slice{sz n:Nat}{xs:List Value}{E:Hl}(h:OwnS e sz v n xs E):∃ A c,v=.slice A n c:=by
 rcases h.2 with ⟨rfl,rfl,_⟩ | ⟨g,cap,cur,rfl,_⟩
 ·exact ⟨_,_,rfl⟩
 ·exact ⟨_,_,rfl⟩
theorem nE(g k:Nat):(⟨g,0,none⟩:Addr).add k=⟨g,k,none⟩:=by rw[Addr.add_mid,Nat.zero_add]
def xX(w:World)(A:Option Addr)(xs:List Value):Prop := ∀ p j u,A=some p→xs[j]?=some u→w.cell? (p.add j)=some u
theorem tl{sz by_ n m c:Nat}{z:Value}{xs news:List Value}{A:Option Addr}{E:Hl}(ho:o.op=.call { callee:=.builtin .append,args := #[x,y],argTypes := #[ty,ty] })
  (hu:P.underlying ty=some (.slice e)) (hi:(P.info? e).map (fun i=>(i.zero,i.size,i.bytes))=some (some z,sz,by_)) (hzs:z.cells.size=sz) (hsz:0<sz)
  (hx:a.eval x=v) (hO:OwnS e sz v n xs E) (hy:a.eval y=.slice A m c) (hA:A=none→m=0∧c=0) (hl:news.length=m*sz) (h1:∀ u∈news,u.oneCell'=true) (h63:n+m≤maxLen) (hbytes:(n+m)*by_≤140737488355328) :
  cA P a o E (fun w=>xX w A news) (fun v' E'=>OwnS e sz v' (n+m) (xs++news) E'∧(v'=.slice none 0 0↔v=.slice none 0 0∧m=0)):=fun w hE hR=>by
 obtain ⟨i,hi',h2⟩:=Option.map_eq_some_iff.1 hi
 simp only[Prod.mk.injEq]at h2
 obtain ⟨hz,rfl,rfl⟩:=h2
 have hsmall:n+m≤9223372036854775807:=by simp only[maxLen]at h63;omega
 have hlen:(xs++news).length=(n+m)*i.size:=by rw[List.length_append,hO.1,hl,Nat.add_mul]
 suffices h:∃ v' w' E',(Builtin.append_ #[ty,ty] o.type #[v,.slice A m c]).run P w=.ok v' w'∧(OwnS e i.size v' (n+m) (xs++news) E'∧(v'=.slice none 0 0↔v=.slice none 0 0∧m=0))∧Hold w (bks E) E' w' by
  obtain ⟨v',w',E',hr,hp,hh⟩:=h
  unfold execOp
  simp only[ho,resolve,invoke,builtin,Sem.run_bind,Sem.run_pure,Result.andThen_ok,List.map_toArray,List.map_cons,List.map_nil,hx,hy,hr]
  exact ⟨E',hp,hh⟩
 have hhold:=Has.hold hE
 cases A with
 | none =>
  obtain ⟨rfl,rfl⟩:=hA rfl
  obtain rfl:news=[]:=List.eq_nil_of_length_eq_zero (by simpa using hl)
  refine ⟨v,w,E,?_,⟨by simpa using hO,by simp⟩,hhold⟩
  rcases hO.2 with ⟨rfl,rfl,_⟩ | ⟨g,cap,cur,rfl,_,hnc,_⟩
  ·simp[Builtin.append_,run_underlying hu,sizeOf,typeInfo,hi',Builtin.lenOf,Builtin.firstCells]
  ·simp[Builtin.append_,run_underlying hu,sizeOf,typeInfo,hi',Builtin.lenOf,Builtin.firstCells,hnc,storeCells]
 | some p =>
  have hnews:∀ j u,news[j]?=some u→w.cell? (p.add j)=some u:=fun j u hj=>hR p j u rfl hj
  have grown:∀ (old:Nat),old<n+m → ∀ (B:List Nat),
    OwnS e i.size (.slice (some ⟨w.heap.size,0,none⟩) (n+m) (grownCap w (n+m) old e)) (n+m) (xs++news) [bl w.heap.size e (xs.toArray++news.toArray++Builtin.zeroCells z.cells (grownCap w (n+m) old e-(n+m)))] ∧
    Hold w B [bl w.heap.size e (xs.toArray++news.toArray++Builtin.zeroCells z.cells (grownCap w (n+m) old e-(n+m)))] (w.drew.alloc (.cells (xs.toArray++news.toArray++Builtin.zeroCells z.cells (grownCap w (n+m) old e-(n+m))) e)):=by
   intro old ho B
   have hge:=grownCap_ge w (n+m) old e
   have hcm:grownCap w (n+m) old e≤maxLen:=grownCap_le_maxLen w (n+m) old e h63
   refine ⟨⟨hlen,.inr ⟨w.heap.size,_,_,rfl,rfl,hge,hcm,?_,?_⟩⟩,?_⟩
   ·simp only[Array.size_append,List.size_toArray,size_zeroCells,hzs,hO.1,hl,← Nat.add_mul]
    congr 1
    omega
   ·simp only[Array.toList_append,List.append_assoc]
    rw[← List.append_assoc,← hlen]
    exact List.take_left
   ·have:=Has.new w.drew (.cells (xs.toArray++news.toArray++Builtin.zeroCells z.cells (grownCap w (n+m) old e-(n+m))) e)
    exact ⟨this.os,this.tape,this.output,this.size,this.blk,this.ne,fun x hx=>(this.own x hx).imp id (fun h=>(by cases h)),fun k hk _=>this.frame k hk (by simp)⟩
  rcases hO.2 with ⟨rfl,rfl,rfl⟩ | ⟨g,cap,cur,rfl,rfl,hnc,hcm,hcs,htake⟩
  ·obtain rfl:xs=[]:=List.eq_nil_of_length_eq_zero (by simpa using hO.1)
   by_cases hm:m=0
   ·subst hm
    obtain rfl:news=[]:=List.eq_nil_of_length_eq_zero (by simpa using hl)
    refine ⟨.slice none 0 0,w,[],?_,⟨OwnS.nil _ _,by simp⟩,hhold⟩
    simp[Builtin.append_,run_underlying hu,sizeOf,typeInfo,hi',Builtin.lenOf,Builtin.firstCells,loadCells,loadCellsFrom]
   ·have hr:=run_append_nil (P:=P) w ty o.type e i z hu hi' hz p m c news hl hnews (by omega) (by omega) (by have hb:=hbytes;simp only[Nat.zero_add]at hb;omega)
    have hgr:=grown 0 (by omega) (bks [])
    simp only[Nat.zero_add,List.nil_append,Array.empty_append]at hgr ⊢
    exact ⟨_,_,_,hr,⟨hgr.1,by simp[hm]⟩,hgr.2⟩
  ·have hg:w.heap[g]?=some (.cells cur e (0,0)):=hE.blk (g,_) (by simp)
   by_cases hroom:n+m≤cap
   ·have hfit:n*i.size+news.length≤cur.size:=by rw[hl,hcs,← Nat.add_mul];exact Nat.mul_le_mul_right _ hroom
    have hr:=run_append_room (P:=P) w ty o.type e i hu hi' g n cap cur hg p m c news hl hnews h1 hroom hfit
    refine ⟨_,_,_,hr,⟨⟨hlen,.inr ⟨g,cap,_,rfl,rfl,hroom,hcm,?_,?_⟩⟩,by simp⟩,hhold.setRow 0 rfl _⟩
    ·simp only[List.size_toArray,List.length_append,List.length_take,List.length_drop,Array.length_toList]
     omega
    ·rw[htake,← hlen]
     exact List.take_left
   ·have holds:∀ j u,xs[j]?=some u→w.cell? ((⟨g,0,none⟩:Addr).add j)=some u:=fun j u hj=>by
     rw[nE,cell_of_row w g j cur e (0,0) hg]
     rw[← htake,List.getElem?_take]at hj
     split at hj
     ·simpa using hj
     ·cases hj
    have hr:=run_append_grow (P:=P) w ty o.type e i z hu hi' hz ⟨g,0,none⟩ n cap xs hO.1 holds p m c news hl hnews (by omega) (by omega) (growslice_fits (by omega) hbytes)
    have hgr:=grown cap (by omega) (bks [bl g e cur])
    exact ⟨_,_,_,hr,⟨hgr.1,by simp⟩,hgr.2⟩
theorem tp{ty2:TypeId}{sz dn dc sn sc k:Nat}{news:List Value}{A:Option Addr}(ho:o.op=.call { callee:=.builtin .copy,args := #[x,y],argTypes := #[ty,ty2] })
  (hu:P.underlying ty=some (.slice e)) (hs:(P.info? e).map (·.size)=some sz) (hx:a.eval x=.slice (some ⟨g,off,none⟩) dn dc) (hy:a.eval y=.slice A sn sc) (hA:A=none→sn=0)
  (hk:k=Nat.min sn dn) (hl:news.length=k*sz) (h1:∀ u∈news,u.oneCell'=true) (hfit:off+k*sz≤cs.size) (hcs:bJ cs off news=cs') :
  cA P a o [bl g t cs] (fun w=>xX w A news) (fun v' E'=>v'=.int .i64 (k:Int)∧E'=[bl g t cs']):=fun w hE hR=>by
 subst hcs
 obtain ⟨i,hi,rfl⟩:=Option.map_eq_some_iff.1 hs
 have hh:=Has.hold hE
 have hth:=Hold.there hh 0 rfl off (k*i.size) (by omega)
 have hst:=run_storeCells_cells (P:=P) g off news 0 w (fun j hj=>by simpa using (hth j (by omega)).1) (fun j hj=>by simpa using (hth j (by omega)).2) h1
 simp only[Nat.add_zero]at hst
 have hf:(Builtin.firstCells i.size k (.slice A sn sc)).run P w=.ok news.toArray w:=by
  cases A with
  | none =>
   have h0:=hA rfl
   subst h0
   have:k=0:=by rw[hk];exact Nat.zero_min _
   subst this
   obtain rfl:news=[]:=List.eq_nil_of_length_eq_zero (by simpa using hl)
   simp[Builtin.firstCells]
  | some p=>exact run_firstCells_some (P:=P) w i.size k p sn sc news hl fun j u hj=>hR p j u rfl hj
 have hr:(Builtin.copy_ #[ty,ty2] o.type #[.slice (some ⟨g,off,none⟩) dn dc,.slice A sn sc]).run P w=.ok (goInt k) (w.setCells g off news):=by
  simp[Builtin.copy_,run_underlying hu,sizeOf,typeInfo,hi,Builtin.lenOf,← hk,hf,hst]
 unfold execOp
 simp only[ho,resolve,invoke,builtin,Sem.run_bind,Sem.run_pure,Result.andThen_ok,List.map_toArray,List.map_cons,List.map_nil,hx,hy,hr]
 exact ⟨_,⟨rfl,rfl⟩,Hold.setCells news off hh 0 rfl⟩
end
section
open Go
section
variable{P:Program}{ops:Array Oper}{Q:Exit→Act→World→Prop}{md:Region.Mode}
def ij(md:Region.Mode)(ops:Array Oper)(i k:Nat):Bool :=
 match ops[i]? with
 | some o=>o.after.any fun e=>Region.binds md e&&e.on == k
 | none=>false
def j9(md:Region.Mode)(ops:Array Oper):List Nat→Bool
 | i::k::r=>ij md ops i k&&j9 md ops (k::r)
 | _=>true
def iY(md:Region.Mode)(ops:Array Oper)(i p:Nat):Prop := ∃ r,j9 md ops (i::(r++[p]))=true
def jw(md:Region.Mode)(ops:Array Oper):Bool :=
 Region.noSelect ops&&(List.range ops.size).all fun i=>(List.range ops.size).all fun j=>i == j||ij md ops i j||ij md ops j i||match ops[i]?,ops[j]? with
  | some x,some y=>x.apart ops y
  | _,_=>true
theorem ka{i k:Nat}(h:ij md ops i k=true):∃ o,ops[i]?=some o ∧ ∃ e∈o.after,Region.binds md e=true∧e.on=k:=by
 unfold ij at h
 split at h
 ·rename_i o ho
  simp only[Array.any_eq_true',Bool.and_eq_true,beq_iff_eq]at h
  exact ⟨o,ho,h⟩
 ·cases h
theorem gF{L:Array Bool}(hc:Closed md ops L){p:Nat}:∀ (r:List Nat) (i:Nat),j9 md ops (i::(r++[p]))=true→(∀ k,ij md ops i k=true→L.getD k false=true)→L.getD p false=true
 | [],i,h,hi=>by
  simp only[List.nil_append,j9,Bool.and_true]at h
  exact hi p h
 | k::r,i,h,hi=>by
  simp only[List.cons_append,j9,Bool.and_eq_true]at h
  refine gF hc r k h.2 fun m hm => ?_
  obtain ⟨o,ho,e,he,hb,rfl⟩:=ka hm
  exact hc k o ho (pZ (hi k h.1)) e he hb
theorem jx{L:Array Bool}{i:Nat}(hi:i∈Region.ready md ops L):∀ k,ij md ops i k=true→L.getD k false=true:=fun k hk=>by
 obtain ⟨_,o,ho,hall⟩:=mem_ready.1 hi
 obtain ⟨o',ho',e,he,hb,rfl⟩:=ka hk
 rw[ho]at ho'
 obtain rfl:=Option.some.inj ho'
 exact hall e he hb
def opO(P:Program)(ops:Array Oper)(j:Nat)(K:Act→World→Prop)(a:Act)(w:World):Prop :=
 match ops[j]? with
 | none=>False
 | some o=>if Region.wanted o (yielded ops a.tmps) then Out P (fun v w'=>K (a.put o.dst v) w') ((execOp a.eval o).run P w) else K (a.put o.dst undef) w
theorem yI{j:Nat}{K:Act→World→Prop}{a:Act}{w:World}(h:opO P ops j K a w):wpOp P ops Q j K a w:=by
 unfold opO at h
 unfold Go.wpOp
 split
 ·rename_i h0;rw[h0]at h;exact h.elim
 ·rename_i o h0
  simp only[h0]at h
  split
  ·rename_i hw;simp only[hw,if_true]at h;exact .inl (Out.wp h)
  ·rename_i hw;simp only[hw]at h;exact h
theorem kb{j:Nat}{K K':Act→World→Prop}(hk:∀ a w,K a w→K' a w){a:Act}{w:World}(h:opO P ops j K a w):opO P ops j K' a w:=by
 unfold opO at *
 split
 ·rename_i h0;rw[h0]at h;exact h
 ·rename_i o h0
  simp only[h0]at h
  split
  ·rename_i hw;simp only[hw,if_true]at h;exact h.mono fun _ _=>hk _ _
  ·rename_i hw;simp only[hw]at h;exact hk _ _ h
abbrev gM:=List (Nat×(World→Prop))
def wpX(P:Program)(md:Region.Mode)(ops:Array Oper)(Q:Exit→Act→World→Prop):Nat→gM→Array Bool→Act→World→Prop
 | 0,_,L,a,w=>Region.ready md ops L=[]∧Q .normal a w
 | n+1,Ss,L,a,w=>(Region.ready md ops L=[]→Q .normal a w) ∧ ∀ j∈Region.ready md ops L,
   opO P ops j (fun a' w' => ∃ Ss',(∀ s∈Ss,s∈Ss'∨iY md ops j s.1)∧(∀ s∈Ss',s.2 w')∧wpX P md ops Q n Ss' (L.setIfInBounds j true) a' w') a w
theorem qd:∀ (n:Nat) {Ss:gM} {L:Array Bool} {a:Act} {w:World},wpX P md ops Q n Ss L a w→wpAny P md ops Q n L a w
 | 0,_,_,_,_,h=>h
 | n+1,_,_,_,_,h=>⟨h.1,fun j hj=>yI (kb (fun _ _ ⟨_,_,_,h⟩=>qd n h) (h.2 j hj))⟩
theorem ik{n:Nat}{Ss Ss':gM}{L:Array Bool}{a:Act}{w:World}(h:wpX P md ops Q n Ss L a w)(hs:∀ s∈Ss',s∈Ss):wpX P md ops Q n Ss' L a w:=by
 cases n with
 | zero=>exact h
 | succ n=>exact ⟨h.1,fun j hj=>kb (fun _ _ ⟨T,h1,h2,h3⟩=>⟨T,fun s hs'=>h1 s (hs s hs'),h2,h3⟩) (h.2 j hj)⟩
theorem iZ{i:Nat}{oi:Oper}{v:Value}{S:World→Prop}(hi:ops[i]?=some oi)(hok:jw md ops=true):
  ∀ (n:Nat) (Ss:gM) (L:Array Bool) (a:Act) (w:World),Closed md ops L→i∈Region.ready md ops L→S w→(∀ s∈Ss,s.2 w)→YieldsIf P ops S oi v a →
   wpX P md ops Q n ((i,S)::Ss) (L.setIfInBounds i true) (a.put oi.dst v) w→wpX P md ops Q (n+1) Ss L a w:=by
 have hok':=hok
 unfold jw at hok
 rw[Bool.and_eq_true]at hok
 have hsel:=Region.noSelect_spec hok.1
 have hall:=hok.2
 intro n
 induction n with
 | zero =>
  intro Ss L a w hc hr hS hSs hy H
  refine ⟨fun h=>(by rw[h]at hr;cases hr),fun j hj => ?_⟩
  by_cases hji:j=i
  ·subst hji
   unfold opO
   simp only[hi]
   split
   ·rename_i hw
    rcases hy with ⟨_,hv⟩ | ⟨hw',_⟩
    ·rw[hv w hS];exact ⟨Ss,fun s hs=>.inl hs,hSs,ik H fun s hs=>List.mem_cons_of_mem _ hs⟩
    ·rw[hw']at hw;cases hw
   ·rename_i hw
    rcases hy with ⟨hw',_⟩ | ⟨_,rfl⟩
    ·exact absurd hw' hw
    ·exact ⟨Ss,fun s hs=>.inl hs,hSs,ik H fun s hs=>List.mem_cons_of_mem _ hs⟩
  ·have:=ready_mono hj hji
   rw[H.1]at this
   cases this
 | succ n ih =>
  intro Ss L a w hc hr hS hSs hy H
  refine ⟨fun h=>(by rw[h]at hr;cases hr),fun j hj => ?_⟩
  by_cases hji:j=i
  ·subst hji
   unfold opO
   simp only[hi]
   split
   ·rename_i hw
    rcases hy with ⟨_,hv⟩ | ⟨hw',_⟩
    ·rw[hv w hS];exact ⟨Ss,fun s hs=>.inl hs,hSs,ik H fun s hs=>List.mem_cons_of_mem _ hs⟩
    ·rw[hw']at hw;cases hw
   ·rename_i hw
    rcases hy with ⟨hw',_⟩ | ⟨_,rfl⟩
    ·exact absurd hw' hw
    ·exact ⟨Ss,fun s hs=>.inl hs,hSs,ik H fun s hs=>List.mem_cons_of_mem _ hs⟩
  ·have hH:=H.2 j (ready_mono hj hji)
   obtain ⟨hjun,oj,hoj,_⟩:=mem_ready.1 hj
   have hiun:=(mem_ready.1 hr).1
   have hij1:∀ x y:Nat,x∈Region.ready md ops L→L.getD y true=false→ij md ops x y=false:=fun x y hx hy=>by
    cases he:ij md ops x y
    ·rfl
    ·have:=jx hx y he
     rw[lo hy]at this;cases this
   have hap:oi.apart ops oj=true:=by
    have h1:=List.all_eq_true.1 (List.all_eq_true.1 hall i (List.mem_range.2 (Array.getElem?_eq_some_iff.1 hi).1)) j (List.mem_range.2 (Array.getElem?_eq_some_iff.1 hoj).1)
    rw[hij1 i j hr hjun,hij1 j i hj hiun,hi,hoj]at h1
    simpa[Ne.symm hji] using h1
   obtain ⟨h1,h2,h3⟩:=Oper.apart_spec hap
   have he:execOp (a.put oi.dst v).eval oj=execOp a.eval oj:=execOp_put oj (fun cs b=>hsel j oj cs b hoj) a oi.dst v h1
   have hw:Region.wanted oj (yielded ops (a.put oi.dst v).tmps)=Region.wanted oj (yielded ops a.tmps):=wanted_put oj a oi.dst v h1
   have hnb:¬ iY md ops j i:=fun ⟨r,hr'⟩=>by
    have:=gF hc r j hr' (jx hj)
    rw[lo hiun]at this;cases this
   have key:∀ (u:Value) (w':World),(∃ Ss',(∀ s∈(i,S)::Ss,s∈Ss'∨iY md ops j s.1)∧(∀ s∈Ss',s.2 w')∧wpX P md ops Q n Ss' ((L.setIfInBounds i true).setIfInBounds j true) ((a.put oi.dst v).put oj.dst u) w') →
     ∃ Ss',(∀ s∈Ss,s∈Ss'∨iY md ops j s.1)∧(∀ s∈Ss',s.2 w')∧wpX P md ops Q (n+1) Ss' (L.setIfInBounds j true) (a.put oj.dst u) w':=fun u w' ⟨T,t1,t2,t3⟩=>by
    have hT:(i,S)∈T:=(t1 (i,S) (by simp)).resolve_right hnb
    refine ⟨T,fun s hs=>t1 s (List.mem_cons_of_mem _ hs),t2,ih T _ _ w' (hc.set hj) (ready_mono hr (Ne.symm hji)) (t2 _ hT) t2 ?_ ?_⟩
    ·refine hy.of_same (execOp_put oi (fun cs b=>hsel i oi cs b hi) a oj.dst u h3) (wanted_put oi a oj.dst u h3)
    ·rw[Array.setIfInBounds_comm _ _ hji,← Act.put_comm a v u h2]
     exact ik t3 fun s hs=>by
      rcases List.mem_cons.1 hs with rfl | hs
      ·exact hT
      ·exact hs
   unfold opO at hH ⊢
   simp only[hoj]at hH ⊢
   rw[he,hw]at hH
   split
   ·rename_i hw2
    simp only[hw2,if_true]at hH
    exact hH.mono fun u w' h=>key u w' h
   ·rename_i hw2
    simp only[hw2]at hH
    exact key undef w hH
end
section
variable{P:Program}{ops:Array Oper}{Q:Exit→Act→World→Prop}{o:Oper}{w w0:World}{n:Sz}{d m i:Nat}{l l':List (Nat×Value)}{L:Array Bool}{Ss Ss':gM}{R:List Nat}{Hs:List Hl}{E:Hl}{Rd:World→Prop}{post:Value→Hl→Prop}{v:Value}
def RX(P:Program)(ops:Array Oper)(Q:Exit→Act→World→Prop)(m:Nat)(Ss:gM)(L:Array Bool)(n:Sz)(l:List (Nat×Value))(w:World):Prop :=
 jw .any ops=true→Closed .any ops L→(∀ s∈Ss,s.2 w) → ∀ a,Fr n l a→wpX P .any ops Q m Ss L a w
def rdy(ops:Array Oper)(L:Array Bool)(i:Nat):Bool:=(Region.ready .any ops L).contains i
theorem tq{id:Nat}{ls:List Oper}{a:Act}(hm:P.follows .mixedOrders=true)(hok:jw .any ls.toArray=true)(hF:Fr n l a)
  (h:RX P ls.toArray Q ls.length [] (Array.replicate ls.length false) n l w.drew):(Code.region id ls.toArray true).wp P Q a w:=by
 refine wp_region_any hm ?_
 have:=h hok (by simpa using Closed.none .any ls.toArray) (fun _ h=>(by cases h)) a hF
 simpa using qd _ this
theorem rxV(i:Nat)(ho:ops[i]?=some o)(hr:rdy ops L i=true)(hd:o.dst=some d)(hg:∀ a,Fr n l a→Region.wanted o (yielded ops a.tmps)=true)
  (hv:∀ a w,Fr n l a→(execOp a.eval o).run P w=.ok (.value v) w) (hk:Kept d l' l) (hdn:d<n.n) (h:RX P ops Q m Ss (L.setIfInBounds i true) n ((d,v)::l') w):RX P ops Q (m+1) Ss L n l w:=fun hok hc hS a hF=>by
 have hi:i∈Region.ready .any ops L:=by simpa[rdy] using hr
 refine iZ (S:=fun _=>True) ho hok m Ss L a w hc hi trivial hS (.inl ⟨hg a hF,fun w _=>hv a w hF⟩) ?_
 rw[hd]
 have hF':=hF.put v hk hdn
 have:=h hok (hc.set hi) hS _ hF'
 clear h
 revert this
 generalize a.put (some d) v=a'
 generalize L.setIfInBounds i true=L'
 intro h
 have key:∀ (m:Nat) (Ss:gM) (L':Array Bool) (a':Act) (w:World),wpX P .any ops Q m Ss L' a' w→wpX P .any ops Q m ((i,fun _=>True)::Ss) L' a' w:=by
  intro m
  induction m with
  | zero=>intro Ss L' a' w h;exact h
  | succ m ih =>
   intro Ss L' a' w h
   refine ⟨h.1,fun j hj=>kb (fun a' w' ⟨T,t1,t2,t3⟩=>⟨(i,fun _=>True)::T,fun s hs => ?_,fun s hs => ?_,ih T _ _ _ t3⟩) (h.2 j hj)⟩
   ·rcases List.mem_cons.1 hs with rfl | hs
    ·exact .inl (by simp)
    ·exact (t1 s hs).imp (fun h=>List.mem_cons_of_mem _ h) id
   ·rcases List.mem_cons.1 hs with rfl | hs
    ·trivial
    ·exact t2 s hs
 exact key m Ss L' a' w h
theorem rxS(S:World→Prop)(i:Nat)(ho:ops[i]?=some o)(hr:rdy ops L i=true)(hd:o.dst=some d)(hg:∀ a,Fr n l a→Region.wanted o (yielded ops a.tmps)=true)(hS:S w)
  (hv:∀ a w,Fr n l a→S w→(execOp a.eval o).run P w=.ok (.value v) w) (hk:Kept d l' l) (hdn:d<n.n) (h:RX P ops Q m ((i,S)::Ss) (L.setIfInBounds i true) n ((d,v)::l') w):RX P ops Q (m+1) Ss L n l w:=fun hok hc hSs a hF=>by
 have hi:i∈Region.ready .any ops L:=by simpa[rdy] using hr
 refine iZ ho hok m Ss L a w hc hi hS hSs (.inl ⟨hg a hF,fun w hw=>hv a w hF hw⟩) ?_
 rw[hd]
 refine h hok (hc.set hi) (fun s hs => ?_) _ (hF.put v hk hdn)
 rcases List.mem_cons.1 hs with rfl | hs
 ·exact hS
 ·exact hSs s hs
theorem rxU(i:Nat)(ho:ops[i]?=some o)(hr:rdy ops L i=true)(hd:o.dst=some d)(hg:∀ a,Fr n l a→Region.wanted o (yielded ops a.tmps)=false)
  (hk:Kept d l' l) (hdn:d<n.n) (h:RX P ops Q m ((i,fun _=>True)::Ss) (L.setIfInBounds i true) n l' w):RX P ops Q (m+1) Ss L n l w:=fun hok hc hSs a hF=>by
 have hi:i∈Region.ready .any ops L:=by simpa[rdy] using hr
 refine iZ (v:=undef) (S:=fun _=>True) ho hok m Ss L a w hc hi trivial hSs (.inr ⟨hg a hF,rfl⟩) ?_
 rw[hd]
 refine h hok (hc.set hi) (fun s hs => ?_) _ ((hF.put undef hk hdn).sub (List.sublist_cons_self _ _))
 rcases List.mem_cons.1 hs with rfl | hs
 ·trivial
 ·exact hSs s hs
def MO(P:Program)(ops:Array Oper)(Q:Exit→Act→World→Prop)(m:Nat)(Ss:gM)(L:Array Bool)(n:Sz)(l:List (Nat×Value))(w:World)(i:Nat):Prop :=
 ∃ o,ops[i]?=some o ∧ ∀ a,Fr n l a→Region.wanted o (yielded ops a.tmps)=true ∧
  Out P (fun v w' => ∃ Ss',(∀ s∈Ss,s∈Ss'∨iY .any ops i s.1)∧(∀ s∈Ss',s.2 w') ∧ ∀ a',a'=a.put o.dst v→jw .any ops=true→Closed .any ops (L.setIfInBounds i true)→wpX P .any ops Q m Ss' (L.setIfInBounds i true) a' w') ((execOp a.eval o).run P w)
theorem Bb{is:List Nat}(hr:Region.ready .any ops L=is)(hne:is≠[])(h:∀ i∈is,MO P ops Q m Ss L n l w i):RX P ops Q (m+1) Ss L n l w:=fun hok hc hSs a hF=>by
 refine ⟨fun h0=>absurd (hr▸h0) hne,fun j hj => ?_⟩
 obtain ⟨o,ho,h2⟩:=h j (hr▸hj)
 obtain ⟨hw,h3⟩:=h2 a hF
 unfold opO
 simp only[ho,hw,if_true]
 exact h3.mono fun v w' ⟨T,t1,t2,t3⟩=>⟨T,t1,t2,t3 _ rfl hok (hc.set hj)⟩
theorem rx1(i:Nat)(hr:Region.ready .any ops L=[i])(h:MO P ops Q m Ss L n l w i):RX P ops Q (m+1) Ss L n l w:=Bb hr (by simp) fun j hj=>by
 obtain rfl:j=i:=by simpa using hj
 exact h
theorem rx2(i j:Nat)(hr:Region.ready .any ops L=[i,j])(h:MO P ops Q m Ss L n l w i)(h2:MO P ops Q m Ss L n l w j):RX P ops Q (m+1) Ss L n l w:=Bb hr (by simp) fun k hk=>by
 rcases List.mem_cons.1 hk with rfl | hk
 ·exact h
 ·obtain rfl:k=j:=by simpa using hk
  exact h2
theorem bQ(hr:Region.ready .any ops L=[])(h:∀ a,Fr n l a→Q .normal a w):RX P ops Q m Ss L n l w:=fun _ _ _ a hF=>by
 cases m with
 | zero=>exact ⟨hr,h a hF⟩
 | succ m=>exact ⟨fun _=>h a hF,fun j hj=>by rw[hr]at hj;cases hj⟩
def PendOk(ops:Array Oper)(i:Nat)(Ss Ss':gM):Prop := ∀ s∈Ss,s∈Ss'∨iY .any ops i s.1
theorem PendOk.nil(i:Nat)(Ss':gM):PendOk ops i [] Ss':=fun _ h=>(by cases h)
theorem PendOk.keep{i:Nat}{s:Nat×(World→Prop)}(h:PendOk ops i Ss Ss'):PendOk ops i (s::Ss) (s::Ss'):=fun x hx=>by
 rcases List.mem_cons.1 hx with rfl | hx
 ·exact .inl (by simp)
 ·exact (h x hx).imp (fun h=>List.mem_cons_of_mem _ h) id
theorem PendOk.go{i p:Nat}{S:World→Prop}(r:List Nat)(hp:j9 .any ops (i::(r++[p]))=true)(h:PendOk ops i Ss Ss'):PendOk ops i ((p,S)::Ss) Ss':=fun x hx=>by
 rcases List.mem_cons.1 hx with rfl | hx
 ·exact .inr ⟨r,hp⟩
 ·exact h x hx
theorem moE(c:Nat)(ho:ops[i]?=some o)(hH:HH w0 R Hs w)(hi:Hs[c]?=some E)(hs:∀ a,Fr n l a→cA P a o E Rd post)(hRd:Rd w)(hd:o.dst=some d)(hg:∀ a,Fr n l a→Region.wanted o (yielded ops a.tmps)=true)(hk:Kept d l' l)(hdn:d<n.n)(hp:PendOk ops i Ss Ss')
  (h:∀ v E' w',post v E'→HH w0 R (Hs.set c E') w'→(∀ s∈Ss',s.2 w')∧RX P ops Q m Ss' (L.setIfInBounds i true) n ((d,v)::l') w'):MO P ops Q m Ss L n l w i:=by
 refine ⟨o,ho,fun a hF=>⟨hg a hF,(hs a hF w (hH.has c hi) hRd).mono ?_⟩⟩
 rintro v w' ⟨E',h1,h2⟩
 obtain ⟨h3,h4⟩:=h v E' w' h1 (hH.turn c hi h2)
 refine ⟨Ss',hp,h3,fun a' e hok hc => ?_⟩
 subst e
 rw[hd]
 exact h4 hok hc h3 _ (hF.put v hk hdn)
theorem CB(c:Nat)(ho:ops[i]?=some o)(hH:HH w0 R Hs w)(hi:Hs[c]?=some E)(hs:∀ a,Fr n l a→cA P a o E Rd post)(hRd:Rd w)(hd:o.dst=none)(hg:∀ a,Fr n l a→Region.wanted o (yielded ops a.tmps)=true)(hp:PendOk ops i Ss Ss')
  (h:∀ v E' w',post v E'→HH w0 R (Hs.set c E') w'→(∀ s∈Ss',s.2 w')∧RX P ops Q m Ss' (L.setIfInBounds i true) n l w'):MO P ops Q m Ss L n l w i:=by
 refine ⟨o,ho,fun a hF=>⟨hg a hF,(hs a hF w (hH.has c hi) hRd).mono ?_⟩⟩
 rintro v w' ⟨E',h1,h2⟩
 obtain ⟨h3,h4⟩:=h v E' w' h1 (hH.turn c hi h2)
 refine ⟨Ss',hp,h3,fun a' e hok hc => ?_⟩
 subst e
 rw[hd]
 exact h4 hok hc h3 _ hF
theorem moM(ho:ops[i]?=some o)(hH:HH w0 R Hs w)(hs:∀ a,Fr n l a→cA P a o [] Rd post)(hRd:Rd w)(hd:o.dst=some d)(hg:∀ a,Fr n l a→Region.wanted o (yielded ops a.tmps)=true)(hk:Kept d l' l)(hdn:d<n.n)(hp:PendOk ops i Ss Ss')
  (h:∀ v E' w',post v E'→HH w0 R (Hs++[E']) w'→(∀ s∈Ss',s.2 w')∧RX P ops Q m Ss' (L.setIfInBounds i true) n ((d,v)::l') w'):MO P ops Q m Ss L n l w i:=by
 refine ⟨o,ho,fun a hF=>⟨hg a hF,(hs a hF w (Has.nil w) hRd).mono ?_⟩⟩
 rintro v w' ⟨E',h1,h2⟩
 obtain ⟨h3,h4⟩:=h v E' w' h1 (hH.add h2)
 refine ⟨Ss',hp,h3,fun a' e hok hc => ?_⟩
 subst e
 rw[hd]
 exact h4 hok hc h3 _ (hF.put v hk hdn)
end
end
abbrev aS:=List (Nat×Value)
def CX(P:Program)(Q:Exit→Act→World→Prop)(c:Code)(n:Sz)(l:aS)(w:World):Prop := ∀ a,Fr n l a→c.wp P Q a w
def PX(P:Program)(ops:Array Oper)(Q:Exit→Act→World→Prop)(rest:List Oper)(n:Sz)(l:aS)(w:World):Prop := ∀ a,Fr n l a→wpList P ops Q rest a w
def QX(Q:Exit→Act→World→Prop)(e:Exit)(n:Sz)(l:aS)(w:World):Prop := ∀ a,Fr n l a→Q e a w
section
variable{P:Program}{Q:Exit→Act→World→Prop}{w w0:World}{n:Sz}{l l':aS}{x y:Code}{fn:Func}{R:Ending→World→Prop}
theorem qe{n:Nat}{f:FuncId}{c:Code}{args:Array Value}(hf:P.funcs[f]?=some fn)(hb:fn.body=some c)(hn:fn.ntmps=n)(hsz:args.size≤n)(hl:js 0 args.toList=l)
  (h:CX P (bodyPost P fn R) c ⟨n,[]⟩ l w):Calls P f args w R:=vK hf hb hn hsz hl h
theorem aj(h:CX P (Exit.then (y.wp P Q) Q) x n l w):CX P Q (.seq x y) n l w:=fun a hF=>wp_seq (h a hF)
theorem aC{id:Nat}{ls:List Oper}(h:PX P ls.toArray Q ls n l w):CX P Q (.region id ls.toArray false) n l w:=fun a hF=>wp_region_lit (h a hF)
theorem br{id:Nat}{ls:List Oper}(hm:P.follows .mixedOrders=true)(hok:jw .any ls.toArray=true)(h:RX P ls.toArray Q ls.length [] (Array.replicate ls.length false) n l w.drew):CX P Q (.region id ls.toArray true) n l w:=fun _ hF=>tq hm hok hF h
theorem aA(h:QX Q .normal n l w):CX P Q .skip n l w:=fun a hF=>wp_skip (h a hF)
theorem aJ{id:Nat}(h:QX Q (.exit id) n l w):CX P Q (.exit id) n l w:=fun a hF=>wp_exit (h a hF)
theorem ar(h:QX Q .ret n l w):CX P Q .ret n l w:=fun a hF=>wp_ret (h a hF)
theorem ai{id:Nat}(h:CX P (Exit.inBlock id Q) x n l w):CX P Q (.block id x) n l w:=fun a hF=>wp_block (h a hF)
theorem cxP{c:Operand}{p:Prop}[Decidable p](i:Nat){k:Nat}(hc:c=.tmp k)(hi:l[i]?=some (k,.bool (decide p)))(ht:p→CX P Q x n l w)(hf:¬ p→CX P Q y n l w):CX P Q (.cond c x y) n l w:=fun a hF=>by
 have hv:a.eval c=.bool (decide p):=by rw[hc];exact hF.ev i hi
 by_cases h:p
 ·exact wp_cond_true (by rw[hv,decide_eq_true h]) (ht h a hF)
 ·exact wp_cond_false (by rw[hv,decide_eq_false h]) (hf h a hF)
theorem ag(h:CX P Q y n l w):QX (Exit.then (y.wp P Q) Q) .normal n l w:=h
theorem bj{K:Act→World→Prop}(h:QX Q .ret n l w):QX (Exit.then K Q) .ret n l w:=h
theorem ak{K:Act→World→Prop}{id:Nat}(h:QX Q (.exit id) n l w):QX (Exit.then K Q) (.exit id) n l w:=h
theorem aN{id:Nat}(h:QX Q .normal n l w):QX (Exit.inBlock id Q) .normal n l w:=h
theorem qf{id:Nat}(h:QX Q .ret n l w):QX (Exit.inBlock id Q) .ret n l w:=h
theorem aR{id:Nat}(h:QX Q .normal n l w):QX (Exit.inBlock id Q) (.exit id) n l w:=fun a hF=>by
 show (if id=id then Q .normal a w else Q (.exit id) a w)
 rw[if_pos rfl];exact h a hF
section
variable{σ:Type}{fr:σ→aS}{I:σ→World→Prop}{μ:σ→Nat}
def il(n:Sz)(fr:σ→aS)(I:σ→World→Prop)(μ:σ→Nat)(x:σ)(a:Act)(w:World):Prop := ∃ x',(Fr n (fr x') a∧I x' w)∧μ x'<μ x
theorem f6(fr:σ→aS)(I:σ→World→Prop)(μ:σ→Nat)(x0:σ)(h0:I x0 w)(hfr:∀ z∈fr x0,z∈l)
  (round:∀ x w,I x w→CX P (Exit.then (il n fr I μ x) Q) y n (fr x) w):CX P Q (.loop y) n l w:=fun _ hF =>
 AU (σ:=σ) (fun x a w=>Fr n (fr x) a∧I x w) μ x0 ⟨hF.of hfr,h0⟩ fun x a w ⟨h1,h2⟩=>round x w h2 a h1
theorem eS{x0:σ}(x:σ)(hI:I x w)(hμ:μ x<μ x0)(hfr:∀ z∈fr x,z∈l):QX (Exit.then (il n fr I μ x0) Q) .normal n l w:=fun _ hF=>⟨x,⟨hF.of hfr,hI⟩,hμ⟩
end
theorem bU(is:List Nat)(h:is.map (fun i=>l[i]?)=l'.map some):∀ z∈l',z∈l:=fun z hz=>by
 have h1:some z∈l'.map some:=List.mem_map_of_mem hz
 rw[← h]at h1
 obtain ⟨i,_,e⟩:=List.mem_map.1 h1
 exact List.mem_of_getElem? e
theorem tr{n:Nat}(hf:fn.results = #[])(hR:R (.returned (.tuple #[])) w):QX (bodyPost P fn R) .normal ⟨n,[]⟩ l w:=fun _ hF=>bodyPost_end (results_none hf _ _ _) hF.defers hR
theorem aW{n:Nat}{t:Tmp}{v:Value}(i:Nat)(hf:fn.results = #[.tmp t])(hi:l[i]?=some (t,v))(hR:R (.returned v) w):QX (bodyPost P fn R) .ret ⟨n,[]⟩ l w:=fun a hF =>
 bodyPost_ret (v:=v) (by rw[results_tmp hf,hF.at i hi]) hF.defers hR
theorem eF{n:Nat}{t u:Tmp}{v v2:Value}(i j:Nat)(hf:fn.results = #[.tmp t,.tmp u])(hi:l[i]?=some (t,v))(hj:l[j]?=some (u,v2))(hR:R (.returned (.tuple #[v,v2])) w):QX (bodyPost P fn R) .ret ⟨n,[]⟩ l w:=fun a hF =>
 bodyPost_ret (v:=.tuple #[v,v2]) (by rw[results_tmp2 hf,hF.at i hi,hF.at j hj]) hF.defers hR
end
section
variable{P:Program}{ops:Array Oper}{Q:Exit→Act→World→Prop}{o:Oper}{rest:List Oper}{w w0:World}{n:Sz}{d:Nat}{l l':aS}{R:List Nat}{Hs:List Hl}{E:Hl}{Rd:World→Prop}{post:Value→Hl→Prop}{v:Value}
theorem aD(h:QX Q .normal n l w):PX P ops Q [] n l w:=h
theorem pxV(hv:∀ a w,Fr n l a→(execOp a.eval o).run P w=.ok (.value v) w)(hd:o.dst=some d)(hg:∀ a,Fr n l a→Region.wanted o (yielded ops a.tmps)=true)(hk:Kept d l' l)(hdn:d<n.n)
  (h:PX P ops Q rest n ((d,v)::l') w):PX P ops Q (o::rest) n l w:=fun a hF=>xU hF hd (hg a hF) (hv a w hF) hk hdn h
theorem pxS(S:World→Prop)(hS:S w)(hv:∀ a w,Fr n l a→S w→(execOp a.eval o).run P w=.ok (.value v) w)(hd:o.dst=some d)(hg:∀ a,Fr n l a→Region.wanted o (yielded ops a.tmps)=true)(hk:Kept d l' l)(hdn:d<n.n)
  (h:PX P ops Q rest n ((d,v)::l') w):PX P ops Q (o::rest) n l w:=fun a hF=>xU hF hd (hg a hF) (hv a w hF hS) hk hdn h
theorem pxU(hd:o.dst=some d)(hg:∀ a,Fr n l a→Region.wanted o (yielded ops a.tmps)=false)(hk:Kept d l' l)(hdn:d<n.n)
  (h:PX P ops Q rest n l' w):PX P ops Q (o::rest) n l w:=fun a hF=>AV hF hd (hg a hF) hk hdn h
theorem pxE(c:Nat)(hH:HH w0 R Hs w)(hi:Hs[c]?=some E)(hs:∀ a,Fr n l a→cA P a o E Rd post)(hRd:Rd w)(hd:o.dst=some d)(hg:∀ a,Fr n l a→Region.wanted o (yielded ops a.tmps)=true)(hk:Kept d l' l)(hdn:d<n.n)
  (h:∀ v E' w',post v E'→HH w0 R (Hs.set c E') w'→PX P ops Q rest n ((d,v)::l') w'):PX P ops Q (o::rest) n l w:=fun a hF =>
 AW c hF hH hi (hs a hF) hRd hd (hg a hF) hk hdn fun v E' a' w' h1 h2 h3=>h v E' w' h1 h3 a' h2
theorem Bc(c:Nat)(hH:HH w0 R Hs w)(hi:Hs[c]?=some E)(hs:∀ a,Fr n l a→cA P a o E Rd post)(hRd:Rd w)(hd:o.dst=none)(hg:∀ a,Fr n l a→Region.wanted o (yielded ops a.tmps)=true)
  (h:∀ v E' w',post v E'→HH w0 R (Hs.set c E') w'→PX P ops Q rest n l w'):PX P ops Q (o::rest) n l w:=fun a hF =>
 yH c hH hi (hs a hF) hRd hd (hg a hF) fun v E' w' h1 h3=>h v E' w' h1 h3 a hF
theorem pxM(hH:HH w0 R Hs w)(hs:∀ a,Fr n l a→cA P a o [] Rd post)(hRd:Rd w)(hd:o.dst=some d)(hg:∀ a,Fr n l a→Region.wanted o (yielded ops a.tmps)=true)(hk:Kept d l' l)(hdn:d<n.n)
  (h:∀ v E' w',post v E'→HH w0 R (Hs++[E']) w'→PX P ops Q rest n ((d,v)::l') w'):PX P ops Q (o::rest) n l w:=fun a hF =>
 AX hF hH (hs a hF) hRd hd (hg a hF) hk hdn fun v E' a' w' h1 h2 h3=>h v E' w' h1 h3 a' h2
end
theorem gOn{n:Sz}{l:aS}{ops:Array Oper}{o:Oper}(i:Nat){j k:Nat}{b:Bool}(hi:l[i]?=some (k,.bool b))(hd:(ops[j]?).bind (·.dst)=some k)(hg:o.guard=some (j,b))(hk:k<n.n):∀ a,Fr n l a→Region.wanted o (yielded ops a.tmps)=true:=fun _ hF=>by
 rw[hF.wanted i hi hd hg hk];cases b<;>rfl
theorem cW{n:Sz}{l:aS}{ops:Array Oper}{o:Oper}(i:Nat){j k:Nat}{b:Bool}(hi:l[i]?=some (k,.bool (!b)))(hd:(ops[j]?).bind (·.dst)=some k)(hg:o.guard=some (j,b))(hk:k<n.n):∀ a,Fr n l a→Region.wanted o (yielded ops a.tmps)=false:=fun _ hF=>by
 rw[hF.wanted i hi hd hg hk];cases b<;>rfl
def pick:List Bool→aS→aS
 | true::m,x::l=>x::pick m l
 | false::m,_::l=>pick m l
 | _,_=>[]
theorem kc:∀ (m:List Bool) (l:aS),(pick m l).Sublist l
 | [],l=>by cases l<;>exact List.nil_sublist _
 | true::m,[]=>List.nil_sublist _
 | false::m,[]=>List.nil_sublist _
 | true::m,x::l=>(kc m l).cons_cons x
 | false::m,x::l=>(kc m l).cons x
theorem kA{d:Nat}{l:aS}(h:ex d l=true):Kept d l l:=⟨List.Sublist.refl _,h⟩
theorem kM{d:Nat}{l l':aS}(m:List Bool)(e:pick m l=l')(h:ex d l'=true):Kept d l' l:=⟨by subst e;exact kc m l,h⟩
section
variable{P:Program}{w w0:World}{R:List Nat}{Hs:List Hl}{E:Hl}{a:Act}{o:Oper}{f:FuncId}{args:Array Value}{Rd:World→Prop}{post:Value→Hl→Prop}{v:Value}
def Pure(P:Program)(f:FuncId)(args:Array Value)(Rd:World→Prop)(v:Value):Prop := ∀ w,Rd w→Calls P f args w fun e w'=>e=.returned v∧Below w.heap.size w w'
theorem Pure.does(h:Pure P f args Rd v):Does P f args [] Rd (fun u E'=>u=v∧E'=[]):=fun w _ hR=>(h w hR).mono fun _ _ ⟨h1,h2⟩=>⟨v,[],h1,⟨rfl,rfl⟩,Hold.of_below h2⟩
theorem HH.unpad(h:HH w0 R (Hs++[[]]) w):HH w0 R Hs w:=h.cast (by simp)
theorem vM{n:Nat}{l:aS}{fn:Func}{c:Code}(hf:P.funcs[f]?=some fn)(hb:fn.body=some c)(hn:fn.ntmps=n)(hsz:args.size≤n)(hl:js 0 args.toList=l)
  (h:∀ w,HH w (bks E) [E] w→Rd w→CX P (bodyPost P fn fun e w' => ∃ v E',e=.returned v∧post v E'∧Hold w (bks E) E' w') c ⟨n,[]⟩ l w):Does P f args E Rd post:=fun w hE hR =>
 qe hf hb hn hsz hl (h w hE.start hR)
theorem vO{n:Nat}{l:aS}{fn:Func}{c:Code}(hf:P.funcs[f]?=some fn)(hb:fn.body=some c)(hn:fn.ntmps=n)(hsz:args.size≤n)(hl:js 0 args.toList=l)
  (h:∀ w,HH w [] [] w→Rd w→CX P (bodyPost P fn fun e w'=>e=.returned v∧Below w.heap.size w w') c ⟨n,[]⟩ l w):Pure P f args Rd v:=fun w hR =>
 qe hf hb hn hsz hl (h w (Hold.init w) hR)
theorem pU{P:Program}{f:FuncId}{args:Array Value}{Rd:World→Prop}{v:Value}{n:Nat}{l:aS}{fn:Func}{c:Code}(hf:P.funcs[f]?=some fn)(hn:fn.ntmps=n)(h:∀ w,HH w [] [] w→Rd w→CX P (bodyPost P fn fun e w'=>e=.returned v∧Below w.heap.size w w') c ⟨n,[]⟩ l w)(hb:fn.body=some c:=by exact rfl)(hz:args.size≤n:=by exact Nat.le_of_ble_eq_true rfl)(hl:js 0 args.toList=l:=by exact rfl):Pure P f args Rd v:=vO hf hb hn hz hl h
theorem dU{P:Program}{f:FuncId}{args:Array Value}{Rd:World→Prop}{E:Hl}{post:Value→Hl→Prop}{n:Nat}{l:aS}{fn:Func}{c:Code}(hf:P.funcs[f]?=some fn)(hn:fn.ntmps=n)(h:∀ w,HH w (bks E) [E] w→Rd w→CX P (bodyPost P fn fun e w'=>∃ v E',e=.returned v∧post v E'∧Hold w (bks E) E' w') c ⟨n,[]⟩ l w)(hb:fn.body=some c:=by exact rfl)(hz:args.size≤n:=by exact Nat.le_of_ble_eq_true rfl)(hl:js 0 args.toList=l:=by exact rfl):Does P f args E Rd post:=vM hf hb hn hz hl h
end
structure Cod(α:Type) where
 val:α→Value
 sz:Nat
 row:Bool
 len:∀ a,(val a).cells.size=sz
 one:∀ a,(val a).cells.all (·.oneCell')=true
 agg:row=true → ∀ a,val a=.agg (val a).cells
 scal:row=false → ∀ a,(val a).oneCell'=true
theorem vP{v:Value}(h:v.oneCell'=true):(#[v]:Array Value).all (·.oneCell')=true:=by simp[h]
def Cod.enc{α:Type}(C:Cod α)(a:α):Array Value:=(C.val a).cells
def af:Cod UInt8:=⟨fun b=>.int .u8 (b.toNat:Int),1,false,fun _=>rfl,fun _=>vP rfl,(fun h=>by cases h),fun _ _=>rfl⟩
def eX(k:IntKind):Cod Nat:=⟨fun i=>.int k (i:Int),1,false,fun _=>rfl,fun _=>vP rfl,(fun h=>by cases h),fun _ _=>rfl⟩
def cSl:Cod (Option Addr×Nat×Nat):=⟨fun s=>.slice s.1 s.2.1 s.2.2,1,false,fun _=>rfl,fun _=>vP rfl,(fun h=>by cases h),fun _ _=>rfl⟩
def ac(n:Nat):Cod (Nat→UInt8):=⟨fun f=>.agg (Go.Proofs.YtajppfmjbkebfaaGreatDoor.row n f),n,true,fun f=>bH n f,fun f=>vJ n f,fun _ _=>rfl,(fun h=>by cases h)⟩
def bn{α β:Type}(A:Cod α)(B:Cod β):Cod (α×β) :=
 ⟨fun x=>.agg ((A.val x.1).cells++(B.val x.2).cells),A.sz+B.sz,true,fun x=>by
  show ((A.val x.1).cells++(B.val x.2).cells).size=A.sz+B.sz
  rw[Array.size_append,A.len,B.len],fun x=>by
  show ((A.val x.1).cells++(B.val x.2).cells).all (·.oneCell')=true
  rw[Array.all_append,A.one,B.one];rfl,fun _ _=>rfl,(fun h=>by cases h)⟩
def CC{α β:Type}(f:β→α)(A:Cod α):Cod β:=⟨fun x=>A.val (f x),A.sz,A.row,fun x=>A.len (f x),fun x=>A.one (f x),fun h x=>A.agg h (f x),fun h x=>A.scal h (f x)⟩
section
variable{α β:Type}{C:Cod α}{A:Cod α}{B:Cod β}{w w0 w':World}{b off:Nat}{x:α}{R:List Nat}{Hs:List Hl}
theorem Cod.size(C:Cod α)(x:α):(C.enc x).size=C.sz:=C.len x
theorem bC(x:α×β):(bn A B).enc x=A.enc x.1++B.enc x.2:=rfl
def Holds(C:Cod α)(w:World)(b off:Nat)(x:α):Prop := ∀ j u,(C.enc x)[j]?=some u→w.cell? ⟨b,off+j,none⟩=some u
def HoldsL(C:Cod α)(w:World)(b off:Nat)(l:List α):Prop := ∀ i x,l[i]?=some x→Holds C w b (off+i*C.sz) x
theorem Holds.fst{x:α×β}(h:Holds (bn A B) w b off x):Holds A w b off x.1:=fun j u hu=>h j u (by
 rw[bC,Array.getElem?_append_left (Array.getElem?_eq_some_iff.1 hu).1];exact hu)
theorem Holds.snd{x:α×β}(h:Holds (bn A B) w b off x):Holds B w b (off+A.sz) x.2:=fun j u hu=>by
 have:=h (A.sz+j) u (by
  rw[bC,← A.size x.1,Array.getElem?_append_right (by omega),Nat.add_sub_cancel_left];exact hu)
 rw[Nat.add_assoc]
 exact this
theorem Holds.map{f:β→α}{x:β}(h:Holds (CC f C) w b off x):Holds C w b off (f x):=h
theorem Holds.lt(h:Holds C w b off x)(hp:0<C.sz):b<w.heap.size:=by
 obtain ⟨u,hu⟩:∃ u,(C.enc x)[0]?=some u:=⟨_,Array.getElem?_eq_getElem (by rw[C.size];exact hp)⟩
 exact block_lt_of_cell (h 0 u hu)
theorem Holds.move(h:Holds C w b off x)(hk:w'.heap[b]?=w.heap[b]?):Holds C w' b off x:=fun j u hu=>by
 rw[← h j u hu];exact World.cell?_of_block hk
theorem HoldsL.move{l:List α}(h:HoldsL C w b off l)(hk:w'.heap[b]?=w.heap[b]?):HoldsL C w' b off l:=fun i x hx=>(h i x hx).move hk
theorem i0{g:Nat}{t:TypeId}{cs:Array Value}(h:w.heap[g]?=some (.cells cs t (0,0)))(hc:∀ j u,(C.enc x)[j]?=some u→cs[off+j]?=some u):Holds C w g off x:=fun j u hu=>by
 rw[cell_of_row w g (off+j) cs t (0,0) h];exact hc j u hu
end
section
variable{α β:Type}{C:Cod α}{P:Program}{a:Act}{o:Oper}{w w0:World}{R:List Nat}{Hs:List Hl}{x:Operand}{v:Value}{ty t:TypeId}{b off g:Nat}{cs:Array Value}
def tyOk(P:Program)(ty:TypeId)(C:Cod α):Bool:=(P.underlying ty).map (·.isRow) == some C.row&&(P.info? ty).map (·.size) == some C.sz
theorem tyOk.spec(h:tyOk P ty C=true):(P.underlying ty).map (·.isRow)=some C.row∧(P.info? ty).map (·.size)=some C.sz:=by
 simpa[tyOk] using h
theorem my{y:α}(ho:o.op=.load ty x)(hx:a.eval x=.pointer (some ⟨b,off,none⟩))(hty:tyOk P ty C=true)(h:Holds C w b off y)(hv:C.val y=v):(execOp a.eval o).run P w=.ok (.value v) w:=by
 subst hv
 obtain ⟨h1,h2⟩:=tyOk.spec hty
 cases hr:C.row with
 | true =>
  rw[hr]at h1
  rw[C.agg hr y]
  refine nC ho hx h1 (by rw[h2];exact congrArg some (C.len y).symm) fun j u hu=>h j u hu
 | false =>
  rw[hr]at h1
  have h3:=dr (C.scal hr y)
  refine qb ho hx h1 ?_
  have:=h 0 (C.val y) (by unfold Cod.enc;rw[h3];rfl)
  exact this
theorem vQ(hb:w.heap[g]?=some (.cells cs t (0,0)))(ho:o.op=.load ty x)(hx:a.eval x=.pointer (some ⟨g,off,none⟩))(hdd:(P.underlying ty).map (·.isRow)=some false)(hc:cs[off]?=some v):(execOp a.eval o).run P w=.ok (.value v) w :=
 qb ho hx hdd (by rw[cell_of_row w g off cs t (0,0) hb];exact hc)
end
structure Vu{α:Type}(C:Cod α)(w:World)(A:Option Addr)(n c:Nat)(l:List α):Prop where
 len:l.length=n
 cap:n≤c
 nil:A=none→c=0
 at':0<n → ∃ b off,A=some ⟨b,off,none⟩∧HoldsL C w b off l
section
variable{α:Type}{C:Cod α}{w w0 w':World}{A:Option Addr}{n c:Nat}{l:List α}{R:List Nat}{Hs:List Hl}
theorem Vu.none(C:Cod α)(w:World):Vu C w none 0 0 []:=⟨rfl,Nat.le_refl _,fun _=>rfl,fun h=>absurd h (Nat.lt_irrefl _)⟩
theorem Vu.move(h:Vu C w A n c l)(hk:∀ b off,A=some ⟨b,off,Option.none⟩→0<n→w'.heap[b]?=w.heap[b]?):Vu C w' A n c l :=
 ⟨h.len,h.cap,h.nil,fun hn=>by
  obtain ⟨b,off,hA,hl⟩:=h.at' hn
  exact ⟨b,off,hA,hl.move (hk b off hA hn)⟩⟩
def Off(A:Option Addr)(n:Nat)(R:List Nat):Prop := ∀ b off,A=some ⟨b,off,Option.none⟩→0<n→b ∉ R
theorem Off.nil(A:Option Addr)(n:Nat):Off A n []:=fun _ _ _ _ h=>by cases h
theorem HH.vu(hH:HH w0 R Hs w)(h:Vu C w0 A n c l)(hp:0<C.sz)(ho:Off A n R):Vu C w A n c l:=h.move fun b off hA hn=>by
 obtain ⟨b',off',hA',hl⟩:=h.at' hn
 rw[hA]at hA'
 obtain ⟨rfl,rfl⟩:b=b'∧off=off':=by cases hA';exact ⟨rfl,rfl⟩
 obtain ⟨x,hx⟩:∃ x,l[0]?=some x:=⟨_,List.getElem?_eq_getElem (by rw[h.len];exact hn)⟩
 exact hH.old ((hl 0 x hx).lt hp) (ho b off hA hn)
theorem HH.holdsL{b off:Nat}(hH:HH w0 R Hs w)(h:HoldsL C w0 b off l)(hb:b<w0.heap.size)(ho:b ∉ R):HoldsL C w b off l:=h.move (hH.old hb ho)
def et(A:Option Addr)(c k sz:Nat):Option Addr:=if c=k then A else A.map (·.add (k*sz))
theorem i4(A:Option Addr)(k h c sz:Nat):Go.sliced A k h c sz=.slice (et A c k sz) (h-k) (c-k):=rfl
theorem Vu.cut(h:Vu C w A n c l){k m:Nat}(hk:k≤m)(hm:m≤n):Vu C w (et A c k C.sz) (m-k) (c-k) ((l.take m).drop k):=by
  have hl:=h.len
  have hc:=h.cap
  refine ⟨by rw[List.length_drop,List.length_take];omega,by omega,fun hn => ?_,fun hn => ?_⟩
  · unfold et at hn
    split at hn
    · have:=h.nil hn;omega
    · have:A=Option.none:=by cases A with
        | none=>rfl
        | some a=>cases hn
      have:=h.nil this;omega
  · obtain ⟨b,off,rfl,hL⟩:=h.at' (by omega)
    refine ⟨b,off+k*C.sz,?_,fun i x hx => ?_⟩
    · unfold et
      rw[if_neg (by omega)]
      simp[Addr.add_mid]
    · rw[List.getElem?_drop,List.getElem?_take]at hx
      split at hx
      · have:=hL (k+i) x hx
        rw[Nat.add_mul,← Nat.add_assoc]at this
        exact this
      · cases hx
end
section
variable{P:Program}{a:Act}{o:Oper}{w:World}{x:Operand}{ty e:TypeId}{sz n c k h:Nat}{A:Option Addr}{kl kh:IntKind}{jl jh:Int}{xl xh:Operand}
theorem jQ(ho:o.op=.slice ty x (some xl) (some xh) none)(hu:P.underlying ty=some (.slice e))(hs:(P.info? e).map (·.size)=some sz)(hx:a.eval x=.slice A n c)(hl:a.eval xl=.int kl jl)(hh:a.eval xh=.int kh jh)(hjl:jl=(k:Int))(hjh:jh=(h:Int))(h1:k≤h)(h2:h≤c):
  (execOp a.eval o).run P w=.ok (.value (.slice (et A c k sz) (h-k) (c-k))) w:=by
 subst hjl hjh
 have he:=mw hu
 have hu':P.underlying ty=some (.slice (P.elem ty)):=by rw[he];exact hu
 unfold execOp
 simp only[ho,Option.map_some,Option.map_none,hx,hl,hh,Sem.run_bind,Sem.run_pure,run_sliceAt_slice w ty _ _ _ _ hu',run_slice_lh w ty A n c hu' kl kh (k:Int) (h:Int) (by omega) (by omega) (by omega),he,dE hs,Result.andThen_ok,Int.toNat_natCast,i4]
theorem mz(ho:o.op=.slice ty x (some xl) none none)(hu:P.underlying ty=some (.slice e))(hs:(P.info? e).map (·.size)=some sz)(hx:a.eval x=.slice A n c)(hl:a.eval xl=.int kl jl)(hjl:jl=(k:Int))(h1:k≤n):
  (execOp a.eval o).run P w=.ok (.value (.slice (et A c k sz) (n-k) (c-k))) w:=by
 subst hjl
 have he:=mw hu
 have hu':P.underlying ty=some (.slice (P.elem ty)):=by rw[he];exact hu
 unfold execOp
 simp only[ho,Option.map_some,Option.map_none,hx,hl,Sem.run_bind,Sem.run_pure,run_sliceAt_slice w ty _ _ _ _ hu',run_slice_l w ty A n c hu' kl (k:Int) (by omega) (by omega),he,dE hs,Result.andThen_ok,Int.toNat_natCast,i4]
theorem lJ(A:Option Addr)(c sz:Nat):et A c 0 sz=A:=by
 unfold et
 split
 ·rfl
 ·cases A with
  | none=>rfl
  | some a=>simp[Addr.add]
theorem eY(ho:o.op=.slice ty x none (some xh) none)(hu:P.underlying ty=some (.slice e))(hs:(P.info? e).map (·.size)=some sz)(hx:a.eval x=.slice A n c)(hh:a.eval xh=.int kh jh)(hjh:jh=(h:Int))(h2:h≤c):
  (execOp a.eval o).run P w=.ok (.value (.slice A h c)) w:=by
 subst hjh
 have he:=mw hu
 have hu':P.underlying ty=some (.slice (P.elem ty)):=by rw[he];exact hu
 unfold execOp
 simp only[ho,Option.map_some,Option.map_none,hx,hh,Sem.run_bind,Sem.run_pure,run_sliceAt_slice w ty _ _ _ _ hu',run_slice_h w ty A n c hu' kh (h:Int) (by omega) (by omega),he,dE hs,Result.andThen_ok,Int.toNat_natCast,i4,lJ,Nat.sub_zero]
end
abbrev i5(l:List UInt8):ByteArray:=⟨l.toArray⟩
theorem nG{P:Program}{a:Act}{o:Oper}{w:World}{x:Operand}{src dst e:TypeId}{A:Option Addr}{n c:Nat}{l:List UInt8}(ho:o.op=.convert src dst x)(hs:P.underlying src=some (.slice e))(he:P.underlying e=some (.int .u8))(hd:P.underlying dst=some .string)
  (hx:a.eval x=.slice A n c) (h:Vu af w A n c l):(execOp a.eval o).run P w=.ok (.value (.string (i5 l))) w:=by
 have hr:(convert src dst (.slice A n c)).run P w=.ok (.string (i5 l)) w:=by
  have hl:=h.len
  by_cases hn:0<n
  ·obtain ⟨b,off,rfl,hL⟩:=h.at' hn
   subst hl
   refine run_convert_bytes_back w src dst e ⟨b,off,none⟩ c l hs he hd fun j hj => ?_
   have:=hL j l[j] (List.getElem?_eq_getElem hj) 0 (.int .u8 (l[j].toNat:Int)) rfl
   rw[Addr.add_mid]
   simpa[af] using this
  ·obtain rfl:n=0:=by omega
   obtain rfl:l=[]:=List.eq_nil_of_length_eq_zero hl
   cases A with
   | none =>
    rw[run_convert_bytes_string w _ _ _ none 0 c hs he hd]
    have:=h.nil rfl
    simp[Conv.bytesToString]
    rfl
   | some p=>exact run_convert_bytes_back w src dst e p c [] hs he hd fun j hj=>absurd hj (Nat.not_lt_zero _)
 unfold execOp
 simp only[ho,hx,Sem.run_bind,Sem.run_pure,Result.andThen_ok,hr]
def be{α:Type}(C:Cod α)(l:List α):List Value:=l.flatMap fun a=>(C.enc a).toList
section
variable{α:Type}{C:Cod α}
theorem bD(l:List α):(be C l).length=l.length*C.sz:=by
 induction l with
 | nil=>simp[be]
 | cons a r ih =>
  simp only[be,List.flatMap_cons,List.length_append,Array.length_toList]at ih ⊢
  rw[ih,C.size,List.length_cons,Nat.add_mul,Nat.one_mul,Nat.add_comm]
theorem ek(l r:List α):be C (l++r)=be C l++be C r:=List.flatMap_append ..
theorem tt(x:α):be C [x]=(C.enc x).toList:=by simp[be]
theorem dk:∀ (l:List α) (i j:Nat) (x:α) (u:Value),l[i]?=some x→(C.enc x)[j]?=some u→(be C l)[i*C.sz+j]?=some u
 | [],i,j,x,u,h,_=>by simp at h
 | a::r,0,j,x,u,h,hu=>by
  obtain rfl:a=x:=by simpa using h
  have hj:=(Array.getElem?_eq_some_iff.1 hu).1
  simp only[be,List.flatMap_cons,Nat.zero_mul,Nat.zero_add]
  rw[List.getElem?_append_left (by simpa using hj),Array.getElem?_toList,hu]
 | a::r,i+1,j,x,u,h,hu=>by
  have:=dk r i j x u (by simpa using h) hu
  simp only[be,List.flatMap_cons]
  rw[List.getElem?_append_right (by rw[Array.length_toList,C.size,Nat.add_mul];omega),Array.length_toList,C.size]
  rw[show (i+1)*C.sz+j-C.sz=i*C.sz+j by rw[Nat.add_mul];omega]
  exact this
theorem i6(l:List α):∀ u∈be C l,u.oneCell'=true:=fun u hu=>by
 obtain ⟨a,_,h2⟩:=List.mem_flatMap.1 hu
 have:=C.one a
 rw[Array.all_eq_true_iff_forall_mem]at this
 exact this u (by simpa[Cod.enc] using h2)
theorem nH:∀ (l:List α) (i:Nat) (x:α),i<l.length→be C (l.set i x)=(be C l).take (i*C.sz)++((C.enc x).toList++(be C l).drop (i*C.sz+C.sz))
 | [],i,x,h=>by simp at h
 | a::r,0,x,_=>by
  simp only[List.set_cons_zero,be,List.flatMap_cons,Nat.zero_mul,List.take_zero,List.nil_append,Nat.zero_add]
  congr 1
  rw[List.drop_append_of_le_length (by rw[Array.length_toList,C.size];exact Nat.le_refl _),List.drop_eq_nil_of_le (by rw[Array.length_toList,C.size];exact Nat.le_refl _),List.nil_append]
 | a::r,i+1,x,h=>by
  have ih:=nH r i x (by simpa using h)
  have ea:(C.enc a).toList.length=C.sz:=by rw[Array.length_toList,C.size]
  simp only[List.set_cons_succ,be,List.flatMap_cons]at ih ⊢
  rw[ih,show (i+1)*C.sz=C.sz+i*C.sz by rw[Nat.add_mul,Nat.one_mul,Nat.add_comm]]
  rw[← ea,List.take_length_add_append,Nat.add_assoc,List.drop_length_add_append,List.append_assoc]
end
def OwnT{α:Type}(C:Cod α)(e:TypeId)(v:Value)(l:List α)(E:Hl):Prop:=OwnS e C.sz v l.length (be C l) E
structure Bk{α:Type}(C:Cod α)(cap:Nat)(cur:Array Value)(l:List α):Prop where
 le:l.length≤cap
 max:cap≤maxLen
 size:cur.size=cap*C.sz
 take:cur.toList.take (l.length*C.sz)=be C l
section
variable{α:Type}{C:Cod α}{e:TypeId}{v:Value}{l:List α}{E:Hl}{g cap n:Nat}{cur:Array Value}{w w0:World}{R:List Nat}{Hs:List Hl}
theorem OwnT.nil(C:Cod α)(e:TypeId):OwnT C e (.slice none 0 0) [] []:=OwnS.nil _ _
theorem OwnT.slice(h:OwnT C e v l E):∃ A c,v=.slice A l.length c:=OwnS.slice h
theorem OwnT.cases(h:OwnT C e v l E):(v=.slice none 0 0∧l=[]∧E=[]) ∨ ∃ g cap cur,v=.slice (some ⟨g,0,none⟩) l.length cap∧E=[bl g e cur]∧Bk C cap cur l:=by
 rcases h.2 with ⟨h1,h2,h3⟩ | ⟨g,cap,cur,h1,h2,h3,h4,h5,h6⟩
 ·exact .inl ⟨h1,List.eq_nil_of_length_eq_zero h2,h3⟩
 ·exact .inr ⟨g,cap,cur,h1,h2,h3,h4,h5,h6⟩
theorem OwnT.open(h:OwnT C e v l E)(hn:0<l.length):∃ g cap cur,v=.slice (some ⟨g,0,none⟩) l.length cap∧E=[bl g e cur]∧Bk C cap cur l:=by
 rcases h.cases with ⟨_,h2,_⟩ | h
 ·subst h2;simp at hn
 ·exact h
theorem Bk.own(h:Bk C cap cur l)(e:TypeId)(g:Nat)(hn:l.length=n):OwnT C e (.slice (some ⟨g,0,none⟩) n cap) l [bl g e cur]:=by
 subst hn
 exact ⟨bD l,.inr ⟨g,cap,cur,rfl,rfl,h.le,h.max,h.size,h.take⟩⟩
theorem Bk.cell(h:Bk C cap cur l)(i j:Nat){x:α}{u:Value}(hx:l[i]?=some x)(hu:(C.enc x)[j]?=some u):cur[i*C.sz+j]?=some u:=by
 have h1:=dk l i j x u hx hu
 rw[← h.take,List.getElem?_take]at h1
 split at h1
 ·simpa using h1
 ·cases h1
theorem Bk.holdsL(h:Bk C cap cur l){t:TypeId}(hb:w.heap[g]?=some (.cells cur t (0,0))):HoldsL C w g 0 l:=fun i x hx=>i0 hb fun j u hu=>by
 rw[Nat.zero_add];exact h.cell i j hx hu
theorem Bk.put(h:Bk C cap cur l)(i:Nat)(hi:i<l.length)(x:α):Bk C cap (bJ cur (i*C.sz) (C.enc x).toList) (l.set i x):=by
 have hs:=h.size
 have hle:=h.le
 have hb:i*C.sz+C.sz≤l.length*C.sz:=by
  have:=Nat.mul_le_mul_right C.sz (show i+1≤l.length by omega)
  rw[Nat.add_mul,Nat.one_mul]at this;exact this
 have hc:l.length*C.sz≤cap*C.sz:=Nat.mul_le_mul_right _ hle
 refine ⟨by rw[List.length_set];exact h.le,h.max,by rw[fk];exact hs,?_⟩
 rw[nH l i x hi,List.length_set,← h.take]
 apply List.ext_getElem?
 intro k
 have hlen:(C.enc x).toList.length=C.sz:=by rw[Array.length_toList,C.size]
 have hlt:(List.take (i*C.sz) (List.take (l.length*C.sz) cur.toList)).length=i*C.sz:=by simp;omega
 rw[List.getElem?_take,Array.getElem?_toList,cr,hlen]
 by_cases h1:k<i*C.sz
 ·rw[if_pos (by omega),if_neg (by omega),List.getElem?_append_left (by omega),List.getElem?_take,if_pos h1,List.getElem?_take,if_pos (by omega),Array.getElem?_toList]
 ·rw[List.getElem?_append_right (by omega),hlt]
  by_cases h2:k<i*C.sz+C.sz
  ·rw[if_pos (by omega),if_pos (by omega),List.getElem?_append_left (by omega)]
  ·rw[List.getElem?_append_right (by omega),hlen,List.getElem?_drop,List.getElem?_take]
   by_cases h3:k<l.length*C.sz
   ·rw[if_pos h3,if_neg (by omega),if_pos (by omega),Array.getElem?_toList]
    congr 1;omega
   ·rw[if_neg h3,if_neg (by omega)]
theorem OwnT.vu(h:OwnT C e v l E)(hE:Has E w):∃ A c,v=.slice A l.length c∧Vu C w A l.length c l:=by
 rcases h.cases with ⟨rfl,rfl,rfl⟩ | ⟨g,cap,cur,rfl,rfl,hB⟩
 ·exact ⟨none,0,rfl,Vu.none C w⟩
 ·exact ⟨_,cap,rfl,rfl,hB.le,(fun h=>by cases h),fun _=>⟨g,0,rfl,hB.holdsL (t:=e) (hE.blk (g,_) (by simp))⟩⟩
theorem OwnT.made{l:List α}{cs:Array Value}(hcs:cs.toList=be C l)(hn:l.length≤maxLen)(hl:l.length=n):OwnT C e (.slice (some ⟨g,0,none⟩) n n) l [bl g e cs]:=by
 subst hl
 refine Bk.own ⟨Nat.le_refl _,hn,?_,?_⟩ e g rfl
 ·rw[← Array.length_toList,hcs,bD]
 ·rw[hcs,← bD (C:=C),List.take_length]
end
section
variable{α:Type}{C:Cod α}{P:Program}{a:Act}{o:Oper}{w w0:World}{v:Value}{x y:Operand}{t ty e:TypeId}{g off:Nat}{cs cs':Array Value}{l m:List α}{E:Hl}
theorem bV{z:α}(ho:o.op=.store ty x y)(hx:a.eval x=.pointer (some ⟨g,off,none⟩))(hy:a.eval y=v)(hv:C.val z=v)(hty:tyOk P ty C=true)(hn:off+C.sz≤cs.size)(hcs:bJ cs off (C.enc z).toList=cs'):
  cA P a o [bl g t cs] (fun _=>True) (fun _ E'=>E'=[bl g t cs']):=by
 subst hv
 obtain ⟨h1,h2⟩:=tyOk.spec hty
 cases hr:C.row with
 | true =>
  rw[C.agg hr z]at hy
  exact nD ho hx hy (by rw[h2];exact congrArg some (C.len z).symm) (by rw[C.len];exact hn) (C.one z) hcs
 | false =>
  have h3:=dr (C.scal hr z)
  have hsz:C.sz=1:=by rw[← C.len z,h3];rfl
  refine qc ho hx hy (by rw[h2,hsz]) (by omega) (C.scal hr z) ?_
  rw[← hcs]
  show _=bJ cs off (C.val z).cells.toList
  rw[h3];rfl
theorem cf{n c by_:Nat}{z:Value}{A:Option Addr}(ho:o.op=.call { callee:=.builtin .append,args := #[x,y],argTypes := #[ty,ty] })
  (hu:P.underlying ty=some (.slice e)) (hi:(P.info? e).map (fun i=>(i.zero,i.size,i.bytes))=some (some z,C.sz,by_)) (hzs:z.cells.size=C.sz) (hsz:0<C.sz)
  (hx:a.eval x=v) (hO:OwnT C e v l E) (hy:a.eval y=.slice A n c) (hn:m.length=n) (hA:A=none→n=0∧c=0) (h63:l.length+n≤maxLen) (hbytes:(l.length+n)*by_≤140737488355328) :
  cA P a o E (fun w=>Vu C w A n c m) (fun v' E'=>OwnT C e v' (l++m) E'∧(v'=.slice none 0 0↔v=.slice none 0 0∧n=0)):=fun w hE hR=>by
 subst hn
 have h:=tl (xs:=be C l) (news:=be C m) ho hu hi hzs hsz hx hO hy hA (bD m) (i6 m) h63 hbytes w hE (fun p j u hp hj => ?_)
 ·refine h.mono ?_
  rintro v' w' ⟨E',⟨h1,h2⟩,h3⟩
  refine ⟨E',⟨?_,h2⟩,h3⟩
  unfold OwnT
  rw[List.length_append,ek]
  exact h1
 ·have hlen:j<m.length*C.sz:=by
   have:=(List.getElem?_eq_some_iff.1 hj).1
   rw[bD]at this;exact this
  have hm:0<m.length:=by
   rcases Nat.eq_zero_or_pos m.length with h0 | h0
   ·rw[h0]at hlen;simp at hlen
   ·exact h0
  obtain ⟨b,off,hA',hL⟩:=hR.at' hm
  rw[hp]at hA'
  obtain rfl:=Option.some.inj hA'
  have hdiv:j/C.sz<m.length:=(Nat.div_lt_iff_lt_mul hsz).2 hlen
  have hmod:j%C.sz<C.sz:=Nat.mod_lt _ hsz
  have hx':m[j/C.sz]?=some m[j/C.sz]:=List.getElem?_eq_getElem hdiv
  have hu':(C.enc m[j/C.sz])[j%C.sz]?=some ((C.enc m[j/C.sz])[j%C.sz]'(by rw[C.size];exact hmod)):=Array.getElem?_eq_getElem (by rw[C.size];exact hmod)
  have h1:=dk m _ _ _ _ hx' hu'
  rw[Nat.div_add_mod' j C.sz,hj]at h1
  obtain rfl:=Option.some.inj h1
  have h2:=hL _ _ hx' _ _ hu'
  rw[Addr.add_mid,← h2]
  congr 2
  rw[Nat.add_assoc,Nat.div_add_mod']
end
inductive EvP(a:Act):List (Nat×Operand)→List (Nat×Value)→Prop where
 | nil:EvP a [] []
 | cons {i:Nat} {x:Operand} {v:Value} {xs:List (Nat×Operand)} {vs:List (Nat×Value)} (h:a.eval x=v) (r:EvP a xs vs):EvP a ((i,x)::xs) ((i,v)::vs)
theorem EvP.map{a:Act}{xs:List (Nat×Operand)}{vs:List (Nat×Value)}(h:EvP a xs vs):(xs.toArray.map fun (i,x)=>(i,a.eval x)).toList=vs:=by
 have:xs.map (fun (i,x)=>(i,a.eval x))=vs:=by
  induction h with
  | nil=>rfl
  | cons h _ ih=>rw[List.map_cons,ih,← h]
 simpa using this
theorem aE{P:Program}{a:Act}{o:Oper}{ty:TypeId}{parts:List (Nat×Operand)}{cells:Array Value}{vals:List (Nat×Value)}(ho:o.op=.build ty parts.toArray)(hx:EvP a parts vals)(hb:P.built ty vals=some cells)(w:World):(execOp a.eval o).run P w=.ok (.value (.agg cells)) w :=
 oR ty parts.toArray ho cells vals hx.map hb w
def tu:List Nat→List Value→Prop
 | [],[]=>True
 | s::ss,v::vs=>v.cells.size=s∧tu ss vs
 | _,_=>False
def dG:Nat→List Nat→List (Nat×Nat)
 | _,[]=>[]
 | off,s::ss=>(off,s)::dG (off+s) ss
def fl:Nat→List Value→List (Nat×Value)
 | _,[]=>[]
 | i,v::vs=>(i,v)::fl (i+1) vs
def dK(P:Program)(ty:TypeId)(ss:List Nat):Bool :=
 match P.info? ty,P.underlying ty with
 | some it,some (.struct fields) =>
  match it.zero,fields.toList.mapM (fun f=>(P.info? f.type).map fun i=>(f.offset,i.size)) with
  | some z,some places=>places == dG 0 ss&&z.cells.size == ss.sum
  | _,_=>false
 | _,_=>false
def gN(vs:List Value):List Value:=vs.flatMap fun v=>v.cells.toList
theorem fm:∀ (l:List Value) (off:Nat) (cs:Array Value) (s:Nat),(l.zipIdx s).foldl (fun cs (x:Value×Nat)=>cs.setIfInBounds (off+x.2) x.1) cs=bJ cs (off+s) l
 | [],_,_,_=>rfl
 | v::r,off,cs,s=>by
  simp only[List.zipIdx_cons,List.foldl_cons]
  rw[fm r off _ (s+1)]
  rfl
theorem jy(pre z vs:List Value)(off:Nat)(hp:pre.length=off)(hz:vs.length≤z.length):bJ (pre++z).toArray off vs=(pre++(vs++z.drop vs.length)).toArray:=by
 apply Array.ext_getElem?
 intro k
 rw[cr]
 simp only[List.getElem?_toArray,List.size_toArray,List.length_append]
 by_cases h1:k<off
 ·rw[if_neg (by omega),List.getElem?_append_left (by omega),List.getElem?_append_left (by omega)]
 ·by_cases h2:k<off+vs.length
  ·rw[if_pos (by omega),List.getElem?_append_right (by omega),List.getElem?_append_left (by omega),hp]
  ·rw[if_neg (by omega),List.getElem?_append_right (by omega),List.getElem?_append_right (by omega),List.getElem?_append_right (by omega),hp,List.getElem?_drop]
   congr 1;omega
theorem eG:∀ (ss:List Nat) (off i s:Nat),ss[i]?=some s→(dG off ss)[i]?=some (off+(ss.take i).sum,s)
 | [],_,_,_,h=>by simp at h
 | t::ss,off,0,s,h=>by
  obtain rfl:t=s:=by simpa using h
  simp[dG]
 | t::ss,off,i+1,s,h=>by
  have:=eG ss (off+t) i s (by simpa using h)
  simp only[dG,List.getElem?_cons_succ,this,List.take_succ_cons,List.sum_cons]
  congr 2;omega
theorem nI(ss:List Nat):∀ (vs:List Value) (i:Nat) (pre z:List Value),tu (ss.drop i) vs→pre.length=(ss.take i).sum→z.length=(ss.drop i).sum →
  Instr.fill ((dG 0 ss).toArray[·]?) (pre++z).toArray (fl i vs)=some (pre++gN vs).toArray
 | [],i,pre,z,hs,_,hz=>by
  have h0:ss.drop i=[]:=by
   cases h:ss.drop i with
   | nil=>rfl
   | cons a b=>rw[h]at hs;exact hs.elim
  rw[h0]at hz
  obtain rfl:z=[]:=List.eq_nil_of_length_eq_zero (by simpa using hz)
  simp[fl,Instr.fill,gN]
 | v::vs,i,pre,z,hs,hp,hz=>by
  obtain ⟨s,r,hd⟩:∃ s r,ss.drop i=s::r:=by
   cases h:ss.drop i with
   | nil=>rw[h]at hs;exact hs.elim
   | cons a b=>exact ⟨a,b,rfl⟩
  rw[hd]at hs hz
  obtain ⟨hv,hs⟩:=hs
  have hi:ss[i]?=some s:=by
   have:=congrArg (fun l=>l[0]?) hd
   simpa using this
  have hr:ss.drop (i+1)=r:=by
   have:=congrArg (fun l=>l.drop 1) hd
   simpa[List.drop_drop,Nat.add_comm] using this
  have hpl:=eG ss 0 i s hi
  rw[Nat.zero_add]at hpl
  rw[List.sum_cons]at hz
  simp only[fl]
  unfold Instr.fill
  simp only[List.getElem?_toArray,hpl,hv]
  rw[if_neg (by simp;omega)]
  have hf:=fm v.cells.toList (ss.take i).sum (pre++z).toArray 0
  rw[Nat.add_zero]at hf
  rw[← Array.foldl_toList,Array.toList_zipIdx,hf,jy pre z v.cells.toList _ hp (by rw[Array.length_toList,hv];omega),← List.append_assoc]
  have ih:=nI ss vs (i+1) (pre++v.cells.toList) (z.drop v.cells.toList.length) (by rw[hr];exact hs) (by
   rw[List.length_append,hp,Array.length_toList,hv,List.take_add_one,hi]
   simp) (by
   have e:v.cells.toList.length=s:=by rw[Array.length_toList,hv]
   rw[List.length_drop,e,hr];omega)
  simp only[List.getElem?_toArray]at ih
  rw[ih]
  simp[gN]
theorem i7{P:Program}{ty:TypeId}{vs:List Value}(ss:List Nat)(h:dK P ty ss=true)(hs:tu ss vs):P.built ty (fl 0 vs)=some (gN vs).toArray:=by
 unfold dK at h
 unfold Program.built
 cases hi:P.info? ty with
 | none=>rw[hi]at h;cases h
 | some it =>
  cases hu:P.underlying ty with
  | none=>rw[hi,hu]at h;cases h
  | some d =>
   rw[hi,hu]at h
   cases d<;>try (cases h;done)
   rename_i fields
   simp only at h ⊢
   cases hz:it.zero with
   | none=>rw[hz]at h;cases h
   | some z =>
    cases hp:fields.toList.mapM (fun f=>(P.info? f.type).map fun i=>(f.offset,i.size)) with
    | none=>rw[hz,hp]at h;cases h
    | some places =>
     rw[hz,hp]at h
     simp only[Bool.and_eq_true,beq_iff_eq]at h
     obtain ⟨rfl,h2⟩:=h
     have:=nI ss vs 0 [] z.cells.toList (by simpa using hs) (by simp) (by simpa using h2)
     simpa using this
theorem eH{P:Program}{ty:TypeId}{α β:Type}{A:Cod α}{B:Cod β}{u v:Value}{x:α×β}(h:dK P ty [A.sz,B.sz]=true)(hu:A.val x.1=u)(hv:B.val x.2=v):P.built ty [(0,u),(1,v)]=some ((bn A B).enc x):=by
 subst hu hv
 rw[show [(0,A.val x.1),(1,B.val x.2)]=fl 0 [A.val x.1,B.val x.2] from rfl,i7 (vs:=[A.val x.1,B.val x.2]) [A.sz,B.sz] h ⟨A.len _,B.len _,trivial⟩,bC]
 congr 1
 apply Array.ext'
 simp[gN,Cod.enc]
theorem qg{P:Program}{ty:TypeId}{α0 α1 α2:Type}{A0:Cod α0}{A1:Cod α1}{A2:Cod α2}{u0 u1 u2:Value}{x:α0×α1×α2}(h:dK P ty [A0.sz,A1.sz,A2.sz]=true)(h0:A0.val x.1=u0)(h1:A1.val x.2.1=u1)(h2:A2.val x.2.2=u2):P.built ty [(0,u0),(1,u1),(2,u2)]=some ((bn A0 (bn A1 A2)).enc x):=by
 subst h0 h1 h2
 rw[show [(0,A0.val x.1),(1,A1.val x.2.1),(2,A2.val x.2.2)]=fl 0 [A0.val x.1,A1.val x.2.1,A2.val x.2.2] from rfl,i7 (vs:=[A0.val x.1,A1.val x.2.1,A2.val x.2.2]) [A0.sz,A1.sz,A2.sz] h ⟨A0.len _,A1.len _,A2.len _,trivial⟩]
 rw[show (bn A0 (bn A1 A2)).enc x=A0.enc x.1++(A1.enc x.2.1++(A2.enc x.2.2)) from rfl]
 congr 1
 apply Array.ext'
 simp[gN,Cod.enc]
theorem gl{P:Program}{ty:TypeId}{α0 α1 α2 α3:Type}{A0:Cod α0}{A1:Cod α1}{A2:Cod α2}{A3:Cod α3}{u0 u1 u2 u3:Value}{x:α0×α1×α2×α3}(h:dK P ty [A0.sz,A1.sz,A2.sz,A3.sz]=true)(h0:A0.val x.1=u0)(h1:A1.val x.2.1=u1)(h2:A2.val x.2.2.1=u2)(h3:A3.val x.2.2.2=u3):P.built ty [(0,u0),(1,u1),(2,u2),(3,u3)]=some ((bn A0 (bn A1 (bn A2 A3))).enc x):=by
 subst h0 h1 h2 h3
 rw[show [(0,A0.val x.1),(1,A1.val x.2.1),(2,A2.val x.2.2.1),(3,A3.val x.2.2.2)]=fl 0 [A0.val x.1,A1.val x.2.1,A2.val x.2.2.1,A3.val x.2.2.2] from rfl,i7 (vs:=[A0.val x.1,A1.val x.2.1,A2.val x.2.2.1,A3.val x.2.2.2]) [A0.sz,A1.sz,A2.sz,A3.sz] h ⟨A0.len _,A1.len _,A2.len _,A3.len _,trivial⟩]
 rw[show (bn A0 (bn A1 (bn A2 A3))).enc x=A0.enc x.1++(A1.enc x.2.1++(A2.enc x.2.2.1++(A3.enc x.2.2.2))) from rfl]
 congr 1
 apply Array.ext'
 simp[gN,Cod.enc]
section
variable{P:Program}{a:Act}{o:Oper}{w:World}{x:Operand}{src dst:TypeId}
theorem jR{k k':IntKind}{n z:Int}(ho:o.op=.convert src dst x)(hs:(P.underlying src).isSome=true)(hd:P.underlying dst=some (.int k'))(hx:a.eval x=.int k n)(hz:k'.wrap n=z):(execOp a.eval o).run P w=.ok (.value (.int k' z)) w:=by
 subst hz
 have hk:P.intKind dst=k':=by simp[Program.intKind,hd]
 have hr:=run_convert_int (P:=P) (w:=w) src dst k n hs (by rw[hk];exact hd)
 unfold execOp
 simp only[ho,hx,Sem.run_bind,Sem.run_pure,hr,hk,Result.andThen_ok]
end
theorem wI{x z:Int}(h:x=z)(h1:-9223372036854775808≤z)(h2:z≤9223372036854775807):IntKind.i64.wrap x=z:=by
 subst h
 simp only[IntKind.wrap]
 first | omega | (simp[IntKind.signed,IntKind.bits];omega)
theorem dc{p q:Prop}[Decidable p][Decidable q](h:p↔q):decide p=decide q:=by
 by_cases hp:p
 ·rw[decide_eq_true hp,decide_eq_true (h.1 hp)]
 ·rw[decide_eq_false hp,decide_eq_false fun hq=>hp (h.2 hq)]
theorem dO{a b:Nat}:((a:Int)).tdiv (b:Int)=((a/b:Nat):Int):=rfl
theorem bW{a b:Nat}:((a:Int)).tmod (b:Int)=((a%b:Nat):Int):=rfl
section
variable{P:Program}{ops:Array Oper}{Q:Exit→Act→World→Prop}{rest:List Oper}{w:World}{n:Sz}{m k:Nat}{l l1 l2:aS}{p:Prop}[Decidable p]{b:Bool}{Ss:gM}{L:Array Bool}
theorem Fr.set{a:Act}{v v':Value}(hF:Fr n l a)(i:Nat)(hi:l[i]?=some (k,v))(e:v=v'):Fr n (l.set i (k,v')) a:=by
 subst e
 refine hF.of fun z hz => ?_
 obtain ⟨j,hj,rfl⟩:=List.mem_iff_getElem.1 hz
 rw[List.getElem_set]
 split
 ·exact List.mem_of_getElem? hi
 ·exact List.getElem_mem _
theorem eI(i:Nat)(hi:l[i]?=some (k,.bool (decide p)))(h1:l.set i (k,.bool true)=l1)(h2:l.set i (k,.bool false)=l2)(ht:p→PX P ops Q rest n l1 w)(hf:¬ p→PX P ops Q rest n l2 w):PX P ops Q rest n l w:=fun a hF=>by
 subst h1 h2
 by_cases h:p
 ·exact ht h a (hF.set i hi (by rw[decide_eq_true h]))
 ·exact hf h a (hF.set i hi (by rw[decide_eq_false h]))
theorem tx(i:Nat)(hi:l[i]?=some (k,.bool (decide p)))(h1:l.set i (k,.bool true)=l1)(h2:l.set i (k,.bool false)=l2)(ht:p→RX P ops Q m Ss L n l1 w)(hf:¬ p→RX P ops Q m Ss L n l2 w):RX P ops Q m Ss L n l w:=fun h0 hc hs a hF=>by
 subst h1 h2
 by_cases h:p
 ·exact ht h h0 hc hs a (hF.set i hi (by rw[decide_eq_true h]))
 ·exact hf h h0 hc hs a (hF.set i hi (by rw[decide_eq_false h]))
end
section
variable{α:Type}{C:Cod α}{w w0:World}{g:Nat}{t:TypeId}{x:α}{l:List α}{cap:Nat}{cur:Array Value}{A:Option Addr}{n c:Nat}{R:List Nat}
theorem ae(h:w.heap[g]?=some (.cells (C.enc x) t (0,0))):Holds C w g 0 x:=i0 h fun j u hu=>by rw[Nat.zero_add];exact hu
theorem cy(C:Cod α)(x z:α):bJ (C.enc x) 0 (C.enc z).toList=C.enc z:=by
 apply Array.ext_getElem?
 intro k
 rw[cr,Array.length_toList,C.size,C.size]
 by_cases hk:k<C.sz
 ·rw[if_pos (by omega),Nat.sub_zero,Array.getElem?_toList]
 ·rw[if_neg (by omega),Array.getElem?_eq_none (by rw[C.size];omega),Array.getElem?_eq_none (by rw[C.size];omega)]
theorem eZ(h:Bk C cap cur l)(i:Nat)(hi:i<l.length)(x:α):Bk C cap (bJ cur (0+i*C.sz) (C.enc x).toList) (l.set i x):=by rw[Nat.zero_add];exact h.put i hi x
theorem ed(h:Bk C cap cur l){i:Nat}(hi:i<l.length):0+i*C.sz+C.sz≤cur.size:=by
 rw[h.size,Nat.zero_add]
 have:=Nat.mul_le_mul_right C.sz (show i+1≤cap by have:=h.le;omega)
 rw[Nat.add_mul,Nat.one_mul]at this
 exact this
theorem ck(l:List α)(i:Nat)(h:i<l.length):∃ x,l[i]?=some x:=⟨_,List.getElem?_eq_getElem h⟩
theorem Vu.blk(h:Vu C w0 A n c l)(hp:0<C.sz)(hO:Off A n R)(hn:0<n):∃ b off,A=some ⟨b,off,Option.none⟩∧HoldsL C w0 b off l∧b<w0.heap.size∧b ∉ R:=by
 obtain ⟨b,off,hA,hL⟩:=h.at' hn
 obtain ⟨x,hx⟩:=ck l 0 (by rw[h.len];exact hn)
 exact ⟨b,off,hA,hL,(hL 0 x hx).lt hp,hO b off hA hn⟩
end
theorem ltb{a b:Nat}(h:Nat.blt a b=true):a<b:=by simpa[Nat.blt_eq] using h
theorem leb{a b:Nat}(h:Nat.ble a b=true):a≤b:=Nat.le_of_ble_eq_true h
theorem qh{α:Type}{l:List α}{i:Nat}{x:α}(h:l[i]?=some x):l.drop i=x::l.drop (i+1):=by
 obtain ⟨hi,rfl⟩:=List.getElem?_eq_some_iff.1 h
 exact List.drop_eq_getElem_cons hi
theorem Bk.lit1{α:Type}{C:Cod α}(x:α):Bk C 1 (C.enc x) [x]:=⟨Nat.le_refl _,by unfold maxLen;decide,by rw[C.size,Nat.one_mul],by
 rw[tt,List.length_singleton,Nat.one_mul,← C.size x,← Array.length_toList,List.take_length]⟩
theorem Bk.lit0{α:Type}{C:Cod α}:Bk C 0 #[] []:=⟨Nat.le_refl _,Nat.zero_le _,by simp,by simp[be]⟩
theorem Bk.vu{α:Type}{C:Cod α}{cap:Nat}{cur:Array Value}{l:List α}{w:World}{g n:Nat}{t:TypeId}(h:Bk C cap cur l)(hb:w.heap[g]?=some (.cells cur t (0,0)))(hn:l.length=n):Vu C w (some ⟨g,0,none⟩) n cap l :=
 ⟨hn,hn▸h.le,(fun h=>by cases h),fun _=>⟨g,0,rfl,h.holdsL hb⟩⟩
theorem kd{α:Type}(C:Cod α)(z:α)(n:Nat)(hsz:0<C.sz):(madeCells (C.enc z) (n*C.sz)).toList=be C (List.replicate n z):=by
 apply List.ext_getElem?
 intro k
 have hlen:(be C (List.replicate n z)).length=n*C.sz:=by rw[bD,List.length_replicate]
 by_cases hk:k<n*C.sz
 ·have hdiv:k/C.sz<n:=(Nat.div_lt_iff_lt_mul hsz).2 hk
  have hmod:k%C.sz<C.sz:=Nat.mod_lt _ hsz
  have hu:(C.enc z)[k%C.sz]?=some ((C.enc z)[k%C.sz]'(by rw[C.size];exact hmod)):=Array.getElem?_eq_getElem (by rw[C.size];exact hmod)
  have h1:=dk (C:=C) (List.replicate n z) (k/C.sz) (k%C.sz) z _ (by simp[hdiv]) hu
  rw[Nat.div_add_mod' k C.sz]at h1
  rw[h1]
  have hm:(C.enc z).size=C.sz:=C.size z
  simp only[madeCells,Array.toList_map,Array.toList_range,List.getElem?_map,List.getElem?_range hk,Option.map_some]
  congr 1
  have e:k%(C.enc z).size=k%C.sz:=by rw[hm]
  simp only[e]
  exact getElem!_pos _ _ (by rw[hm];exact hmod)
 ·rw[List.getElem?_eq_none (by rw[Array.length_toList,size_madeCells];omega),List.getElem?_eq_none (by rw[hlen];omega)]
theorem Bk.make{α:Type}{C:Cod α}(z:α)(n:Nat)(hsz:0<C.sz)(hn:n≤maxLen):Bk C n (madeCells (C.enc z) (n*C.sz)) (List.replicate n z):=by
 refine ⟨by rw[List.length_replicate];exact Nat.le_refl _,hn,by simp[madeCells],?_⟩
 rw[kd C z n hsz,List.length_replicate]
 have:(be C (List.replicate n z)).length=n*C.sz:=by rw[bD,List.length_replicate]
 rw[← this,List.take_length]
theorem HH.apart{w0 w:World}{R:List Nat}{Hs:List Hl}(h:HH w0 R Hs w){i j:Nat}{E F:Hl}(hi:Hs[i]?=some E)(hj:Hs[j]?=some F)(hij:i≠j):∀ x∈E,∀ y∈F,x.1≠y.1:=by
 have key:∀ {i j:Nat} {E F:Hl},Hs[i]?=some E→Hs[j]?=some F→i<j → ∀ x∈E,∀ y∈F,x.1≠y.1:=fun {i j E F} hi hj hij x hx y hy=>by
  have hn:=Hold.has h |>.ne
  obtain ⟨L,L',h1,_⟩:=ec hi
  have hd:Hs=Hs.take i++(E::Hs.drop (i+1)):=by
   rw[← qh hi,List.take_append_drop]
  have hy':y∈(Hs.drop (i+1)).flatten:=List.mem_flatten.2 ⟨F,by
   have:(Hs.drop (i+1))[j-(i+1)]?=some F:=by rw[List.getElem?_drop,← hj];congr 1;omega
   exact List.mem_of_getElem? this,hy⟩
  rw[hd,List.flatten_append,List.flatten_cons]at hn
  have hn2:=(List.pairwise_append.1 hn).2.1
  exact (List.pairwise_append.1 hn2).2.2 x hx y hy'
 rcases Nat.lt_or_ge i j with h1 | h1
 ·exact key hi hj h1
 ·intro x hx y hy e
  exact key hj hi (by omega) y hy x hx e.symm
theorem HH.pick{w0 w:World}{R:List Nat}{Hs Hs':List Hl}(h:HH w0 R Hs w)(is:List Nat)(hi:is.map (fun i=>Hs[i]?)=Hs'.map some)(hn:is.Nodup):Hold w0 R Hs'.flatten w:=by
 have hlen:is.length=Hs'.length:=by simpa using congrArg List.length hi
 have hget:∀ (k:Nat) (E:Hl),Hs'[k]?=some E → ∃ i,is[k]?=some i∧Hs[i]?=some E:=fun k E hE=>by
  have h1:=congrArg (fun l=>l[k]?) hi
  simp only[List.getElem?_map,hE,Option.map_some]at h1
  cases hk:is[k]? with
  | none=>rw[hk]at h1;cases h1
  | some i=>rw[hk]at h1;exact ⟨i,rfl,by simpa using h1⟩
 have hmem:∀ E∈Hs',∃ i,Hs[i]?=some E:=fun E hE=>by
  obtain ⟨k,hk⟩:=List.getElem?_of_mem hE
  obtain ⟨i,_,hi⟩:=hget k E hk
  exact ⟨i,hi⟩
 have hsub:∀ x∈Hs'.flatten,x∈Hs.flatten:=fun x hx=>by
  obtain ⟨E,hE,hx⟩:=List.mem_flatten.1 hx
  obtain ⟨i,hi⟩:=hmem E hE
  exact List.mem_flatten.2 ⟨E,List.mem_of_getElem? hi,hx⟩
 have h0:Hold w0 R Hs.flatten w:=h
 refine ⟨h0.os,h0.tape,h0.output,h0.size,fun x hx=>h0.blk x (hsub x hx),?_,fun x hx=>h0.own x (hsub x hx),h0.frame⟩
 refine List.pairwise_flatten.2 ⟨fun E hE => ?_,?_⟩
 ·obtain ⟨i,hi⟩:=hmem E hE
  exact (h.has i hi).ne
 ·rw[List.pairwise_iff_getElem]
  intro a b ha hb hab x hx y hy
  obtain ⟨i,hia,hi⟩:=hget a _ (List.getElem?_eq_getElem ha)
  obtain ⟨j,hjb,hj⟩:=hget b _ (List.getElem?_eq_getElem hb)
  refine h.apart hi hj (fun e => ?_) x hx y hy
  subst e
  obtain ⟨ha',ea⟩:=List.getElem?_eq_some_iff.1 hia
  obtain ⟨hb',eb⟩:=List.getElem?_eq_some_iff.1 hjb
  have:=List.pairwise_iff_getElem.1 hn a b ha' hb' hab
  exact this (ea.trans eb.symm)
theorem HH.off{α:Type}{C:Cod α}{w0 w:World}{R:List Nat}{Hs:List Hl}{A:Option Addr}{n c:Nat}{l:List α}{E:Hl}(hH:HH w0 R Hs w)(k:Nat)(hk:Hs[k]?=some E)(hV:Vu C w0 A n c l)(hp:0<C.sz)(ho:Off A n R):Off A n (bks E):=fun b off hA hn hm=>by
 obtain ⟨b',off',hA',hL⟩:=hV.at' hn
 rw[hA]at hA'
 obtain rfl:b=b':=by injection hA' with h;injection h
 obtain ⟨x,hx⟩:∃ x,l[0]?=some x:=⟨_,List.getElem?_eq_getElem (by rw[hV.len];exact hn)⟩
 have hlt:=(hL 0 x hx).lt hp
 obtain ⟨y,hy,e⟩:=List.mem_map.1 hm
 rcases Hold.own hH y (List.mem_flatten.2 ⟨E,List.mem_of_getElem? hk,hy⟩) with h1 | h1
 ·omega
 ·exact ho b off hA hn (e▸h1)
theorem HH.off2{w0 w:World}{R:List Nat}{Hs:List Hl}{g off n:Nat}{t:TypeId}{cs:Array Value}{E:Hl}(hH:HH w0 R Hs w)(k j:Nat)(hk:Hs[k]?=some E)(hj:Hs[j]?=some [bl g t cs])(hkj:(k == j)=false):Off (some ⟨g,off,none⟩) n (bks E):=fun b off' hA _ hm=>by
 obtain rfl:g=b:=by injection hA with h;injection h
 obtain ⟨y,hy,e⟩:=List.mem_map.1 hm
 exact hH.apart hk hj (by simpa using hkj) y hy _ (List.mem_singleton.2 rfl) e
theorem HoldsL.cut{α:Type}{C:Cod α}{w:World}{b off:Nat}{l:List α}(h:HoldsL C w b off l)(k m:Nat):HoldsL C w b (off+k*C.sz) ((l.take m).drop k):=fun i x hx=>by
 rw[List.getElem?_drop,List.getElem?_take]at hx
 split at hx
 ·have:=h (k+i) x hx
  rw[Nat.add_mul,← Nat.add_assoc]at this
  exact this
 ·cases hx
theorem Vu.from{α:Type}{C:Cod α}{w:World}{A:Option Addr}{n c:Nat}{l:List α}(h:Vu C w A n c l){k:Nat}(hk:k≤n):Vu C w (et A c k C.sz) (n-k) (c-k) (l.drop k):=by
 have:=h.cut hk (Nat.le_refl n)
 rw[← h.len,List.take_length,h.len]at this
 exact this
theorem bu{b off c k sz:Nat}(h:k<c):et (some ⟨b,off,none⟩) c k sz=some ⟨b,off+k*sz,none⟩:=by
 unfold et
 rw[if_neg (by omega)]
 simp[Addr.add_mid]
def cutF(l:List UInt8)(k:Nat):Nat→UInt8:=fun j=>l.getD (k+j) 0
def lst(n:Nat)(f:Nat→UInt8):List UInt8:=(List.range n).map f
theorem ap(n:Nat)(f:Nat→UInt8):(lst n f).length=n:=by simp[lst]
theorem bB{n:Nat}{f:Nat→UInt8}{i:Nat}(h:i<n):(lst n f)[i]?=some (f i):=by simp[lst,h]
theorem cX(n:Nat)(f:Nat→UInt8):(ac n).enc f=row n f:=rfl
theorem HoldsL.arr{w:World}{b off:Nat}{l:List UInt8}(h:HoldsL af w b off l)(k n:Nat)(hk:k+n≤l.length):Holds (ac n) w b (off+k*1) (cutF l k):=fun j u hu=>by
 have hj:j<n:=by
  have:=(Array.getElem?_eq_some_iff.1 hu).1
  rwa [cX,bH]at this
 rw[cX,ce n _ j hj]at hu
 obtain rfl:=Option.some.inj hu
 have hx:l[k+j]?=some (cutF l k j):=by
  unfold cutF
  rw[List.getD_eq_getElem?_getD,List.getElem?_eq_getElem (by omega)];rfl
 have:=h (k+j) _ hx 0 (by8 (cutF l k j)) rfl
 rw[Nat.mul_one,Nat.add_assoc]
 simpa[af] using this
theorem ke(n:Nat)(f:Nat→UInt8):be af (lst n f)=(row n f).toList:=by
 apply List.ext_getElem?
 intro j
 by_cases hj:j<n
 ·have:=dk (C:=af) (lst n f) j 0 (f j) (by8 (f j)) (bB hj) rfl
  rw[show j*af.sz+0=j from Nat.mul_one j]at this
  rw[this,Array.getElem?_toList (xs:=row n f),ce n f j hj]
 ·rw[List.getElem?_eq_none (by rw[bD,ap];show n*1≤j;omega),List.getElem?_eq_none (by rw[Array.length_toList,bH];omega)]
theorem eJ{w:World}{g n:Nat}{f:Nat→UInt8}{t:TypeId}(hb:w.heap[g]?=some (.cells ((ac n).enc f) t (0,0))):HoldsL af w g 0 (lst n f):=fun i x hx=>by
 have hi:i<n:=by
  have:=(List.getElem?_eq_some_iff.1 hx).1
  rwa [ap]at this
 rw[bB hi]at hx
 obtain rfl:=Option.some.inj hx
 refine i0 hb fun j u hu => ?_
 obtain rfl:j=0:=by
  have:j<1:=(Array.getElem?_eq_some_iff.1 hu).1
  omega
 obtain rfl:=Option.some.inj hu
 rw[Nat.zero_add,show i*af.sz+0=i from Nat.mul_one i,cX,ce n f i hi]
 rfl
theorem bp{w:World}{g n:Nat}{f:Nat→UInt8}{t:TypeId}(hb:w.heap[g]?=some (.cells ((ac n).enc f) t (0,0))):Vu af w (some ⟨g,0,none⟩) n n (lst n f) :=
 ⟨ap n f,Nat.le_refl _,(fun h=>by cases h),fun _=>⟨g,0,rfl,eJ hb⟩⟩
section
variable{α:Type}{C:Cod α}{P:Program}{a:Act}{o:Oper}{w w0:World}{v:Value}{x y:Operand}{t ty ty2 e:TypeId}{g off cap k:Nat}{cs cs' cur:Array Value}{l m:List α}{E:Hl}
theorem Bk.copy(h:Bk C cap cur l)(k:Nat)(m:List α)(hk:k+m.length≤l.length):Bk C cap (bJ cur (0+k*C.sz) (be C m)) (l.take k++(m++l.drop (k+m.length))):=by
 have hs:=h.size
 have hle:=h.le
 have hl:(l.take k++(m++l.drop (k+m.length))).length=l.length:=by simp;omega
 have hb:k*C.sz+m.length*C.sz≤l.length*C.sz:=by rw[← Nat.add_mul];exact Nat.mul_le_mul_right _ hk
 have hc:l.length*C.sz≤cap*C.sz:=Nat.mul_le_mul_right _ hle
 have hfl:(be C l).length=l.length*C.sz:=bD l
 refine ⟨by rw[hl];exact hle,h.max,by rw[fk];exact hs,?_⟩
 have e1:be C (l.take k)=(be C l).take (k*C.sz):=by
  have:=ek (C:=C) (l.take k) (l.drop k)
  rw[List.take_append_drop]at this
  rw[this]
  have h1:(be C (l.take k)).length=k*C.sz:=by rw[bD,List.length_take];congr 1;omega
  rw[← h1,List.take_left']
  rfl
 have e2:be C (l.drop (k+m.length))=(be C l).drop (k*C.sz+m.length*C.sz):=by
  have:=ek (C:=C) (l.take (k+m.length)) (l.drop (k+m.length))
  rw[List.take_append_drop]at this
  rw[this]
  have h1:(be C (l.take (k+m.length))).length=k*C.sz+m.length*C.sz:=by rw[bD,List.length_take,← Nat.add_mul];congr 1;omega
  rw[← h1,List.drop_left']
  rfl
 rw[hl,ek,ek,e1,e2,Nat.zero_add,← h.take]
 apply List.ext_getElem?
 intro j
 have hlen:(be C m).length=m.length*C.sz:=bD m
 have hlt:(List.take (k*C.sz) (List.take (l.length*C.sz) cur.toList)).length=k*C.sz:=by simp;omega
 rw[List.getElem?_take,Array.getElem?_toList,cr,hlen]
 by_cases h1:j<k*C.sz
 ·rw[if_pos (by omega),if_neg (by omega),List.getElem?_append_left (by omega),List.getElem?_take,if_pos h1,List.getElem?_take,if_pos (by omega),Array.getElem?_toList]
 ·rw[List.getElem?_append_right (by omega),hlt]
  by_cases h2:j<k*C.sz+m.length*C.sz
  ·rw[if_pos (by omega),if_pos (by omega),List.getElem?_append_left (by omega)]
  ·rw[List.getElem?_append_right (by omega),hlen,List.getElem?_drop,List.getElem?_take]
   by_cases h3:j<l.length*C.sz
   ·rw[if_pos h3,if_neg (by omega),if_pos (by omega),Array.getElem?_toList]
    congr 1;omega
   ·rw[if_neg h3,if_neg (by omega)]
theorem fE(h:Bk C cap cur l){k n:Nat}(hk:k+n≤l.length):0+k*C.sz+n*C.sz≤cur.size:=by
 rw[h.size,Nat.zero_add,← Nat.add_mul]
 exact Nat.mul_le_mul_right _ (Nat.le_trans hk h.le)
theorem OwnT.capLe{A:Option Addr}{n c:Nat}(h:OwnT C e (.slice A n c) l E):n≤c:=by
 rcases h.cases with ⟨h1,_,_⟩ | ⟨g,cap,cur,h1,_,hB⟩
 ·injection h1 with _ h2 h3;omega
 ·injection h1 with _ h2 h3;have:=hB.le;omega
theorem ef{dn dc sn sc:Nat}{A:Option Addr}(ho:o.op=.call { callee:=.builtin .copy,args := #[x,y],argTypes := #[ty,ty2] })
  (hu:P.underlying ty=some (.slice e)) (hs:(P.info? e).map (·.size)=some C.sz) (hsz:0<C.sz) (hx:a.eval x=.slice (some ⟨g,off,none⟩) dn dc) (hy:a.eval y=.slice A sn sc)
  (hk:sn≤dn) (hm:m.length=sn) (hfit:off+sn*C.sz≤cs.size) (hcs:bJ cs off (be C m)=cs') :
  cA P a o [bl g t cs] (fun w=>Vu C w A sn sc m) (fun v' E'=>v'=.int .i64 (sn:Int)∧E'=[bl g t cs']):=fun w hE hR=>by
 subst hm
 refine tp (news:=be C m) ho hu hs hx hy (fun hA => ?_) (Nat.min_eq_left hk).symm (bD m) (i6 m) hfit hcs w hE fun p j u hp hj => ?_
 ·have:=hR.nil hA
  have:=hR.cap
  omega
 ·have hlen:j<m.length*C.sz:=by
   have:=(List.getElem?_eq_some_iff.1 hj).1
   rw[bD]at this;exact this
  have hm:0<m.length:=by
   rcases Nat.eq_zero_or_pos m.length with h0 | h0
   ·rw[h0]at hlen;simp at hlen
   ·exact h0
  obtain ⟨b,off',hA',hL⟩:=hR.at' hm
  rw[hp]at hA'
  obtain rfl:=Option.some.inj hA'
  have hdiv:j/C.sz<m.length:=(Nat.div_lt_iff_lt_mul hsz).2 hlen
  have hmod:j%C.sz<C.sz:=Nat.mod_lt _ hsz
  have hx':m[j/C.sz]?=some m[j/C.sz]:=List.getElem?_eq_getElem hdiv
  have hu':(C.enc m[j/C.sz])[j%C.sz]?=some ((C.enc m[j/C.sz])[j%C.sz]'(by rw[C.size];exact hmod)):=Array.getElem?_eq_getElem (by rw[C.size];exact hmod)
  have h1:=dk m _ _ _ _ hx' hu'
  rw[Nat.div_add_mod' j C.sz,hj]at h1
  obtain rfl:=Option.some.inj h1
  have h2:=hL _ _ hx' _ _ hu'
  rw[Addr.add_mid,← h2]
  congr 2
  rw[Nat.add_assoc,Nat.div_add_mod']
theorem eg{dn dc sn sc:Nat}{A:Option Addr}(kk:Nat)(hkk:Nat.min sn dn=kk)(ho:o.op=.call { callee:=.builtin .copy,args := #[x,y],argTypes := #[ty,ty2] })
  (hu:P.underlying ty=some (.slice e)) (hs:(P.info? e).map (·.size)=some C.sz) (hsz:0<C.sz) (hx:a.eval x=.slice (some ⟨g,off,none⟩) dn dc) (hy:a.eval y=.slice A sn sc)
  (hm:m.length=sn) (hfit:off+kk*C.sz≤cs.size) (hcs:bJ cs off (be C (m.take kk))=cs') :
  cA P a o [bl g t cs] (fun w=>Vu C w A sn sc m) (fun v' E'=>v'=.int .i64 (kk:Int)∧E'=[bl g t cs']):=fun w hE hR=>by
 subst hm hkk
 have hk:(m.take (Nat.min m.length dn)).length=Nat.min m.length dn:=by rw[List.length_take];exact Nat.min_eq_left (Nat.min_le_left _ _)
 refine tp (news:=be C (m.take (Nat.min m.length dn))) ho hu hs hx hy (fun hA => ?_) rfl (by rw[bD,hk]) (i6 _) hfit hcs w hE fun p j u hp hj => ?_
 ·have:=hR.nil hA
  have:=hR.cap
  omega
 ·have hlen:j<(m.take (Nat.min m.length dn)).length*C.sz:=by
   have:=(List.getElem?_eq_some_iff.1 hj).1
   rw[bD]at this;exact this
  have hm:0<m.length:=by
   rcases Nat.eq_zero_or_pos m.length with h0 | h0
   ·rw[List.eq_nil_of_length_eq_zero h0]at hlen;simp at hlen
   ·exact h0
  obtain ⟨b,off',hA',hL⟩:=hR.at' hm
  rw[hp]at hA'
  obtain rfl:=Option.some.inj hA'
  have hdiv:j/C.sz<(m.take (Nat.min m.length dn)).length:=(Nat.div_lt_iff_lt_mul hsz).2 hlen
  have hmod:j%C.sz<C.sz:=Nat.mod_lt _ hsz
  obtain ⟨z,hz⟩:=ck _ _ hdiv
  have hu':(C.enc z)[j%C.sz]?=some ((C.enc z)[j%C.sz]'(by rw[C.size];exact hmod)):=Array.getElem?_eq_getElem (by rw[C.size];exact hmod)
  have h1:=dk _ _ _ _ _ hz hu'
  rw[Nat.div_add_mod' j C.sz,hj]at h1
  obtain rfl:=Option.some.inj h1
  rw[List.getElem?_take]at hz
  split at hz
  ·have h2:=hL _ _ hz _ _ hu'
   rw[Addr.add_mid,← h2]
   congr 2
   rw[Nat.add_assoc,Nat.div_add_mod']
  ·cases hz
theorem tz{A:Option Addr}{b n c i sz:Nat}{ki:IntKind}{j:Int}(ho:o.op=.indexAddr ty x y)(hu:P.underlying ty=some (.slice e))(hs:(P.info? e).map (·.size)=some sz)(hx:a.eval x=.slice A n c)(hA:A=some ⟨b,off,none⟩)(hy:a.eval y=.int ki j)(hj:j=(i:Int))(hi:i<n):
  (execOp a.eval o).run P w=.ok (.value (.pointer (some ⟨b,off+i*sz,none⟩))) w:=ig ho hu hs (hA▸hx) hy hj hi
theorem eu{n c sz:Nat}{b:Nat}{kl:IntKind}{jl:Int}{xl:Operand}(ho:o.op=.slice ty x (some xl) none none)(hu:P.underlying ty=some (.slice e))(hs:(P.info? e).map (·.size)=some sz)(hx:a.eval x=.slice (some ⟨b,off,none⟩) n c)(hl:a.eval xl=.int kl jl)(hjl:jl=(k:Int))(h1:k≤n)(h2:k<c):
  (execOp a.eval o).run P w=.ok (.value (.slice (some ⟨b,off+k*sz,none⟩) (n-k) (c-k))) w:=by
 have:=mz (w:=w) ho hu hs hx hl hjl h1
 rw[bu h2]at this
 exact this
theorem mA{n c sz h:Nat}{b:Nat}{kl kh:IntKind}{jl jh:Int}{xl xh:Operand}(ho:o.op=.slice ty x (some xl) (some xh) none)(hu:P.underlying ty=some (.slice e))(hs:(P.info? e).map (·.size)=some sz)(hx:a.eval x=.slice (some ⟨b,off,none⟩) n c)(hl:a.eval xl=.int kl jl)(hh:a.eval xh=.int kh jh)(hjl:jl=(k:Int))(hjh:jh=(h:Int))(h1:k≤h)(h2:h≤c)(h3:k<c):
  (execOp a.eval o).run P w=.ok (.value (.slice (some ⟨b,off+k*sz,none⟩) (h-k) (c-k))) w:=by
 have:=jQ (w:=w) ho hu hs hx hl hh hjl hjh h1 h2
 rw[bu h3]at this
 exact this
end
theorem HH.sel{w0 w:World}{R:List Nat}{Hs Hs':List Hl}(h:HH w0 R Hs w)(is:List Nat)(hi:is.map (fun i=>Hs[i]?)=Hs'.map some)(hn:is.Nodup):HH w0 R Hs' w:=h.pick is hi hn
section
variable{α:Type}{C:Cod α}{e:TypeId}{A:Option Addr}{n c:Nat}{l:List α}{E:Hl}{w:World}
theorem OwnT.vuAt(h:OwnT C e (.slice A n c) l E)(hE:Has E w):Vu C w A n c l:=by
 obtain ⟨A',c',he,hV⟩:=h.vu hE
 injection he with h1 h2 h3
 subst h1 h2 h3
 exact hV
theorem OwnT.nilA(h:OwnT C e (.slice A n c) l E)(hA:A=none):n=0∧c=0:=by
 rcases h.cases with ⟨h1,_,_⟩ | ⟨g,cap,cur,h1,_,_⟩
 ·injection h1 with _ h2 h3;exact ⟨h2,h3⟩
 ·injection h1 with h1;rw[hA]at h1;cases h1
end
theorem HH.off3{α:Type}{C:Cod α}{w0 w:World}{R:List Nat}{Hs:List Hl}{A:Option Addr}{n c:Nat}{e:TypeId}{l:List α}{E F:Hl}(hH:HH w0 R Hs w)(k j:Nat)(hk:Hs[k]?=some E)(hj:Hs[j]?=some F)(hkj:(k == j)=false)(hO:OwnT C e (.slice A n c) l F):Off A n (bks E):=fun b off hA hn hm=>by
 rcases hO.cases with ⟨h1,_,_⟩ | ⟨g,cap,cur,h1,rfl,_⟩
 ·injection h1 with h1;rw[hA]at h1;cases h1
 ·injection h1 with h1
  rw[hA]at h1
  obtain rfl:b=g:=by injection h1 with h;injection h
  obtain ⟨y,hy,e⟩:=List.mem_map.1 hm
  exact hH.apart hk hj (by simpa using hkj) y hy _ (List.mem_singleton.2 rfl) e
theorem dx{w:World}{b off n:Nat}{f:Nat→UInt8}(h:Holds (ac n) w b off f):Vu af w (some ⟨b,off,none⟩) n n (lst n f) :=
 ⟨ap n f,Nat.le_refl _,(fun h=>by cases h),fun _=>⟨b,off,rfl,fun i x hx j u hu=>by
  have hi:i<n:=by
   have:=(List.getElem?_eq_some_iff.1 hx).1
   rwa [ap]at this
  rw[bB hi]at hx
  obtain rfl:=Option.some.inj hx
  obtain rfl:j=0:=by
   have:j<1:=(Array.getElem?_eq_some_iff.1 hu).1
   omega
  obtain rfl:=Option.some.inj hu
  have:=h i (by8 (f i)) (by rw[cX];exact ce n f i hi)
  rw[show off+i*af.sz+0=off+i from by show off+i*1+0=_;omega]
  exact this⟩⟩
theorem HH.pad{w0 w:World}{R:List Nat}{Hs:List Hl}(h:HH w0 R Hs w)(m:Nat):HH w0 R (Hs++List.replicate m []) w:=h.cast (by simp)
def lL{α:Type}:List Bool→List α→List α
 | true::m,x::l=>x::lL m l
 | false::m,_::l=>lL m l
 | _,_=>[]
theorem gm{α:Type}:∀ (m:List Bool) (l:List α),(lL m l).Sublist l
 | [],l=>by cases l<;>exact List.nil_sublist _
 | true::_,[]=>List.nil_sublist _
 | false::_,[]=>List.nil_sublist _
 | true::m,x::l=>(gm m l).cons_cons x
 | false::m,x::l=>(gm m l).cons x
theorem HH.out{w0 w:World}{R:List Nat}{Hs:List Hl}(h:HH w0 R Hs w)(m:List Bool):Hold w0 R (lL m Hs).flatten w:=Hold.sub h (jt (gm m Hs))
theorem HH.out1{w0 w:World}{R:List Nat}{Hs:List Hl}{E:Hl}(h:HH w0 R Hs w)(m:List Bool)(e:lL m Hs=[E]):Hold w0 R E w:=by
 have:=h.out m
 rw[e]at this
 simpa using this
theorem HH.only{w0 w:World}{R:List Nat}{Hs:List Hl}(h:HH w0 R Hs w)(m:List Bool):HH w0 R (lL m Hs) w:=h.drop (gm m Hs)
theorem fO{k:IntKind}(hs:k.signed=false)(a:Nat):k.wrap (a:Int)=((a%2^k.bits:Nat):Int):=by
 unfold IntKind.wrap
 simp only[hs,Bool.false_and,Bool.false_eq_true,if_false]
 rw[Int.natCast_emod]
 congr 1
theorem cT(n a:Nat)(h:a<2^n):(BitVec.ofInt n (a:Int)).toNat=a:=by
 rw[BitVec.toNat_ofInt]
 have:((a:Int)%((2^n:Nat):Int))=(a:Int):=Int.emod_eq_of_lt (by omega) (by omega)
 rw[this];rfl
section
variable{P:Program}{a:Act}{o:Oper}{w:World}{x y:Operand}{t t2:TypeId}{k:IntKind}{m j z:Nat}
theorem i8(hs:k.signed=false)(ho:o.op=.binOp .and t x y t2)(hx:a.eval x=.int k (m:Int))(hy:a.eval y=.int k (j:Int))(hm:m<2^k.bits)(hj:j<2^k.bits)(hz:m&&&j=z):(execOp a.eval o).run P w=.ok (.value (.int k (z:Int))) w:=by
 subst hz
 refine eR ho hx hy ?_
 have e:k.wrap ((BitVec.ofInt k.bits (m:Int)&&&BitVec.ofInt k.bits (j:Int)).toNat:Int)=((m&&&j:Nat):Int):=by
  rw[BitVec.toNat_and,cT _ _ hm,cT _ _ hj,fO hs,Nat.mod_eq_of_lt (Nat.lt_of_le_of_lt Nat.and_le_left hm)]
 rw[binOp_and]
 show ((pure (.int k (k.wrap ((BitVec.ofInt k.bits (m:Int)&&&BitVec.ofInt k.bits (j:Int)).toNat:Int))):Sem Value)).run P w=_
 rw[e];rfl
theorem kf(hs:k.signed=false)(ho:o.op=.binOp .or t x y t2)(hx:a.eval x=.int k (m:Int))(hy:a.eval y=.int k (j:Int))(hm:m<2^k.bits)(hj:j<2^k.bits)(hz:m|||j=z):(execOp a.eval o).run P w=.ok (.value (.int k (z:Int))) w:=by
 subst hz
 refine eR ho hx hy ?_
 have e:k.wrap ((BitVec.ofInt k.bits (m:Int)|||BitVec.ofInt k.bits (j:Int)).toNat:Int)=((m|||j:Nat):Int):=by
  rw[BitVec.toNat_or,cT _ _ hm,cT _ _ hj,fO hs,Nat.mod_eq_of_lt (Nat.or_lt_two_pow hm hj)]
 rw[binOp_or]
 show ((pure (.int k (k.wrap ((BitVec.ofInt k.bits (m:Int)|||BitVec.ofInt k.bits (j:Int)).toNat:Int))):Sem Value)).run P w=_
 rw[e];rfl
theorem oU(hs:k.signed=false)(ho:o.op=.binOp .xor t x y t2)(hx:a.eval x=.int k (m:Int))(hy:a.eval y=.int k (j:Int))(hm:m<2^k.bits)(hj:j<2^k.bits)(hz:m^^^j=z):(execOp a.eval o).run P w=.ok (.value (.int k (z:Int))) w:=by
 subst hz
 refine eR ho hx hy ?_
 have e:k.wrap ((BitVec.ofInt k.bits (m:Int)^^^BitVec.ofInt k.bits (j:Int)).toNat:Int)=((m^^^j:Nat):Int):=by
  rw[BitVec.toNat_xor,cT _ _ hm,cT _ _ hj,fO hs,Nat.mod_eq_of_lt (Nat.xor_lt_two_pow hm hj)]
 rw[binOp_xor]
 show ((pure (.int k (k.wrap ((BitVec.ofInt k.bits (m:Int)^^^BitVec.ofInt k.bits (j:Int)).toNat:Int))):Sem Value)).run P w=_
 rw[e];rfl
theorem f7(hs:k.signed=false)(ho:o.op=.binOp .add t x y t2)(hx:a.eval x=.int k (m:Int))(hy:a.eval y=.int k (j:Int))(hz:(m+j)%2^k.bits=z):(execOp a.eval o).run P w=.ok (.value (.int k (z:Int))) w:=by
 subst hz
 exact ny ho hx hy (by rw[← Int.natCast_add,fO hs])
theorem i9(hs:k.signed=false)(ho:o.op=.binOp .mul t x y t2)(hx:a.eval x=.int k (m:Int))(hy:a.eval y=.int k (j:Int))(hz:(m*j)%2^k.bits=z):(execOp a.eval o).run P w=.ok (.value (.int k (z:Int))) w:=by
 subst hz
 exact ti ho hx hy (by rw[← Int.natCast_mul,fO hs])
theorem f8(hs:k.signed=false)(ho:o.op=.binOp .sub t x y t2)(hx:a.eval x=.int k (m:Int))(hy:a.eval y=.int k (j:Int))(hj:j≤2^k.bits)(hz:(m+(2^k.bits-j))%2^k.bits=z):(execOp a.eval o).run P w=.ok (.value (.int k (z:Int))) w:=by
 subst hz
 refine ju ho hx hy ?_
 rw[← fO hs]
 unfold IntKind.wrap
 simp only[hs,Bool.false_and,Bool.false_eq_true,if_false]
 have e:(((m+(2^k.bits-j):Nat)):Int)=((m:Int)-(j:Int))+(2^k.bits:Int):=by
  have h:=Int.natCast_pow 2 k.bits
  have h2:((2^k.bits:Nat):Int)=(2:Int)^k.bits:=h
  rw[← h2]
  omega
 rw[e,Int.add_emod_right]
theorem f9{yk:IntKind}{n:Nat}(hs:k.signed=false)(ho:o.op=.binOp .shl t x y t2)(hx:a.eval x=.int k (m:Int))(hy:a.eval y=.int yk (n:Int))(hn:n≤k.bits)(hz:(m*2^n)%2^k.bits=z):(execOp a.eval o).run P w=.ok (.value (.int k (z:Int))) w:=by
 subst hz
 have e:k.wrap ((m:Int)*2^n)=((m*2^n%2^k.bits:Nat):Int):=by
  rw[← fO hs,Int.natCast_mul,Int.natCast_pow];rfl
 have h0:¬ ((n:Int)<0):=by omega
 unfold execOp
 simp[ho,hx,hy,eqGuard,binOp,Op.shift,h0,Nat.min_eq_left hn,e]
theorem du{yk:IntKind}{n:Nat}(ho:o.op=.binOp .shr t x y t2)(hx:a.eval x=.int k (m:Int))(hy:a.eval y=.int yk (n:Int))(hn:n≤k.bits)(hz:m/2^n=z):(execOp a.eval o).run P w=.ok (.value (.int k (z:Int))) w:=by
 subst hz
 have e:(m:Int).fdiv (2^n)=((m/2^n:Nat):Int):=by
  rw[Int.natCast_ediv,Int.natCast_pow,Int.fdiv_eq_ediv_of_nonneg _ (by exact Int.pow_nonneg (by decide))];rfl
 have h0:¬ ((n:Int)<0):=by omega
 unfold execOp
 simp[ho,hx,hy,eqGuard,binOp,Op.shift,h0,Nat.min_eq_left hn,e]
theorem im{src dst:TypeId}{k':IntKind}(hs:k'.signed=false)(ho:o.op=.convert src dst x)(hsrc:(P.underlying src).isSome=true)(hd:P.underlying dst=some (.int k'))(hx:a.eval x=.int k (m:Int))(hz:m%2^k'.bits=z):(execOp a.eval o).run P w=.ok (.value (.int k' (z:Int))) w:=by
 subst hz
 exact jR ho hsrc hd hx (fO hs m)
end
theorem nJ(m n:Nat):m&&&(2^n-1)=m%2^n:=Nat.and_two_pow_sub_one_eq_mod m n
theorem nK{l m:List UInt8}:i5 l=i5 m↔l=m:=by
 constructor
 ·intro h
  have:=congrArg (fun b=>b.data.toList) h
  simpa using this
 ·intro h;rw[h]
section
variable{P:Program}{a:Act}{o:Oper}{w w0:World}{R:List Nat}{Hs:List Hl}{v vx vy:Value}{x y:Operand}{t t2 ty ty2 e:TypeId}{g off n c k:Nat}{cs cs' xs:Array Value}
theorem tA(hb:w.heap[g]?=some (.cells cs t (0,0)))(ho:o.op=.load ty x)(hx:a.eval x=.pointer (some ⟨g,off,none⟩))(hdd:(P.underlying ty).map (·.isRow)=some true)(hk:xs.size=k)(hs:(P.info? ty).map (·.size)=some k)(hc:(cs.toList.drop off).take k=xs.toList):(execOp a.eval o).run P w=.ok (.value (.agg xs)) w:=by
 refine nC ho hx hdd (by rw[hs,hk]) fun j u hu => ?_
 rw[cell_of_row w g (off+j) cs t (0,0) hb]
 rw[← Array.getElem?_toList,← hc,List.getElem?_take]at hu
 split at hu
 ·rw[List.getElem?_drop,Array.getElem?_toList]at hu;exact hu
 ·cases hu
theorem HH.oldBlk{ob:Obj}(hH:HH w0 R Hs w)(h:w0.heap[g]?=some ob)(hR:g ∉ R):w.heap[g]?=some ob:=by
 rw[hH.old (Array.getElem?_eq_some_iff.1 h).1 hR];exact h
theorem nL(ho:o.op=.store ty x y)(hx:a.eval x=.pointer (some ⟨g,off,none⟩))(hy:a.eval y=.agg xs)(hk:xs.size=k)(hs:(P.info? ty).map (·.size)=some k)(hn:off+k≤cs.size)(h1:xs.toList.all (·.oneCell')=true)(hcs:bJ cs off xs.toList=cs'):
  cA P a o [bl g t cs] (fun _=>True) (fun _ E'=>E'=[bl g t cs']):=nD ho hx hy (by rw[hs,hk]) (by rw[hk];exact hn) (by rw[← Array.all_toList];exact h1) hcs
theorem Vu.head{α:Type}{C:Cod α}{w:World}{A:Option Addr}{n c m:Nat}{l:List α}(h:Vu C w A n c l)(hm:m≤n):Vu C w A m c (l.take m):=by
 have:=h.cut (Nat.zero_le m) hm
 rwa [lJ,Nat.sub_zero,Nat.sub_zero,List.drop_zero]at this
section
variable{Q:Exit→Act→World→Prop}{l:aS}{fn:Func}{RR:Ending→World→Prop}
theorem aI{nn:Nat}{p:Tmp}(i:Nat)(hb:w.heap[g]?=some (.cells cs t (0,0)))(hf:fn.results = #[.cell p ty])(hi:l[i]?=some (p,.pointer (some ⟨g,0,none⟩)))(hdd:(P.underlying ty).map (·.isRow)=some true)(hk:cs.size=k)(hs:(P.info? ty).map (·.size)=some k)(hR:RR (.returned (.agg cs)) w):QX (bodyPost P fn RR) .ret ⟨nn,[]⟩ l w:=fun a hF=>by
 obtain ⟨d,hu,hdr⟩:=dR hdd
 exact bodyPost_ret (results_cell_row hf _ _ g t cs (0,0) d (hF.at i hi) hb hu (by cases d<;>first | rfl | cases hdr) (by rw[hs,hk])) hF.defers hR
theorem aX{nn:Nat}{p u:Tmp}(i j:Nat)(hb:w.heap[g]?=some (.cells cs t (0,0)))(hf:fn.results = #[.cell p ty,.tmp u])(hi:l[i]?=some (p,.pointer (some ⟨g,0,none⟩)))(hj:l[j]?=some (u,v))(hdd:(P.underlying ty).map (·.isRow)=some true)(hk:cs.size=k)(hs:(P.info? ty).map (·.size)=some k)(hR:RR (.returned (.tuple #[.agg cs,v])) w):QX (bodyPost P fn RR) .ret ⟨nn,[]⟩ l w:=fun a hF=>by
 obtain ⟨d,hu,hdr⟩:=dR hdd
 refine bodyPost_ret (v:=.tuple #[.agg cs,v]) ?_ hF.defers hR
 have hl:=run_loadVar_row (P:=P) w g t ty cs (0,0) d hb hu (by cases d<;>first | rfl | cases hdr) (by rw[hs,hk])
 rw[results_cell_tmp hf,hF.at i hi,hF.at j hj]
 simp[asAddr,hl]
end
theorem dl{b m l h sz:Nat}{kl kh:IntKind}{jl jh:Int}{xl xh:Operand}(ho:o.op=.slice ty x (some xl) (some xh) none)(hu:P.underlying ty=some (.array m e))(hs:(P.info? e).map (·.size)=some sz)(hx:a.eval x=.pointer (some ⟨b,off,none⟩))(hl:a.eval xl=.int kl jl)(hh:a.eval xh=.int kh jh)(hjl:jl=(l:Int))(hjh:jh=(h:Int))(h1:l≤h)(h2:h≤m)(h3:l<m):
  (execOp a.eval o).run P w=.ok (.value (.slice (some ⟨b,off+l*sz,none⟩) (h-l) (m-l))) w:=by
 subst hjl hjh
 have he:=fZ hu
 have hn:=ii hu
 have hu':P.underlying ty=some (.array (P.arrayLen ty) (P.elem ty)):=by rw[he,hn];exact hu
 have hadd:(⟨b,off,none⟩:Addr).add (l*sz)=⟨b,off+l*sz,none⟩:=Addr.add_mid ..
 unfold execOp
 simp only[ho,Option.map_some,Option.map_none,hx,hl,hh,Sem.run_bind,Sem.run_pure,run_sliceAt_array_lh w ty ⟨b,off,none⟩ hu' kl kh (l:Int) (h:Int) (by omega) (by omega) (by rw[hn];omega),he,hn,dE hs,Result.andThen_ok,slicedAt,Int.toNat_natCast,hadd]
 rw[if_neg (by omega)]
theorem Holds.elt{m b i:Nat}{f:Nat→UInt8}(h:Holds (ac m) w b off f)(hi:i<m):Holds af w b (off+i*1) (f i):=fun j u hu=>by
 obtain rfl:j=0:=by
  have:j<1:=(Array.getElem?_eq_some_iff.1 hu).1
  omega
 obtain rfl:=Option.some.inj hu
 have:=h i (by8 (f i)) (by rw[cX];exact ce m f i hi)
 rw[Nat.mul_one,Nat.add_zero]
 exact this
abbrev mk(g:Nat)(t:TypeId)(cs:Array Value):Nat×Obj:=(g,.cells cs t (cs.size,cs.size+1))
theorem tB(ho:o.op=.convert ty ty x)(hu:P.underlying ty=some (.slice e))(he:P.underlying e=some (.int .u8))(hx:a.eval x=.slice (some ⟨g,off,none⟩) n c):
  cA P a o [bl g e cs] (fun _=>True) (fun v' E'=>v'=.slice (some ⟨g,off,none⟩) n c∧E'=[mk g e cs]):=fun w hE _=>by
 have hb:w.heap[g]?=some (.cells cs e (0,0)):=hE.blk (g,_) (by simp)
 have hlt:g<w.heap.size:=(Array.getElem?_eq_some_iff.1 hb).1
 have hsh:w.shape? g=some (e,cs.size):=by unfold World.shape?;rw[hb]
 have hr:(convert ty ty (.slice (some ⟨g,off,none⟩) n c)).run P w=.ok (.slice (some ⟨g,off,none⟩) n c) (w.freeze ⟨g,cs.size,none⟩ 1):=by
  simp[convert,run_underlying hu,run_underlying he,markStringish,hsh]
 unfold execOp
 simp only[ho,hx,Sem.run_bind,Sem.run_pure,Result.andThen_ok,hr]
 refine ⟨_,⟨rfl,rfl⟩,?_⟩
 have hheap:∀ j,(w.freeze ⟨g,cs.size,none⟩ 1).heap[j]?=if g=j then some (.cells cs e (cs.size,cs.size+1)) else w.heap[j]?:=fun j=>by
  unfold World.freeze
  rw[if_neg (by decide)]
  simp only[Array.getElem?_modify]
  by_cases hj:g=j
  ·subst hj;rw[if_pos rfl,if_pos rfl,hb];rfl
  ·rw[if_neg hj,if_neg hj]
 refine ⟨?_,?_,?_,?_,fun x hx => ?_,by simp,fun x hx => ?_,fun j hj hjR => ?_⟩
 ·unfold World.freeze;rw[if_neg (by decide)]
 ·unfold World.freeze;rw[if_neg (by decide)]
 ·unfold World.freeze;rw[if_neg (by decide)]
 ·unfold World.freeze;rw[if_neg (by decide)];simp
 ·obtain rfl:=List.mem_singleton.1 hx
  rw[hheap,if_pos rfl]
 ·obtain rfl:=List.mem_singleton.1 hx
  exact .inr (by simp)
 ·rw[hheap,if_neg (fun e=>hjR (by subst e;simp))]
end
section
variable{P:Program}{ops:Array Oper}{Q:Exit→Act→World→Prop}{o:Oper}{rest:List Oper}{w:World}{n:Sz}{d m i:Nat}{l l':aS}{L:Array Bool}{Ss:gM}
end
section
variable{α:Type}{C:Cod α}{P:Program}{a:Act}{o:Oper}{w w0:World}{v:Value}{x y:Operand}{t ty ty2 e:TypeId}{g off cap k:Nat}{cs cs' cur:Array Value}{l m:List α}{E:Hl}
theorem Bk.holdsM(h:Bk C cap cur l){fr:Nat×Nat}(hb:w.heap[g]?=some (.cells cur t fr)):HoldsL C w g 0 l:=fun i x hx j u hu=>by
 rw[cell_of_row w g _ cur t fr hb,Nat.zero_add]
 exact h.cell i j hx hu
theorem Bk.vuM(h:Bk C cap cur l){fr:Nat×Nat}(hb:w.heap[g]?=some (.cells cur t fr)){n:Nat}(hn:l.length=n):Vu C w (some ⟨g,0,none⟩) n cap l :=
 ⟨hn,hn▸h.le,(fun h=>by cases h),fun _=>⟨g,0,rfl,h.holdsM hb⟩⟩
theorem lM(C:Cod α):∀ (l:List α) (i:Nat) (pre z:List Value),pre.length=i*C.sz→z.length=l.length*C.sz →
  Instr.fill (fun k=>some (k*C.sz,C.sz)) (pre++z).toArray (fl i (l.map C.val))=some (pre++be C l).toArray
 | [],i,pre,z,_,hz=>by
  obtain rfl:z=[]:=List.eq_nil_of_length_eq_zero (by simpa using hz)
  simp[fl,Instr.fill,be]
 | d::r,i,pre,z,hp,hz=>by
  have hd:(C.val d).cells.size=C.sz:=C.len d
  simp only[List.map_cons,fl]
  unfold Instr.fill
  simp only[hd]
  have hzl:C.sz≤z.length:=by
   rw[hz,List.length_cons,Nat.add_mul];omega
  rw[if_neg (by simp;omega)]
  have hf:=fm (C.val d).cells.toList (i*C.sz) (pre++z).toArray 0
  rw[Nat.add_zero]at hf
  rw[← Array.foldl_toList,Array.toList_zipIdx,hf,jy pre z (C.val d).cells.toList _ hp (by rw[Array.length_toList,hd];exact hzl),← List.append_assoc]
  have hdl:(C.val d).cells.toList.length=C.sz:=by rw[Array.length_toList,hd]
  rw[lM C r (i+1) (pre++(C.val d).cells.toList) (z.drop (C.val d).cells.toList.length) (by rw[List.length_append,hp,hdl,Nat.add_mul];omega) (by rw[List.length_drop,hz,hdl,List.length_cons,Nat.add_mul];omega)]
  simp[be,Cod.enc]
theorem cY{parts:List (Nat×Operand)}{n by_:Nat}{z:Value}(l:List α)(ho:o.op=.buildSlice ty n parts.toArray)(hu:P.underlying ty=some (.slice e))(hi:(P.info? e).map (fun i=>(i.zero,i.size,i.bytes))=some (some z,C.sz,by_))(hx:EvP a parts (fl 0 (l.map C.val)))(hn:l.length=n)(h0:0<n*C.sz)(h1:n*C.sz≤16777216)(hcs:(be C l).toArray=cs):
  cA P a o [] (fun _=>True) (fun v E' => ∃ g,v=.slice (some ⟨g,0,none⟩) n n∧E'=[bl g e cs]):=fun w _ _=>by
 subst hcs hn
 obtain ⟨i,hi',h2⟩:=Option.map_eq_some_iff.1 hi
 simp only[Prod.mk.injEq]at h2
 obtain ⟨hz,hsz,rfl⟩:=h2
 have hf:Instr.fill (fun k=>some (k*i.size,i.size)) ((Array.range (l.length*i.size)).map (z.cells[·%z.cells.size]!)) (fl 0 (l.map C.val))=some (be C l).toArray:=by
  rw[hsz]
  have:=lM C l 0 [] ((Array.range (l.length*C.sz)).map (z.cells[·%z.cells.size]!)).toList (by simp) (by simp)
  rw[List.nil_append,List.nil_append,Array.toArray_toList]at this
  exact this
 have hr:=run_buildSlice (P:=P) w ty e l.length (parts.toArray.map fun (i,x)=>(i,a.eval x)) (be C l).toArray i z hu hi' hz (by rw[hsz];omega) (by rw[hsz];omega) (by rw[hx.map];exact hf)
 unfold execOp
 simp only[ho,Sem.run_bind,Sem.run_pure,Result.andThen_ok,hr]
 exact ⟨_,⟨_,rfl,rfl⟩,Has.new w _⟩
theorem Bk.lits(l:List α)(h:l.length≤maxLen):Bk C l.length (be C l).toArray l:=⟨Nat.le_refl _,h,by simp[bD],by
 have:(be C l).length=l.length*C.sz:=bD l
 rw[← this];simp⟩
end
theorem Pure.as{P:Program}{f:FuncId}{args:Array Value}{Rd:World→Prop}{v v':Value}(h:Pure P f args Rd v')(e:v'=v):Pure P f args Rd v:=e▸h
def ovr(l:List UInt8)(f:Nat→UInt8):Nat→UInt8:=fun k=>if k<l.length then l.getD k 0 else f k
theorem gn{n:Nat}(l:List UInt8)(f:Nat→UInt8):bJ ((ac n).enc f) 0 (be af l)=(ac n).enc (ovr l f):=by
 apply Array.ext_getElem?
 intro k
 have hf:(be af l).length=l.length:=by rw[bD];exact Nat.mul_one _
 rw[cr,cX,cX,bH,hf]
 by_cases hk:k<n
 ·rw[ce n _ k hk,ce n _ k hk]
  by_cases h1:k<l.length
  ·rw[if_pos (by omega)]
   have:=dk (C:=af) l k 0 l[k] (by8 l[k]) (List.getElem?_eq_getElem h1) rfl
   rw[show k*af.sz+0=k from Nat.mul_one k]at this
   rw[Nat.sub_zero,this]
   unfold ovr
   rw[if_pos h1,List.getD_eq_getElem?_getD,List.getElem?_eq_getElem h1];rfl
  ·rw[if_neg (by omega)]
   unfold ovr
   rw[if_neg h1]
 ·rw[if_neg (by omega),Array.getElem?_eq_none (by rw[bH];omega),Array.getElem?_eq_none (by rw[bH];omega)]
section
variable{P:Program}{a:Act}{o:Oper}{w:World}{x y:Operand}{t t2 e:TypeId}{n:Nat}{f g:Nat→UInt8}
theorem jz(d n:Nat)(he:P.underlying e=some (.int .u8))(f g:Nat→UInt8):∀ l:List Nat,(∀ i∈l,i<n)→(Op.eqItems (d+1) e 1 (row n f) (row n g) l).run P w=.ok (l.all fun i=>f i == g i) w
 | [],_=>by simp[Op.eqItems]
 | i::l,h=>by
  have hi:=h i (by simp)
  have h1:=ce n f i hi
  have h2:=ce n g i hi
  have ih:=jz d n he f g l (fun j hj=>h j (by simp[hj]))
  have p1:(part e (row n f) (i*1)).run P w=.ok (by8 (f i)) w:=by simp[part,isAgg,run_underlying he,h1]
  have p2:(part e (row n g) (i*1)).run P w=.ok (by8 (g i)) w:=by simp[part,isAgg,run_underlying he,h2]
  have p3:(Op.equalIn (d+1) e (by8 (f i)) (by8 (g i))).run P w=.ok (f i == g i) w:=by
   have e1:((f i).toNat == (g i).toNat)=(f i == g i):=by
    rw[Bool.eq_iff_iff]
    simp[← UInt8.toNat_inj]
   have e2:(((f i).toNat:Int) == ((g i).toNat:Int))=(f i == g i):=by
    rw[← e1,Bool.eq_iff_iff]
    simp
    omega
   simp[Op.equalIn,run_underlying he,by8,e2]
  simp only[Op.eqItems,Sem.run_bind,p1,p2,p3,Result.andThen_ok,List.all_cons]
  cases f i == g i
  ·simp
  ·simpa using ih
theorem Bd{n:Nat}{f g:Nat→UInt8}:((List.range n).all fun i=>f i == g i)=decide (lst n f=lst n g):=by
 rw[Bool.eq_iff_iff,List.all_eq_true,decide_eq_true_iff]
 constructor
 ·intro h
  refine List.map_congr_left fun i hi => ?_
  simpa using h i hi
 ·intro h i hi
  have h1:=congrArg (fun l=>l[i]?) h
  have hi':i<n:=List.mem_range.1 hi
  simp only[bB hi',Option.some.injEq]at h1
  simpa using h1
theorem lN(hu:P.underlying t=some (.array n e))(he:P.underlying e=some (.int .u8))(hs:(P.info? e).map (·.size)=some 1)(f g:Nat→UInt8)(w:World):(Op.equal t (.agg (row n f)) (.agg (row n g))).run P w=.ok (decide (lst n f=lst n g)) w:=by
 obtain ⟨i,hi,hsz⟩:=Option.map_eq_some_iff.1 hs
 have h:=run_equalIn_array (P:=P) (w:=w) 9999 (row n f) (row n g) hu hi
 have hc:P.cellsOf e=1:=by simp[Program.cellsOf,hi,hsz]
 rw[hc,jz 9998 n he f g _ (fun j hj=>List.mem_range.1 hj),Bd]at h
 exact h
theorem kg{p:Prop}[Decidable p](ho:o.op=.binOp .eql t x y t2)(hu:P.underlying t=some (.array n e))(he:P.underlying e=some (.int .u8))(hs:(P.info? e).map (·.size)=some 1)(hx:a.eval x=(ac n).val f)(hy:a.eval y=(ac n).val g)(hq:P.eqGuardType P.depth t=false)(hb:lst n f=lst n g↔p):(execOp a.eval o).run P w=.ok (.value (.bool (decide p))) w:=by
 have h:=lN hu he hs f g w
 have h2:(binOp .eql t (.agg (row n f)) (.agg (row n g))).run P w=.ok (.bool (decide p)) w:=by
  simp only[binOp,Sem.run_bind,h,Result.andThen_ok,Sem.run_pure]
  rw[dc hb]
 unfold execOp
 simp only[ho,hx,hy]
 simp[ac,eqGuard,h2,hq]
theorem xY{p:Prop}[Decidable p](ho:o.op=.binOp .neq t x y t2)(hu:P.underlying t=some (.array n e))(he:P.underlying e=some (.int .u8))(hs:(P.info? e).map (·.size)=some 1)(hx:a.eval x=(ac n).val f)(hy:a.eval y=(ac n).val g)(hq:P.eqGuardType P.depth t=false)(hb:lst n f≠lst n g↔p):(execOp a.eval o).run P w=.ok (.value (.bool (decide p))) w:=by
 have h:=lN hu he hs f g w
 have h2:(binOp .neq t (.agg (row n f)) (.agg (row n g))).run P w=.ok (.bool (decide p)) w:=by
  simp only[binOp,Sem.run_bind,h,Result.andThen_ok,Sem.run_pure]
  rw[← dc hb,decide_not]
 unfold execOp
 simp only[ho,hx,hy]
 simp[ac,eqGuard,h2,hq]
end
def dQ:Nat→aS→aS
 | _,[]=>[]
 | m,x::l=>cond (Nat.beq (m%2) 1) (dQ (m/2) l) (x::dQ (m/2) l)
theorem ja:∀ (l:aS) (m:Nat),(dQ m l).Sublist l
 | [],m=>by rw[dQ];exact List.Sublist.refl _
 | x::l,m=>by
  rw[dQ]
  cases Nat.beq (m%2) 1
  ·exact (ja l (m/2)).cons_cons x
  ·exact (ja l (m/2)).cons x
inductive Nm:aS→aS→Prop where
 | nil:Nm [] []
 | cons {x:Nat×Value} {l l':aS} (h:Nm l l'):Nm (x::l) (x::l')
theorem Nm.eq{l l':aS}(h:Nm l l'):l=l':=by
 induction h with
 | nil=>rfl
 | cons _ ih=>rw[ih]
def lk:Nat→aS→Option Value
 | _,[]=>none
 | k,x::l=>cond (Nat.beq x.1 k) (some x.2) (lk k l)
theorem oV{k:Nat}{v:Value}:∀ {l:aS},lk k l=some v→(k,v)∈l
 | [],h=>by cases h
 | x::l,h=>by
  rw[lk]at h
  cases hb:Nat.beq x.1 k with
  | true =>
   rw[hb]at h
   obtain rfl:=Option.some.inj h
   obtain rfl:=Nat.eq_of_beq_eq_true hb
   exact List.mem_cons_self ..
  | false =>
   rw[hb]at h
   exact List.mem_cons_of_mem _ (oV h)
def vo(l:aS):Operand→Option Value
 | .tmp k=>lk k l
 | .const v=>some v
 | .global g=>some (.pointer (some ⟨g,0,none⟩))
 | .func f=>some (.func (.func f) #[] #[])
theorem Fr.vo{n:Sz}{l:aS}{a:Act}{x:Operand}{v:Value}(hF:Fr n l a)(h:vo l x=some v):a.eval x=v:=by
 cases x with
 | tmp k=>exact hF.get (k,v) (oV h)
 | const u=>exact Option.some.inj h
 | global g=>exact Option.some.inj h
 | func f=>exact Option.some.inj h
def vos(l:aS):List Operand→Option (List Value)
 | []=>some []
 | x::r=>match vo l x,vos l r with
  | some v,some vs=>some (v::vs)
  | _,_=>none
theorem Fr.vos{n:Sz}{l:aS}{a:Act}(hF:Fr n l a):∀ {xs:List Operand} {vs:List Value},vos l xs=some vs→Evs a xs vs
 | [],vs,h=>by obtain rfl:=Option.some.inj h;exact Evs.nil
 | x::r,vs,h=>by
  unfold Go.Proofs.YtajppfmjbkebfaaGreatDoor.vos at h
  cases h1:Go.Proofs.YtajppfmjbkebfaaGreatDoor.vo l x with
  | none=>simp[h1]at h
  | some v =>
   cases h2:Go.Proofs.YtajppfmjbkebfaaGreatDoor.vos l r with
   | none=>simp[h1,h2]at h
   | some vs' =>
    simp only[h1,h2]at h
    obtain rfl:=Option.some.inj h
    exact Evs.cons (hF.vo h1) (hF.vos h2)
inductive Al(l:aS):aS→Prop where
 | nil:Al l []
 | cons {k:Nat} {v:Value} {r:aS} (h:lk k l=some v) (t:Al l r):Al l ((k,v)::r)
theorem Al.all{l l':aS}(h:Al l l'):∀ z∈l',z∈l:=by
 induction h with
 | nil=>intro z hz;cases hz
 | cons h _ ih =>
  intro z hz
  rcases List.mem_cons.1 hz with rfl | hz
  ·exact oV h
  ·exact ih z hz
section
variable{P:Program}{ops:Array Oper}{Q:Exit→Act→World→Prop}{o:Oper}{rest:List Oper}{w w0:World}{n:Sz}{d:Nat}{l l':aS}{R:List Nat}{Hs:List Hl}{E:Hl}{Rd S:World→Prop}{post:Value→Hl→Prop}{v:Value}{f:FuncId}{fn:Func}{vs:List Value}{xs:List Operand}{ts:Array TypeId}
def Vl(P:Program)(n:Sz)(l:aS)(o:Oper)(v:Value):Prop := ∀ a w,Fr n l a→(execOp a.eval o).run P w=.ok (.value v) w
def Vs(P:Program)(n:Sz)(l:aS)(S:World→Prop)(o:Oper)(v:Value):Prop := ∀ a w,Fr n l a→S w→(execOp a.eval o).run P w=.ok (.value v) w
def Sm(P:Program)(n:Sz)(l:aS)(o:Oper)(E:Hl)(Rd:World→Prop)(post:Value→Hl→Prop):Prop := ∀ a,Fr n l a→cA P a o E Rd post
theorem cU{a:Act}(hg:o.guard=none):Region.wanted o (yielded ops a.tmps)=true:=by unfold Region.wanted;rw[hg]
theorem cR{m:Nat}(hn:Nm (dQ m l) l')(hk:(ex d l'&&Nat.blt d n.n)=true):Kept d l' l∧d<n.n:=by
 obtain ⟨h1,h2⟩:=Bool.and_eq_true_iff.1 hk
 exact ⟨⟨hn.eq▸ja l m,h1⟩,ltb h2⟩
theorem zv(hv:Vl P n l o v)(m:Nat)(h:PX P ops Q rest n ((d,v)::l') w)(hd:o.dst=some d:=by exact rfl)(hg:o.guard=none:=by exact rfl)(hn:Nm (dQ m l) l':=by (repeat (first | exact Nm.nil | apply Nm.cons)))(hk:(ex d l'&&Nat.blt d n.n)=true:=by exact rfl):PX P ops Q (o::rest) n l w :=
 pxV hv hd (fun _ _=>cU hg) (cR hn hk).1 (cR hn hk).2 h
theorem zs(hS:S w)(hv:Vs P n l S o v)(m:Nat)(h:PX P ops Q rest n ((d,v)::l') w)(hd:o.dst=some d:=by exact rfl)(hg:o.guard=none:=by exact rfl)(hn:Nm (dQ m l) l':=by (repeat (first | exact Nm.nil | apply Nm.cons)))(hk:(ex d l'&&Nat.blt d n.n)=true:=by exact rfl):PX P ops Q (o::rest) n l w :=
 pxS S hS hv hd (fun _ _=>cU hg) (cR hn hk).1 (cR hn hk).2 h
theorem ze(c:Nat)(hH:HH w0 R Hs w)(hi:Hs[c]?=some E)(hs:Sm P n l o E Rd post)(hRd:Rd w)(m:Nat)(h:∀ v E' w',post v E'→HH w0 R (Hs.set c E') w'→PX P ops Q rest n ((d,v)::l') w')(hd:o.dst=some d:=by exact rfl)(hg:o.guard=none:=by exact rfl)(hn:Nm (dQ m l) l':=by (repeat (first | exact Nm.nil | apply Nm.cons)))(hk:(ex d l'&&Nat.blt d n.n)=true:=by exact rfl):PX P ops Q (o::rest) n l w :=
 pxE c hH hi hs hRd hd (fun _ _=>cU hg) (cR hn hk).1 (cR hn hk).2 h
theorem ze0(c:Nat)(hH:HH w0 R Hs w)(hi:Hs[c]?=some E)(hs:Sm P n l o E Rd post)(hRd:Rd w)(h:∀ v E' w',post v E'→HH w0 R (Hs.set c E') w'→PX P ops Q rest n l w')(hd:o.dst=none:=by exact rfl)(hg:o.guard=none:=by exact rfl):PX P ops Q (o::rest) n l w :=
 Bc c hH hi hs hRd hd (fun _ _=>cU hg) h
theorem zm(hH:HH w0 R Hs w)(hs:Sm P n l o [] Rd post)(hRd:Rd w)(m:Nat)(h:∀ v E' w',post v E'→HH w0 R (Hs++[E']) w'→PX P ops Q rest n ((d,v)::l') w')(hd:o.dst=some d:=by exact rfl)(hg:o.guard=none:=by exact rfl)(hn:Nm (dQ m l) l':=by (repeat (first | exact Nm.nil | apply Nm.cons)))(hk:(ex d l'&&Nat.blt d n.n)=true:=by exact rfl):PX P ops Q (o::rest) n l w :=
 pxM hH hs hRd hd (fun _ _=>cU hg) (cR hn hk).1 (cR hn hk).2 h
theorem Sm.call(F:P.funcs[f]?=some fn)(hd:Does P f vs.toArray E Rd post)(ho:o.op=.call { callee:=.value (.func f),args:=xs.toArray,argTypes:=ts }:=by exact rfl)(hx:vos l xs=some vs:=by exact rfl)(h1:(fn.name == "runtime.NumGoroutine")=false:=by exact rfl)(h2:fn.body.isNone=false:=by exact rfl):Sm P n l o E Rd post:=fun _ hF =>
 Does.small hd (fun w=>oT ho F h1 h2 (hF.vos hx) w)
theorem zc(F:P.funcs[f]?=some fn)(hp:Pure P f vs.toArray Rd v)(hR:Rd w)(hH:HH w0 R Hs w)(m:Nat)(h:∀ w',HH w0 R Hs w'→PX P ops Q rest n ((d,v)::l') w')(ho:o.op=.call { callee:=.value (.func f),args:=xs.toArray,argTypes:=ts }:=by exact rfl)(hx:vos l xs=some vs:=by exact rfl)(h1:(fn.name == "runtime.NumGoroutine")=false:=by exact rfl)(h2:fn.body.isNone=false:=by exact rfl)(hd:o.dst=some d:=by exact rfl)(hg:o.guard=none:=by exact rfl)(hn:Nm (dQ m l) l':=by (repeat (first | exact Nm.nil | apply Nm.cons)))(hk:(ex d l'&&Nat.blt d n.n)=true:=by exact rfl):PX P ops Q (o::rest) n l w :=
 zm hH (Sm.call F hp.does ho hx h1 h2) hR m (fun _ _ w' hp hH=>by
  obtain ⟨rfl,rfl⟩:=hp
  exact h w' hH.unpad) hd hg hn hk
end
section
variable{P:Program}{ops:Array Oper}{Q:Exit→Act→World→Prop}{w w0:World}{n:Sz}{d fu:Nat}{l l':aS}{R:List Nat}{Hs:List Hl}{E:Hl}{Rd S:World→Prop}{post:Value→Hl→Prop}{v:Value}{L:Array Bool}{Ss Ss':gM}{f:FuncId}{fn:Func}{vs:List Value}{xs:List Operand}{ts:Array TypeId}
def cP(ops:Array Oper)(i:Nat):Oper:=ops[i]?.getD default
theorem fo{i:Nat}(h:Nat.blt i ops.size=true):ops[i]?=some (cP ops i):=by
 have:=ltb h
 simp[cP,Array.getElem?_eq_getElem this]
theorem rv(i:Nat)(hv:Vl P n l (cP ops i) v)(m:Nat)(h:RX P ops Q fu Ss (L.setIfInBounds i true) n ((d,v)::l') w)(hr:rdy ops L i=true:=by kernel_rfl)(hz:Nat.blt i ops.size=true:=by kernel_rfl)(hd:(cP ops i).dst=some d:=by exact rfl)(hg:(cP ops i).guard=none:=by exact rfl)(hn:Nm (dQ m l) l':=by (repeat (first | exact Nm.nil | apply Nm.cons)))(hk:(ex d l'&&Nat.blt d n.n)=true:=by exact rfl):RX P ops Q (fu+1) Ss L n l w :=
 rxV i (fo hz) hr hd (fun _ _=>cU hg) hv (cR hn hk).1 (cR hn hk).2 h
theorem rld(i:Nat)(hS:S w)(hv:Vs P n l S (cP ops i) v)(m:Nat)(h:RX P ops Q fu ((i,S)::Ss) (L.setIfInBounds i true) n ((d,v)::l') w)(hr:rdy ops L i=true:=by kernel_rfl)(hz:Nat.blt i ops.size=true:=by kernel_rfl)(hd:(cP ops i).dst=some d:=by exact rfl)(hg:(cP ops i).guard=none:=by exact rfl)(hn:Nm (dQ m l) l':=by (repeat (first | exact Nm.nil | apply Nm.cons)))(hk:(ex d l'&&Nat.blt d n.n)=true:=by exact rfl):RX P ops Q (fu+1) Ss L n l w :=
 rxS S i (fo hz) hr hd (fun _ _=>cU hg) hS hv (cR hn hk).1 (cR hn hk).2 h
theorem re(i c:Nat)(hH:HH w0 R Hs w)(hi:Hs[c]?=some E)(hs:Sm P n l (cP ops i) E Rd post)(hRd:Rd w)(m:Nat)(hp:PendOk ops i Ss Ss')(h:∀ v E' w',post v E'→HH w0 R (Hs.set c E') w'→(∀ s∈Ss',s.2 w')∧RX P ops Q fu Ss' (L.setIfInBounds i true) n ((d,v)::l') w')(hz:Nat.blt i ops.size=true:=by kernel_rfl)(hd:(cP ops i).dst=some d:=by exact rfl)(hg:(cP ops i).guard=none:=by exact rfl)(hn:Nm (dQ m l) l':=by (repeat (first | exact Nm.nil | apply Nm.cons)))(hk:(ex d l'&&Nat.blt d n.n)=true:=by exact rfl):MO P ops Q fu Ss L n l w i :=
 moE c (fo hz) hH hi hs hRd hd (fun _ _=>cU hg) (cR hn hk).1 (cR hn hk).2 hp h
theorem re0(i c:Nat)(hH:HH w0 R Hs w)(hi:Hs[c]?=some E)(hs:Sm P n l (cP ops i) E Rd post)(hRd:Rd w)(hp:PendOk ops i Ss Ss')(h:∀ v E' w',post v E'→HH w0 R (Hs.set c E') w'→(∀ s∈Ss',s.2 w')∧RX P ops Q fu Ss' (L.setIfInBounds i true) n l w')(hz:Nat.blt i ops.size=true:=by kernel_rfl)(hd:(cP ops i).dst=none:=by exact rfl)(hg:(cP ops i).guard=none:=by exact rfl):MO P ops Q fu Ss L n l w i :=
 CB c (fo hz) hH hi hs hRd hd (fun _ _=>cU hg) hp h
theorem rm(i:Nat)(hH:HH w0 R Hs w)(hs:Sm P n l (cP ops i) [] Rd post)(hRd:Rd w)(m:Nat)(hp:PendOk ops i Ss Ss')(h:∀ v E' w',post v E'→HH w0 R (Hs++[E']) w'→(∀ s∈Ss',s.2 w')∧RX P ops Q fu Ss' (L.setIfInBounds i true) n ((d,v)::l') w')(hz:Nat.blt i ops.size=true:=by kernel_rfl)(hd:(cP ops i).dst=some d:=by exact rfl)(hg:(cP ops i).guard=none:=by exact rfl)(hn:Nm (dQ m l) l':=by (repeat (first | exact Nm.nil | apply Nm.cons)))(hk:(ex d l'&&Nat.blt d n.n)=true:=by exact rfl):MO P ops Q fu Ss L n l w i :=
 moM (fo hz) hH hs hRd hd (fun _ _=>cU hg) (cR hn hk).1 (cR hn hk).2 hp h
theorem rpc(i:Nat)(F:P.funcs[f]?=some fn)(hq:Pure P f vs.toArray Rd v)(hR:Rd w)(hH:HH w0 R Hs w)(m:Nat)(hp:PendOk ops i Ss Ss')(h:∀ w',HH w0 R Hs w'→(∀ s∈Ss',s.2 w')∧RX P ops Q fu Ss' (L.setIfInBounds i true) n ((d,v)::l') w')(hz:Nat.blt i ops.size=true:=by kernel_rfl)(ho:(cP ops i).op=.call { callee:=.value (.func f),args:=xs.toArray,argTypes:=ts }:=by exact rfl)(hx:vos l xs=some vs:=by exact rfl)(h1:(fn.name == "runtime.NumGoroutine")=false:=by exact rfl)(h2:fn.body.isNone=false:=by exact rfl)(hd:(cP ops i).dst=some d:=by exact rfl)(hg:(cP ops i).guard=none:=by exact rfl)(hn:Nm (dQ m l) l':=by (repeat (first | exact Nm.nil | apply Nm.cons)))(hk:(ex d l'&&Nat.blt d n.n)=true:=by exact rfl):MO P ops Q fu Ss L n l w i :=
 rm i hH (Sm.call F hq.does ho hx h1 h2) hR m hp (fun _ _ w' hp hH=>by
  obtain ⟨rfl,rfl⟩:=hp
  exact h w' hH.unpad) hz hd hg hn hk
theorem pgo{i p:Nat}(r:List Nat)(h:PendOk ops i Ss Ss')(hp:j9 .any ops (i::(r++[p]))=true:=by kernel_rfl):PendOk ops i ((p,S)::Ss) Ss':=PendOk.go r hp h
theorem an:∀ s∈([]:gM),s.2 w:=fun _ h=>by cases h
theorem am{i:Nat}(h:S w)(t:∀ s∈Ss,s.2 w):∀ s∈(i,S)::Ss,s.2 w:=fun s hs=>by
 rcases List.mem_cons.1 hs with rfl | hs
 ·exact h
 ·exact t s hs
theorem ao(i:Nat)(h:MO P ops Q fu Ss L n l w i)(hr:Region.ready .any ops L=[i]:=by kernel_rfl):RX P ops Q (fu+1) Ss L n l w:=rx1 i hr h
end
section
variable{P:Program}{o:Oper}{n:Sz}{l:aS}{v:Value}{x y xl xh:Operand}{ty t t2:TypeId}{ts:Array TypeId}{A:Option Addr}{nn c:Nat}{k:IntKind}{m j:Int}{b g off:Nat}{α:Type}{C:Cod α}
def CD:Op→Option Operand
 | .move x=>some x
 | .assign x=>some x
 | _=>none
theorem Vl.mv(ho:CD o.op=some x:=by exact rfl)(hx:vo l x=some v:=by exact rfl):Vl P n l o v:=fun a w hF=>by
 cases hq:o.op<;>rw[hq]at ho<;>first | (cases ho;done) | skip
 ·obtain rfl:=Option.some.inj ho
  exact bo hq (hF.vo hx)
 ·obtain rfl:=Option.some.inj ho
  exact fY hq (hF.vo hx)
def isSl(P:Program)(ty:TypeId):Bool:=match P.underlying ty with
 | some (.slice _)=>true
 | _=>false
theorem isSl.spec(h:isSl P ty=true):∃ e,P.underlying ty=some (.slice e):=by
 unfold isSl at h
 split at h
 ·exact ⟨_,‹_›⟩
 ·cases h
theorem Vl.len(ho:o.op=.call { callee:=.builtin .len,args := #[x],argTypes := #[ty] }:=by exact rfl)(hx:vo l x=some (.slice A nn c):=by exact rfl)(hu:isSl P ty=true:=by kernel_rfl):Vl P n l o (.int .i64 (nn:Int)):=fun _ _ hF=>by
 obtain ⟨e,he⟩:=isSl.spec hu
 exact fj ho he (hF.vo hx)
section
variable(p:Prop)[Decidable p]
theorem Vl.lt(ho:o.op=.binOp .lss t x y t2:=by exact rfl)(hx:vo l x=some (.int k m):=by exact rfl)(hy:vo l y=some (.int k j):=by exact rfl)(hp:m<j↔p:=by omega):Vl P n l o (.bool (decide p)):=fun _ _ hF=>jv ho (hF.vo hx) (hF.vo hy) (dc hp)
theorem Vl.le(ho:o.op=.binOp .leq t x y t2:=by exact rfl)(hx:vo l x=some (.int k m):=by exact rfl)(hy:vo l y=some (.int k j):=by exact rfl)(hp:m≤j↔p:=by omega):Vl P n l o (.bool (decide p)):=fun _ _ hF=>xV ho (hF.vo hx) (hF.vo hy) (dc hp)
theorem Vl.gt(ho:o.op=.binOp .gtr t x y t2:=by exact rfl)(hx:vo l x=some (.int k m):=by exact rfl)(hy:vo l y=some (.int k j):=by exact rfl)(hp:m > j↔p:=by omega):Vl P n l o (.bool (decide p)):=fun _ _ hF=>nB ho (hF.vo hx) (hF.vo hy) (dc hp)
theorem Vl.ge(ho:o.op=.binOp .geq t x y t2:=by exact rfl)(hx:vo l x=some (.int k m):=by exact rfl)(hy:vo l y=some (.int k j):=by exact rfl)(hp:m ≥ j↔p:=by omega):Vl P n l o (.bool (decide p)):=fun _ _ hF=>fL ho (hF.vo hx) (hF.vo hy) (dc hp)
theorem Vl.eq(ho:o.op=.binOp .eql t x y t2:=by exact rfl)(hx:vo l x=some (.int k m):=by exact rfl)(hy:vo l y=some (.int k j):=by exact rfl)(hp:m=j↔p:=by omega):Vl P n l o (.bool (decide p)):=fun _ _ hF=>fN ho (hF.vo hx) (hF.vo hy) (dc hp)
theorem Vl.ne(ho:o.op=.binOp .neq t x y t2:=by exact rfl)(hx:vo l x=some (.int k m):=by exact rfl)(hy:vo l y=some (.int k j):=by exact rfl)(hp:m≠j↔p:=by omega):Vl P n l o (.bool (decide p)):=fun _ _ hF=>ic ho (hF.vo hx) (hF.vo hy) (dc hp)
end
theorem Vl.add(z:Int)(ho:o.op=.binOp .add t x y t2:=by exact rfl)(hx:vo l x=some (.int k m):=by exact rfl)(hy:vo l y=some (.int k j):=by exact rfl)(hz:k.wrap (m+j)=z:=by exact wI (by omega) (by omega) (by omega)):Vl P n l o (.int k z):=fun _ _ hF=>ny ho (hF.vo hx) (hF.vo hy) hz
theorem Vl.sub(z:Int)(ho:o.op=.binOp .sub t x y t2:=by exact rfl)(hx:vo l x=some (.int k m):=by exact rfl)(hy:vo l y=some (.int k j):=by exact rfl)(hz:k.wrap (m-j)=z:=by exact wI (by omega) (by omega) (by omega)):Vl P n l o (.int k z):=fun _ _ hF=>ju ho (hF.vo hx) (hF.vo hy) hz
theorem Vl.mul(z:Int)(ho:o.op=.binOp .mul t x y t2:=by exact rfl)(hx:vo l x=some (.int k m):=by exact rfl)(hy:vo l y=some (.int k j):=by exact rfl)(hz:k.wrap (m*j)=z:=by exact wI (by omega) (by omega) (by omega)):Vl P n l o (.int k z):=fun _ _ hF=>ti ho (hF.vo hx) (hF.vo hy) hz
theorem Vl.nc(ho:o.op=.nilCheck x:=by exact rfl)(hx:vo l x=some (.pointer (some ⟨b,off,none⟩)):=by exact rfl):Vl P n l o (.pointer (some ⟨b,off,none⟩)):=fun _ _ hF=>oS ho (hF.vo hx)
theorem Vl.fld(off':Nat){s ff:Nat}(ho:o.op=.fieldAddr s x ff:=by exact rfl)(hx:vo l x=some (.pointer (some ⟨b,off,none⟩)):=by exact rfl)(hf:j7 P s ff=some off':=by kernel_rfl):Vl P n l o (.pointer (some ⟨b,off+off',none⟩)):=fun _ _ hF=>vL ho (hF.vo hx) hf
theorem Vl.ext{i:Nat}{us:Array Value}(ho:o.op=.extract x i:=by exact rfl)(hx:vo l x=some (.tuple us):=by exact rfl)(hi:us[i]?=some v:=by exact rfl):Vl P n l o v:=fun _ _ hF=>rY ho (hF.vo hx) hi
def elemSz(P:Program)(ty:TypeId)(sz:Nat):Bool:=match P.underlying ty with
 | some (.slice e)=>(P.info? e).map (·.size) == some sz
 | _=>false
theorem elemSz.spec{sz:Nat}(h:elemSz P ty sz=true):∃ e,P.underlying ty=some (.slice e)∧(P.info? e).map (·.size)=some sz:=by
 unfold elemSz at h
 split at h
 ·exact ⟨_,‹_›,by simpa using h⟩
 ·cases h
def arrSz(P:Program)(ty:TypeId)(sz nn:Nat):Bool:=match P.underlying ty with
 | some (.array m e)=>Nat.beq m nn&&(P.info? e).map (·.size) == some sz
 | _=>false
theorem arrSz.spec{sz:Nat}(h:arrSz P ty sz nn=true):∃ e,P.underlying ty=some (.array nn e)∧(P.info? e).map (·.size)=some sz:=by
 unfold arrSz at h
 split at h
 ·obtain ⟨h1,h2⟩:=Bool.and_eq_true_iff.1 h
  obtain rfl:=Nat.eq_of_beq_eq_true h1
  exact ⟨_,‹_›,by simpa using h2⟩
 ·cases h
theorem Vl.ix(sz i:Nat)(ho:o.op=.indexAddr ty x y:=by exact rfl)(hx:vo l x=some (.slice (some ⟨b,off,none⟩) nn c):=by exact rfl)(hy:vo l y=some (.int k j):=by exact rfl)(hi:i<nn:=by omega)(hj:j=(i:Int):=by exact rfl)(hu:elemSz P ty sz=true:=by kernel_rfl):Vl P n l o (.pointer (some ⟨b,off+i*sz,none⟩)):=fun _ _ hF=>by
 obtain ⟨e,h1,h2⟩:=elemSz.spec hu
 exact ig ho h1 h2 (hF.vo hx) (hF.vo hy) hj hi
theorem Vl.ia(sz nn i:Nat)(ho:o.op=.indexAddr ty x y:=by exact rfl)(hx:vo l x=some (.pointer (some ⟨b,off,none⟩)):=by exact rfl)(hy:vo l y=some (.int k j):=by exact rfl)(hi:i<nn:=by omega)(hj:j=(i:Int):=by exact rfl)(hu:arrSz P ty sz nn=true:=by kernel_rfl):Vl P n l o (.pointer (some ⟨b,off+i*sz,none⟩)):=fun _ _ hF=>by
 obtain ⟨e,h1,h2⟩:=arrSz.spec hu
 exact tk ho h1 h2 (hF.vo hx) (hF.vo hy) hj hi
def isInt(P:Program)(ty:TypeId)(k:IntKind):Bool:=match P.underlying ty with
 | some (.int k')=>k' == k
 | _=>false
theorem isInt.spec(h:isInt P ty k=true):P.underlying ty=some (.int k):=by
 unfold isInt at h
 split at h
 ·rw[‹P.underlying ty=_›]
  congr 2
  simpa using h
 ·cases h
def yJ(P:Program)(ty:TypeId):Bool:=(P.underlying ty).isSome
theorem Vl.ci{src:TypeId}(ho:o.op=.convert src ty x:=by exact rfl)(hx:vo l x=some (.int k m):=by exact rfl)(hd:isInt P ty .i64=true:=by kernel_rfl)(hs:yJ P src=true:=by kernel_rfl)(hl:-9223372036854775808≤m:=by omega)(hh:m≤9223372036854775807:=by omega):Vl P n l o (.int .i64 m):=fun _ _ hF =>
 jR ho hs (isInt.spec hd) (hF.vo hx) (wI rfl hl hh)
theorem Vl.cu(k':IntKind){src:TypeId}{q:Nat}(ho:o.op=.convert src ty x:=by exact rfl)(hx:vo l x=some (.int k (q:Int)):=by exact rfl)(hd:isInt P ty k'=true:=by kernel_rfl)(hs:yJ P src=true:=by kernel_rfl)(h0:k'.signed=false:=by exact rfl)(hh:q<2^k'.bits:=by (show _<_;simp only[IntKind.bits];omega)):Vl P n l o (.int k' (q:Int)):=fun _ _ hF =>
 im h0 ho hs (isInt.spec hd) (hF.vo hx) (Nat.mod_eq_of_lt hh)
theorem Vl.cb{src:TypeId}{q:Nat}(ho:o.op=.convert src ty x:=by exact rfl)(hx:vo l x=some (.int k (q:Int)):=by exact rfl)(hd:isInt P ty .u8=true:=by kernel_rfl)(hs:yJ P src=true:=by kernel_rfl):Vl P n l o (.int .u8 ((UInt8.ofNat q).toNat:Int)):=fun _ _ hF =>
 im rfl ho hs (isInt.spec hd) (hF.vo hx) (UInt8.toNat_ofNat' (n:=q)).symm
end
section
variable{P:Program}{o:Oper}{n:Sz}{l:aS}{v:Value}{x y:Operand}{ty t:TypeId}{b g off:Nat}{α:Type}{C:Cod α}{w w0:World}{R:List Nat}{Hs:List Hl}{cs cs':Array Value}{S:World→Prop}
def nM(g:Nat)(ob:Obj)(w:World):Prop:=w.heap[g]?=some ob
theorem HH.q(hH:HH w0 R Hs w)(c:Nat){ob:Obj}(hi:Hs[c]?=some [(g,ob)]):nM g ob w:=hH.blk c hi
theorem HH.ob{ob:Obj}(hH:HH w0 R Hs w)(h:w0.heap[g]?=some ob)(hR:g ∉ R:=by simp):nM g ob w:=hH.oldBlk h hR
theorem Vs.ld(C:Cod α)(y:α)(hm:∀ w,S w→Holds C w b off y)(ho:o.op=.load ty x:=by exact rfl)(hx:vo l x=some (.pointer (some ⟨b,off,none⟩)):=by exact rfl)(hty:tyOk P ty C=true:=by kernel_rfl)(hv:v=C.val y:=by exact rfl):Vs P n l S o v:=fun _ _ hF hS=>my ho (hF.vo hx) hty (hm _ hS) hv.symm
theorem Vs.lc(ho:o.op=.load ty x:=by exact rfl)(hx:vo l x=some (.pointer (some ⟨g,off,none⟩)):=by exact rfl)(hc:cs[off]?=some v:=by exact rfl)(hty:((P.underlying ty).map (·.isRow) == some false)=true:=by kernel_rfl):Vs P n l (nM g (.cells cs t (0,0))) o v:=fun _ _ hF hS=>vQ hS ho (hF.vo hx) (by simpa using hty) hc
theorem Sm.st(C:Cod α)(z:α)(hn:off+C.sz≤cs.size)(hcs:bJ cs off (C.enc z).toList=cs')(ho:o.op=.store ty x y:=by exact rfl)(hx:vo l x=some (.pointer (some ⟨g,off,none⟩)):=by exact rfl)(hy:vo l y=some v:=by exact rfl)(hv:v=C.val z:=by exact rfl)(hty:tyOk P ty C=true:=by kernel_rfl):Sm P n l o [bl g t cs] (fun _=>True) (fun _ E'=>E'=[bl g t cs']):=fun _ hF=>bV ho (hF.vo hx) (hF.vo hy) hv.symm hty hn hcs
theorem Sm.sw(C:Cod α)(u z:α)(ho:o.op=.store ty x y:=by exact rfl)(hx:vo l x=some (.pointer (some ⟨g,0,none⟩)):=by exact rfl)(hy:vo l y=some v:=by exact rfl)(hv:v=C.val z:=by exact rfl)(hty:tyOk P ty C=true:=by kernel_rfl):Sm P n l o [bl g t (C.enc u)] (fun _=>True) (fun _ E'=>E'=[bl g t (C.enc z)]):=fun _ hF=>bV ho (hF.vo hx) (hF.vo hy) hv.symm hty (by rw[Cod.size];omega) (cy C u z)
theorem Sm.sc(ho:o.op=.store ty x y:=by exact rfl)(hx:vo l x=some (.pointer (some ⟨g,off,none⟩)):=by exact rfl)(hy:vo l y=some v:=by exact rfl)(hs:((P.info? ty).map (·.size) == some 1)=true:=by kernel_rfl)(hn:Nat.blt off cs.size=true:=by exact rfl)(h1:v.oneCell'=true:=by exact rfl)(hcs:cs.setIfInBounds off v=cs':=by exact rfl):Sm P n l o [bl g t cs] (fun _=>True) (fun _ E'=>E'=[bl g t cs']):=fun _ hF=>qc ho (hF.vo hx) (hF.vo hy) (by simpa using hs) (ltb hn) h1 hcs
theorem Sm.al(C:Cod α)(z:α)(ho:o.op=.alloc ty:=by exact rfl)(hz:(P.info? ty).bind (·.zero)=some (C.val z):=by kernel_rfl):Sm P n l o [] (fun _=>True) (fun v E' => ∃ g,v=jI g∧E'=[bl g ty (C.enc z)]):=fun _ _=>mx ho hz rfl
theorem Sm.bx(C:Cod α)(z:α)(ho:o.op=.box ty x:=by exact rfl)(hx:vo l x=some v:=by exact rfl)(hv:v=C.val z:=by exact rfl):Sm P n l o [] (fun _=>True) (fun v E' => ∃ g,v=jI g∧E'=[bl g ty (C.enc z)]):=fun _ hF=>xW ho (hF.vo hx) (by rw[hv];rfl)
theorem zB{P:Program}{ops:Array Oper}{Q:Exit→Act→World→Prop}{o:Oper}{rest:List Oper}{w w0:World}{n:Sz}{d:Nat}{l l':aS}{R:List Nat}{Hs:List Hl}{ty:TypeId}{x:Operand}{v:Value}{α:Type}(hH:HH w0 R Hs w)(C:Cod α)(z:α)(m:Nat)(h:∀ g w',HH w0 R (Hs++[[bl g ty (C.enc z)]]) w'→PX P ops Q rest n ((d,jI g)::l') w')(ho:o.op=.box ty x:=by exact rfl)(hx:vo l x=some v:=by exact rfl)(hv:v=C.val z:=by exact rfl)(hd:o.dst=some d:=by exact rfl)(hg:o.guard=none:=by exact rfl)(hn:Nm (dQ m l) l':=by (repeat (first | exact Nm.nil | apply Nm.cons)))(hk:(ex d l'&&Nat.blt d n.n)=true:=by exact rfl):PX P ops Q (o::rest) n l w:=zm hH (.bx C z ho hx hv) trivial m (fun _ _ w' hp hH=>by obtain ⟨g,rfl,rfl⟩:=hp;exact h g w' hH) hd hg hn hk
theorem zA{P:Program}{ops:Array Oper}{Q:Exit→Act→World→Prop}{o:Oper}{rest:List Oper}{w w0:World}{n:Sz}{d:Nat}{l l':aS}{R:List Nat}{Hs:List Hl}{ty:TypeId}{α:Type}(hH:HH w0 R Hs w)(C:Cod α)(z:α)(m:Nat)(h:∀ g w',HH w0 R (Hs++[[bl g ty (C.enc z)]]) w'→PX P ops Q rest n ((d,jI g)::l') w')(ho:o.op=.alloc ty:=by exact rfl)(hz:(P.info? ty).bind (·.zero)=some (C.val z):=by kernel_rfl)(hd:o.dst=some d:=by exact rfl)(hg:o.guard=none:=by exact rfl)(hn:Nm (dQ m l) l':=by (repeat (first | exact Nm.nil | apply Nm.cons)))(hk:(ex d l'&&Nat.blt d n.n)=true:=by exact rfl):PX P ops Q (o::rest) n l w:=zm hH (.al C z ho hz) trivial m (fun _ _ w' hp hH=>by obtain ⟨g,rfl,rfl⟩:=hp;exact h g w' hH) hd hg hn hk
theorem zW{P:Program}{ops:Array Oper}{Q:Exit→Act→World→Prop}{o:Oper}{rest:List Oper}{w w0:World}{n:Sz}{l:aS}{R:List Nat}{Hs:List Hl}{t ty:TypeId}{x y:Operand}{v:Value}{g:Nat}{α:Type}{C:Cod α}{u:α}(c:Nat)(hH:HH w0 R Hs w)(hi:Hs[c]?=some [bl g t (C.enc u)])(z:α)(h:∀ w',HH w0 R (Hs.set c [bl g t (C.enc z)]) w'→PX P ops Q rest n l w')(ho:o.op=.store ty x y:=by exact rfl)(hx:vo l x=some (.pointer (some ⟨g,0,none⟩)):=by exact rfl)(hy:vo l y=some v:=by exact rfl)(hv:v=C.val z:=by exact rfl)(hty:tyOk P ty C=true:=by kernel_rfl)(hd:o.dst=none:=by exact rfl)(hg:o.guard=none:=by exact rfl):PX P ops Q (o::rest) n l w:=ze0 c hH hi (.sw C u z ho hx hy hv hty) trivial (fun _ _ w' hp hH=>by subst hp;exact h w' hH) hd hg
theorem Vs.l0{P:Program}{o:Oper}{n:Sz}{l:aS}{v:Value}{x:Operand}{ty t:TypeId}{b:Nat}{α:Type}(C:Cod α)(y:α)(ho:o.op=.load ty x:=by exact rfl)(hx:vo l x=some (.pointer (some ⟨b,0,none⟩)):=by exact rfl)(hty:tyOk P ty C=true:=by kernel_rfl)(hv:v=C.val y:=by exact rfl):Vs P n l (nM b (.cells (C.enc y) t (0,0))) o v:=.ld C y (fun _ hS=>ae hS) ho hx hty hv
theorem zE{w w0:World}{Hs:List Hl}{a:Prop}(hH:HH w0 [] Hs w)(h:a:=by exact rfl):a∧Below w0.heap.size w0 w:=⟨h,hH.toBelow⟩
end
section
variable{P:Program}{ops:Array Oper}{Q:Exit→Act→World→Prop}{w:World}{n:Sz}{l:aS}{x y:Code}{id:Nat}{ls:List Oper}
theorem zn(h:CX P Q y n l w):PX P ops (Exit.then (y.wp P Q) Q) [] n l w:=aD (ag h)
theorem zr(h:PX P ls.toArray (Exit.then (y.wp P Q) Q) ls n l w):CX P Q (.seq (.region id ls.toArray false) y) n l w:=aj (aC h)
theorem zx(h:RX P ls.toArray (Exit.then (y.wp P Q) Q) ls.length [] (Array.replicate ls.length false) n l w.drew)(hm:P.follows .mixedOrders=true:=by exact mixedOrders)(hok:jw .any ls.toArray=true:=by kernel_rfl):CX P Q (.seq (.region id ls.toArray true) y) n l w:=aj (br hm hok h)
theorem rn{Ss:gM}{L:Array Bool}{m:Nat}(h:CX P Q y n l w)(hr:Region.ready .any ops L=[]:=by kernel_rfl):RX P ops (Exit.then (y.wp P Q) Q) m Ss L n l w:=bQ hr (ag h)
theorem zP{c:Operand}{p:Prop}[Decidable p](ht:p→CX P Q x n l w)(hf:¬ p→CX P Q y n l w)(hi:vo l c=some (.bool (decide p)):=by exact rfl):CX P Q (.cond c x y) n l w:=fun a hF=>by
 have hv:=hF.vo hi
 by_cases h:p
 ·exact wp_cond_true (by rw[hv,decide_eq_true h]) (ht h a hF)
 ·exact wp_cond_false (by rw[hv,decide_eq_false h]) (hf h a hF)
theorem zT{c:Operand}(h:CX P Q x n l w)(hi:vo l c=some (.bool true):=by exact rfl):CX P Q (.cond c x y) n l w:=fun a hF=>wp_cond_true (hF.vo hi) (h a hF)
theorem zF{c:Operand}(h:CX P Q y n l w)(hi:vo l c=some (.bool false):=by exact rfl):CX P Q (.cond c x y) n l w:=fun a hF=>wp_cond_false (hF.vo hi) (h a hF)
def qL1{α0:Type}(n:Sz)(fr:α0→aS)(I:α0→World→Prop)(μ:α0→Nat)(a0:α0):Act→World→Prop:=il n (fun x:α0=>fr x) (fun x=>I x) (fun x=>μ x) a0
theorem zL1{α0:Type}(fr:α0→aS)(I:α0→World→Prop)(μ:α0→Nat)(a0:α0)(h0:I a0 w)(round:∀ a0 w,I a0 w→CX P (Exit.then (qL1 n fr I μ a0) Q) y n (fr a0) w)(hfr:Al l (fr a0):=by (repeat (first | exact Al.nil | refine Al.cons rfl ?_))):CX P Q (.loop y) n l w :=
 f6 (σ:=α0) (fun x=>fr x) (fun x=>I x) (fun x=>μ x) a0 h0 hfr.all fun x w h=>round x w h
theorem zR1{α0:Type}{fr:α0→aS}{I:α0→World→Prop}{μ:α0→Nat}{b0:α0}(a0:α0)(hI:I a0 w)(hμ:μ a0<μ b0)(hfr:Al l (fr a0):=by (repeat (first | exact Al.nil | refine Al.cons rfl ?_))):QX (Exit.then (qL1 n fr I μ b0) Q) .normal n l w :=
 eS (σ:=α0) (fr:=fun x=>fr x) (I:=fun x=>I x) (μ:=fun x=>μ x) a0 hI hμ hfr.all
def qL2{α0 α1:Type}(n:Sz)(fr:α0→α1→aS)(I:α0→α1→World→Prop)(μ:α0→α1→Nat)(a0:α0)(a1:α1):Act→World→Prop:=il n (fun x:α0×α1=>fr x.1 x.2) (fun x=>I x.1 x.2) (fun x=>μ x.1 x.2) (a0,a1)
theorem zL2{α0 α1:Type}(fr:α0→α1→aS)(I:α0→α1→World→Prop)(μ:α0→α1→Nat)(a0:α0)(a1:α1)(h0:I a0 a1 w)(round:∀ a0 a1 w,I a0 a1 w→CX P (Exit.then (qL2 n fr I μ a0 a1) Q) y n (fr a0 a1) w)(hfr:Al l (fr a0 a1):=by (repeat (first | exact Al.nil | refine Al.cons rfl ?_))):CX P Q (.loop y) n l w :=
 f6 (σ:=α0×α1) (fun x=>fr x.1 x.2) (fun x=>I x.1 x.2) (fun x=>μ x.1 x.2) (a0,a1) h0 hfr.all fun x w h=>round x.1 x.2 w h
theorem zR2{α0 α1:Type}{fr:α0→α1→aS}{I:α0→α1→World→Prop}{μ:α0→α1→Nat}{b0:α0}{b1:α1}(a0:α0)(a1:α1)(hI:I a0 a1 w)(hμ:μ a0 a1<μ b0 b1)(hfr:Al l (fr a0 a1):=by (repeat (first | exact Al.nil | refine Al.cons rfl ?_))):QX (Exit.then (qL2 n fr I μ b0 b1) Q) .normal n l w :=
 eS (σ:=α0×α1) (fr:=fun x=>fr x.1 x.2) (I:=fun x=>I x.1 x.2) (μ:=fun x=>μ x.1 x.2) (a0,a1) hI hμ hfr.all
def qL3{α0 α1 α2:Type}(n:Sz)(fr:α0→α1→α2→aS)(I:α0→α1→α2→World→Prop)(μ:α0→α1→α2→Nat)(a0:α0)(a1:α1)(a2:α2):Act→World→Prop:=il n (fun x:α0×α1×α2=>fr x.1 x.2.1 x.2.2) (fun x=>I x.1 x.2.1 x.2.2) (fun x=>μ x.1 x.2.1 x.2.2) (a0,a1,a2)
theorem zL3{α0 α1 α2:Type}(fr:α0→α1→α2→aS)(I:α0→α1→α2→World→Prop)(μ:α0→α1→α2→Nat)(a0:α0)(a1:α1)(a2:α2)(h0:I a0 a1 a2 w)(round:∀ a0 a1 a2 w,I a0 a1 a2 w→CX P (Exit.then (qL3 n fr I μ a0 a1 a2) Q) y n (fr a0 a1 a2) w)(hfr:Al l (fr a0 a1 a2):=by (repeat (first | exact Al.nil | refine Al.cons rfl ?_))):CX P Q (.loop y) n l w :=
 f6 (σ:=α0×α1×α2) (fun x=>fr x.1 x.2.1 x.2.2) (fun x=>I x.1 x.2.1 x.2.2) (fun x=>μ x.1 x.2.1 x.2.2) (a0,a1,a2) h0 hfr.all fun x w h=>round x.1 x.2.1 x.2.2 w h
theorem zR3{α0 α1 α2:Type}{fr:α0→α1→α2→aS}{I:α0→α1→α2→World→Prop}{μ:α0→α1→α2→Nat}{b0:α0}{b1:α1}{b2:α2}(a0:α0)(a1:α1)(a2:α2)(hI:I a0 a1 a2 w)(hμ:μ a0 a1 a2<μ b0 b1 b2)(hfr:Al l (fr a0 a1 a2):=by (repeat (first | exact Al.nil | refine Al.cons rfl ?_))):QX (Exit.then (qL3 n fr I μ b0 b1 b2) Q) .normal n l w :=
 eS (σ:=α0×α1×α2) (fr:=fun x=>fr x.1 x.2.1 x.2.2) (I:=fun x=>I x.1 x.2.1 x.2.2) (μ:=fun x=>μ x.1 x.2.1 x.2.2) (a0,a1,a2) hI hμ hfr.all
def qL4{α0 α1 α2 α3:Type}(n:Sz)(fr:α0→α1→α2→α3→aS)(I:α0→α1→α2→α3→World→Prop)(μ:α0→α1→α2→α3→Nat)(a0:α0)(a1:α1)(a2:α2)(a3:α3):Act→World→Prop:=il n (fun x:α0×α1×α2×α3=>fr x.1 x.2.1 x.2.2.1 x.2.2.2) (fun x=>I x.1 x.2.1 x.2.2.1 x.2.2.2) (fun x=>μ x.1 x.2.1 x.2.2.1 x.2.2.2) (a0,a1,a2,a3)
theorem zL4{α0 α1 α2 α3:Type}(fr:α0→α1→α2→α3→aS)(I:α0→α1→α2→α3→World→Prop)(μ:α0→α1→α2→α3→Nat)(a0:α0)(a1:α1)(a2:α2)(a3:α3)(h0:I a0 a1 a2 a3 w)(round:∀ a0 a1 a2 a3 w,I a0 a1 a2 a3 w→CX P (Exit.then (qL4 n fr I μ a0 a1 a2 a3) Q) y n (fr a0 a1 a2 a3) w)(hfr:Al l (fr a0 a1 a2 a3):=by (repeat (first | exact Al.nil | refine Al.cons rfl ?_))):CX P Q (.loop y) n l w :=
 f6 (σ:=α0×α1×α2×α3) (fun x=>fr x.1 x.2.1 x.2.2.1 x.2.2.2) (fun x=>I x.1 x.2.1 x.2.2.1 x.2.2.2) (fun x=>μ x.1 x.2.1 x.2.2.1 x.2.2.2) (a0,a1,a2,a3) h0 hfr.all fun x w h=>round x.1 x.2.1 x.2.2.1 x.2.2.2 w h
theorem zR4{α0 α1 α2 α3:Type}{fr:α0→α1→α2→α3→aS}{I:α0→α1→α2→α3→World→Prop}{μ:α0→α1→α2→α3→Nat}{b0:α0}{b1:α1}{b2:α2}{b3:α3}(a0:α0)(a1:α1)(a2:α2)(a3:α3)(hI:I a0 a1 a2 a3 w)(hμ:μ a0 a1 a2 a3<μ b0 b1 b2 b3)(hfr:Al l (fr a0 a1 a2 a3):=by (repeat (first | exact Al.nil | refine Al.cons rfl ?_))):QX (Exit.then (qL4 n fr I μ b0 b1 b2 b3) Q) .normal n l w :=
 eS (σ:=α0×α1×α2×α3) (fr:=fun x=>fr x.1 x.2.1 x.2.2.1 x.2.2.2) (I:=fun x=>I x.1 x.2.1 x.2.2.1 x.2.2.2) (μ:=fun x=>μ x.1 x.2.1 x.2.2.1 x.2.2.2) (a0,a1,a2,a3) hI hμ hfr.all
def qL5{α0 α1 α2 α3 α4:Type}(n:Sz)(fr:α0→α1→α2→α3→α4→aS)(I:α0→α1→α2→α3→α4→World→Prop)(μ:α0→α1→α2→α3→α4→Nat)(a0:α0)(a1:α1)(a2:α2)(a3:α3)(a4:α4):Act→World→Prop:=il n (fun x:α0×α1×α2×α3×α4=>fr x.1 x.2.1 x.2.2.1 x.2.2.2.1 x.2.2.2.2) (fun x=>I x.1 x.2.1 x.2.2.1 x.2.2.2.1 x.2.2.2.2) (fun x=>μ x.1 x.2.1 x.2.2.1 x.2.2.2.1 x.2.2.2.2) (a0,a1,a2,a3,a4)
theorem zL5{α0 α1 α2 α3 α4:Type}(fr:α0→α1→α2→α3→α4→aS)(I:α0→α1→α2→α3→α4→World→Prop)(μ:α0→α1→α2→α3→α4→Nat)(a0:α0)(a1:α1)(a2:α2)(a3:α3)(a4:α4)(h0:I a0 a1 a2 a3 a4 w)(round:∀ a0 a1 a2 a3 a4 w,I a0 a1 a2 a3 a4 w→CX P (Exit.then (qL5 n fr I μ a0 a1 a2 a3 a4) Q) y n (fr a0 a1 a2 a3 a4) w)(hfr:Al l (fr a0 a1 a2 a3 a4):=by (repeat (first | exact Al.nil | refine Al.cons rfl ?_))):CX P Q (.loop y) n l w :=
 f6 (σ:=α0×α1×α2×α3×α4) (fun x=>fr x.1 x.2.1 x.2.2.1 x.2.2.2.1 x.2.2.2.2) (fun x=>I x.1 x.2.1 x.2.2.1 x.2.2.2.1 x.2.2.2.2) (fun x=>μ x.1 x.2.1 x.2.2.1 x.2.2.2.1 x.2.2.2.2) (a0,a1,a2,a3,a4) h0 hfr.all fun x w h=>round x.1 x.2.1 x.2.2.1 x.2.2.2.1 x.2.2.2.2 w h
theorem zR5{α0 α1 α2 α3 α4:Type}{fr:α0→α1→α2→α3→α4→aS}{I:α0→α1→α2→α3→α4→World→Prop}{μ:α0→α1→α2→α3→α4→Nat}{b0:α0}{b1:α1}{b2:α2}{b3:α3}{b4:α4}(a0:α0)(a1:α1)(a2:α2)(a3:α3)(a4:α4)(hI:I a0 a1 a2 a3 a4 w)(hμ:μ a0 a1 a2 a3 a4<μ b0 b1 b2 b3 b4)(hfr:Al l (fr a0 a1 a2 a3 a4):=by (repeat (first | exact Al.nil | refine Al.cons rfl ?_))):QX (Exit.then (qL5 n fr I μ b0 b1 b2 b3 b4) Q) .normal n l w :=
 eS (σ:=α0×α1×α2×α3×α4) (fr:=fun x=>fr x.1 x.2.1 x.2.2.1 x.2.2.2.1 x.2.2.2.2) (I:=fun x=>I x.1 x.2.1 x.2.2.1 x.2.2.2.1 x.2.2.2.2) (μ:=fun x=>μ x.1 x.2.1 x.2.2.1 x.2.2.2.1 x.2.2.2.2) (a0,a1,a2,a3,a4) hI hμ hfr.all
def qL7{α0 α1 α2 α3 α4 α5 α6:Type}(n:Sz)(fr:α0→α1→α2→α3→α4→α5→α6→aS)(I:α0→α1→α2→α3→α4→α5→α6→World→Prop)(μ:α0→α1→α2→α3→α4→α5→α6→Nat)(a0:α0)(a1:α1)(a2:α2)(a3:α3)(a4:α4)(a5:α5)(a6:α6):Act→World→Prop:=il n (fun x:α0×α1×α2×α3×α4×α5×α6=>fr x.1 x.2.1 x.2.2.1 x.2.2.2.1 x.2.2.2.2.1 x.2.2.2.2.2.1 x.2.2.2.2.2.2) (fun x=>I x.1 x.2.1 x.2.2.1 x.2.2.2.1 x.2.2.2.2.1 x.2.2.2.2.2.1 x.2.2.2.2.2.2) (fun x=>μ x.1 x.2.1 x.2.2.1 x.2.2.2.1 x.2.2.2.2.1 x.2.2.2.2.2.1 x.2.2.2.2.2.2) (a0,a1,a2,a3,a4,a5,a6)
theorem zL7{α0 α1 α2 α3 α4 α5 α6:Type}(fr:α0→α1→α2→α3→α4→α5→α6→aS)(I:α0→α1→α2→α3→α4→α5→α6→World→Prop)(μ:α0→α1→α2→α3→α4→α5→α6→Nat)(a0:α0)(a1:α1)(a2:α2)(a3:α3)(a4:α4)(a5:α5)(a6:α6)(h0:I a0 a1 a2 a3 a4 a5 a6 w)(round:∀ a0 a1 a2 a3 a4 a5 a6 w,I a0 a1 a2 a3 a4 a5 a6 w→CX P (Exit.then (qL7 n fr I μ a0 a1 a2 a3 a4 a5 a6) Q) y n (fr a0 a1 a2 a3 a4 a5 a6) w)(hfr:Al l (fr a0 a1 a2 a3 a4 a5 a6):=by (repeat (first | exact Al.nil | refine Al.cons rfl ?_))):CX P Q (.loop y) n l w :=
 f6 (σ:=α0×α1×α2×α3×α4×α5×α6) (fun x=>fr x.1 x.2.1 x.2.2.1 x.2.2.2.1 x.2.2.2.2.1 x.2.2.2.2.2.1 x.2.2.2.2.2.2) (fun x=>I x.1 x.2.1 x.2.2.1 x.2.2.2.1 x.2.2.2.2.1 x.2.2.2.2.2.1 x.2.2.2.2.2.2) (fun x=>μ x.1 x.2.1 x.2.2.1 x.2.2.2.1 x.2.2.2.2.1 x.2.2.2.2.2.1 x.2.2.2.2.2.2) (a0,a1,a2,a3,a4,a5,a6) h0 hfr.all fun x w h=>round x.1 x.2.1 x.2.2.1 x.2.2.2.1 x.2.2.2.2.1 x.2.2.2.2.2.1 x.2.2.2.2.2.2 w h
theorem zR7{α0 α1 α2 α3 α4 α5 α6:Type}{fr:α0→α1→α2→α3→α4→α5→α6→aS}{I:α0→α1→α2→α3→α4→α5→α6→World→Prop}{μ:α0→α1→α2→α3→α4→α5→α6→Nat}{b0:α0}{b1:α1}{b2:α2}{b3:α3}{b4:α4}{b5:α5}{b6:α6}(a0:α0)(a1:α1)(a2:α2)(a3:α3)(a4:α4)(a5:α5)(a6:α6)(hI:I a0 a1 a2 a3 a4 a5 a6 w)(hμ:μ a0 a1 a2 a3 a4 a5 a6<μ b0 b1 b2 b3 b4 b5 b6)(hfr:Al l (fr a0 a1 a2 a3 a4 a5 a6):=by (repeat (first | exact Al.nil | refine Al.cons rfl ?_))):QX (Exit.then (qL7 n fr I μ b0 b1 b2 b3 b4 b5 b6) Q) .normal n l w :=
 eS (σ:=α0×α1×α2×α3×α4×α5×α6) (fr:=fun x=>fr x.1 x.2.1 x.2.2.1 x.2.2.2.1 x.2.2.2.2.1 x.2.2.2.2.2.1 x.2.2.2.2.2.2) (I:=fun x=>I x.1 x.2.1 x.2.2.1 x.2.2.2.1 x.2.2.2.2.1 x.2.2.2.2.2.1 x.2.2.2.2.2.2) (μ:=fun x=>μ x.1 x.2.1 x.2.2.1 x.2.2.2.1 x.2.2.2.2.1 x.2.2.2.2.2.1 x.2.2.2.2.2.2) (a0,a1,a2,a3,a4,a5,a6) hI hμ hfr.all
def qL9{α0 α1 α2 α3 α4 α5 α6 α7 α8:Type}(n:Sz)(fr:α0→α1→α2→α3→α4→α5→α6→α7→α8→aS)(I:α0→α1→α2→α3→α4→α5→α6→α7→α8→World→Prop)(μ:α0→α1→α2→α3→α4→α5→α6→α7→α8→Nat)(a0:α0)(a1:α1)(a2:α2)(a3:α3)(a4:α4)(a5:α5)(a6:α6)(a7:α7)(a8:α8):Act→World→Prop:=il n (fun x:α0×α1×α2×α3×α4×α5×α6×α7×α8=>fr x.1 x.2.1 x.2.2.1 x.2.2.2.1 x.2.2.2.2.1 x.2.2.2.2.2.1 x.2.2.2.2.2.2.1 x.2.2.2.2.2.2.2.1 x.2.2.2.2.2.2.2.2) (fun x=>I x.1 x.2.1 x.2.2.1 x.2.2.2.1 x.2.2.2.2.1 x.2.2.2.2.2.1 x.2.2.2.2.2.2.1 x.2.2.2.2.2.2.2.1 x.2.2.2.2.2.2.2.2) (fun x=>μ x.1 x.2.1 x.2.2.1 x.2.2.2.1 x.2.2.2.2.1 x.2.2.2.2.2.1 x.2.2.2.2.2.2.1 x.2.2.2.2.2.2.2.1 x.2.2.2.2.2.2.2.2) (a0,a1,a2,a3,a4,a5,a6,a7,a8)
theorem zL9{α0 α1 α2 α3 α4 α5 α6 α7 α8:Type}(fr:α0→α1→α2→α3→α4→α5→α6→α7→α8→aS)(I:α0→α1→α2→α3→α4→α5→α6→α7→α8→World→Prop)(μ:α0→α1→α2→α3→α4→α5→α6→α7→α8→Nat)(a0:α0)(a1:α1)(a2:α2)(a3:α3)(a4:α4)(a5:α5)(a6:α6)(a7:α7)(a8:α8)(h0:I a0 a1 a2 a3 a4 a5 a6 a7 a8 w)(round:∀ a0 a1 a2 a3 a4 a5 a6 a7 a8 w,I a0 a1 a2 a3 a4 a5 a6 a7 a8 w→CX P (Exit.then (qL9 n fr I μ a0 a1 a2 a3 a4 a5 a6 a7 a8) Q) y n (fr a0 a1 a2 a3 a4 a5 a6 a7 a8) w)(hfr:Al l (fr a0 a1 a2 a3 a4 a5 a6 a7 a8):=by (repeat (first | exact Al.nil | refine Al.cons rfl ?_))):CX P Q (.loop y) n l w :=
 f6 (σ:=α0×α1×α2×α3×α4×α5×α6×α7×α8) (fun x=>fr x.1 x.2.1 x.2.2.1 x.2.2.2.1 x.2.2.2.2.1 x.2.2.2.2.2.1 x.2.2.2.2.2.2.1 x.2.2.2.2.2.2.2.1 x.2.2.2.2.2.2.2.2) (fun x=>I x.1 x.2.1 x.2.2.1 x.2.2.2.1 x.2.2.2.2.1 x.2.2.2.2.2.1 x.2.2.2.2.2.2.1 x.2.2.2.2.2.2.2.1 x.2.2.2.2.2.2.2.2) (fun x=>μ x.1 x.2.1 x.2.2.1 x.2.2.2.1 x.2.2.2.2.1 x.2.2.2.2.2.1 x.2.2.2.2.2.2.1 x.2.2.2.2.2.2.2.1 x.2.2.2.2.2.2.2.2) (a0,a1,a2,a3,a4,a5,a6,a7,a8) h0 hfr.all fun x w h=>round x.1 x.2.1 x.2.2.1 x.2.2.2.1 x.2.2.2.2.1 x.2.2.2.2.2.1 x.2.2.2.2.2.2.1 x.2.2.2.2.2.2.2.1 x.2.2.2.2.2.2.2.2 w h
theorem zR9{α0 α1 α2 α3 α4 α5 α6 α7 α8:Type}{fr:α0→α1→α2→α3→α4→α5→α6→α7→α8→aS}{I:α0→α1→α2→α3→α4→α5→α6→α7→α8→World→Prop}{μ:α0→α1→α2→α3→α4→α5→α6→α7→α8→Nat}{b0:α0}{b1:α1}{b2:α2}{b3:α3}{b4:α4}{b5:α5}{b6:α6}{b7:α7}{b8:α8}(a0:α0)(a1:α1)(a2:α2)(a3:α3)(a4:α4)(a5:α5)(a6:α6)(a7:α7)(a8:α8)(hI:I a0 a1 a2 a3 a4 a5 a6 a7 a8 w)(hμ:μ a0 a1 a2 a3 a4 a5 a6 a7 a8<μ b0 b1 b2 b3 b4 b5 b6 b7 b8)(hfr:Al l (fr a0 a1 a2 a3 a4 a5 a6 a7 a8):=by (repeat (first | exact Al.nil | refine Al.cons rfl ?_))):QX (Exit.then (qL9 n fr I μ b0 b1 b2 b3 b4 b5 b6 b7 b8) Q) .normal n l w :=
 eS (σ:=α0×α1×α2×α3×α4×α5×α6×α7×α8) (fr:=fun x=>fr x.1 x.2.1 x.2.2.1 x.2.2.2.1 x.2.2.2.2.1 x.2.2.2.2.2.1 x.2.2.2.2.2.2.1 x.2.2.2.2.2.2.2.1 x.2.2.2.2.2.2.2.2) (I:=fun x=>I x.1 x.2.1 x.2.2.1 x.2.2.2.1 x.2.2.2.2.1 x.2.2.2.2.2.1 x.2.2.2.2.2.2.1 x.2.2.2.2.2.2.2.1 x.2.2.2.2.2.2.2.2) (μ:=fun x=>μ x.1 x.2.1 x.2.2.1 x.2.2.2.1 x.2.2.2.2.1 x.2.2.2.2.2.1 x.2.2.2.2.2.2.1 x.2.2.2.2.2.2.2.1 x.2.2.2.2.2.2.2.2) (a0,a1,a2,a3,a4,a5,a6,a7,a8) hI hμ hfr.all
end
section
def fU(x:UInt32)(n:Nat):UInt32:=UInt32.ofNat (x.toNat/2^n)
def rZ(x:UInt32)(n:Nat):UInt32:=UInt32.ofNat (x.toNat*2^n)
def oW(x y:UInt32):UInt32:=x|||y
def bK(x y:UInt32):UInt32:=x&&&y
def cH(x y:UInt32):UInt32:=x^^^y
def ey(x:UInt32):UInt32 := ~~~x
def bf(x y:UInt32):UInt32:=x+y
def cI(x:UInt32)(n:Nat):UInt32:=oW (fU x n) (rZ x (32-n))
def io(x:UInt32):UInt32:=cH (cH (cI x 2) (cI x 13)) (cI x 22)
def dz(x:UInt32):UInt32:=cH (cH (cI x 6) (cI x 11)) (cI x 25)
def cZ(x:UInt32):UInt32:=cH (cH (cI x 7) (cI x 18)) (fU x 3)
def cC(x:UInt32):UInt32:=cH (cH (cI x 17) (cI x 19)) (fU x 10)
def vR(e f g:UInt32):UInt32:=cH (bK e f) (bK (ey e) g)
def xZ(a b c:UInt32):UInt32:=cH (cH (bK a b) (bK a c)) (bK b c)
theorem gO(x:UInt32)(n:Nat):(fU x n).toNat=x.toNat/2^n:=by
 unfold fU
 rw[UInt32.toNat_ofNat']
 have h:=x.toNat_lt
 have h2:x.toNat/2^n≤x.toNat:=Nat.div_le_self _ _
 exact Nat.mod_eq_of_lt (by omega)
theorem kj(x:UInt32)(n:Nat):(rZ x n).toNat=x.toNat*2^n%4294967296:=UInt32.toNat_ofNat'
def lO(b:Nat→UInt8)(t:Nat):UInt32:=UInt32.ofNat ((b (4*t)).toNat*16777216+(b (4*t+1)).toNat*65536+(b (4*t+2)).toNat*256+(b (4*t+3)).toNat)
def W32(b:Nat→UInt8)(t:Nat):UInt32 :=
 if _h:t<16 then lO b t else bf (bf (bf (cC (W32 b (t-2))) (W32 b (t-7))) (cZ (W32 b (t-15)))) (W32 b (t-16))
termination_by t
decreasing_by all_goals omega
theorem jS(b:Nat→UInt8)(t:Nat)(h:t<16):W32 b t=lO b t:=by rw[W32,dif_pos h]
theorem oX(b:Nat→UInt8)(t:Nat)(h:16≤t):W32 b t=bf (bf (bf (cC (W32 b (t-2))) (W32 b (t-7))) (cZ (W32 b (t-15)))) (W32 b (t-16)):=by
 rw[W32,dif_neg (by omega)]
def CE:List UInt32:=[1116352408,1899447441,3049323471,3921009573,961987163,1508970993,2453635748,2870763221,3624381080,310598401,607225278,1426881987,1925078388,2162078206,2614888103,3248222580,3835390401,4022224774,264347078,604807628,770255983,1249150122,1555081692,1996064986,2554220882,2821834349,2952996808,3210313671,3336571891,3584528711,113926993,338241895,666307205,773529912,1294757372,1396182291,1695183700,1986661051,2177026350,2456956037,2730485921,2820302411,3259730800,3345764771,3516065817,3600352804,4094571909,275423344,430227734,506948616,659060556,883997877,958139571,1322822218,1537002063,1747873779,1955562222,2024104815,2227730452,2361852424,2428436474,2756734187,3204031479,3329325298]
def CF:List UInt32:=[1779033703,3144134277,1013904242,2773480762,1359893119,2600822924,528734635,1541459225]
def K32(i:Nat):UInt32:=CE.getD i 0
def H32(i:Nat):UInt32:=CF.getD i 0
def gG(w:UInt32)(t:Nat)(s:Nat→UInt32):UInt32:=bf (bf (bf (bf (s 7) (dz (s 4))) (vR (s 4) (s 5) (s 6))) (K32 t)) w
def lP(s:Nat→UInt32):UInt32:=bf (io (s 0)) (xZ (s 0) (s 1) (s 2))
def mB(w:UInt32)(t:Nat)(s:Nat→UInt32):Nat→UInt32
 | 0=>bf (gG w t s) (lP s)
 | 1=>s 0
 | 2=>s 1
 | 3=>s 2
 | 4=>bf (s 3) (gG w t s)
 | 5=>s 4
 | 6=>s 5
 | _=>s 6
def au(b:Nat→UInt8)(s:Nat→UInt32):Nat→Nat→UInt32
 | 0=>s
 | t+1=>mB (W32 b t) t (au b s t)
def bq(b:Nat→UInt8)(s:Nat→UInt32):Nat→UInt32:=fun i=>bf (s i) (au b s 64 i)
def aO(m:Nat→UInt8):Nat→Nat→UInt32
 | 0=>H32
 | k+1=>bq (fun j=>m (64*k+j)) (aO m k)
def bY(n:Nat):Nat:=(n+8)/64+1
def ga(n:Nat)(f:Nat→UInt8):Nat→UInt8:=fun j =>
 if j<n then f j else if j=n then 128 else if j<64*bY n-8 then 0 else UInt8.ofNat (8*n/256^(64*bY n-1-j))
def bX(s:Nat→UInt32):Nat→UInt8:=fun i=>UInt8.ofNat ((s (i/4)).toNat/2^(24-i%4*8))
def tC(n:Nat)(f:Nat→UInt8):Nat→UInt8:=bX (aO (ga n f) (bY n))
theorem ip{b b':Nat→UInt8}{s s':Nat→UInt32}(hb:∀ j,j<64→b j=b' j)(hs:∀ i,i<8→s i=s' i):∀ i,i<8→bq b s i=bq b' s' i:=by
 have hw:∀ t,t<16→lO b t=lO b' t:=fun t ht=>by
  unfold lO
  rw[hb (4*t) (by omega),hb (4*t+1) (by omega),hb (4*t+2) (by omega),hb (4*t+3) (by omega)]
 have hW:∀ n t,t<n→W32 b t=W32 b' t:=by
  intro n
  induction n with
  | zero=>intro t ht;omega
  | succ n ih =>
   intro t ht
   by_cases h:t<16
   ·rw[jS _ _ h,jS _ _ h,hw t h]
   ·rw[oX _ _ (by omega),oX b' _ (by omega),ih (t-2) (by omega),ih (t-7) (by omega),ih (t-15) (by omega),ih (t-16) (by omega)]
 have hr:∀ t i,i<8→au b s t i=au b' s' t i:=by
  intro t
  induction t with
  | zero=>exact hs
  | succ t ih =>
   intro i hi
   show mB (W32 b t) t (au b s t) i=mB (W32 b' t) t (au b' s' t) i
   rw[hW (t+1) t (by omega)]
   have e0:=ih 0 (by omega);have e1:=ih 1 (by omega);have e2:=ih 2 (by omega);have e3:=ih 3 (by omega);have e4:=ih 4 (by omega);have e5:=ih 5 (by omega);have e6:=ih 6 (by omega);have e7:=ih 7 (by omega)
   obtain rfl | rfl | rfl | rfl | rfl | rfl | rfl | rfl:i=0∨i=1∨i=2∨i=3∨i=4∨i=5∨i=6∨i=7:=by omega
   all_goals (simp only[mB,gG,lP,e0,e1,e2,e3,e4,e5,e6,e7])
 intro i hi
 unfold bq
 rw[hs i hi,hr 64 i hi]
theorem oY{m m':Nat→UInt8}(k:Nat)(h:∀ j,j<64*k→m j=m' j):∀ i,i<8→aO m k i=aO m' k i:=by
 induction k with
 | zero=>intro i _;rfl
 | succ k ih=>exact ip (fun j hj=>h _ (by omega)) (ih fun j hj=>h j (by omega))
theorem nN{s s':Nat→UInt32}(h:∀ i,i<8→s i=s' i):∀ i,i<32→bX s i=bX s' i:=fun i hi=>by
 unfold bX
 rw[h (i/4) (by omega)]
end
structure Scal(α:Type) where
 val:α→Value
 one:∀ a,(val a).oneCell'=true
def Scal.cod{α:Type}(S:Scal α):Cod α:=⟨S.val,1,false,fun a=>by rw[dr (S.one a)];rfl,fun a=>by rw[dr (S.one a)];exact vP (S.one a),(fun h=>by cases h),fun _ a=>S.one a⟩
def Scal.row{α:Type}(S:Scal α)(n:Nat)(f:Nat→α):Array Value:=Array.ofFn fun i:Fin n=>S.val (f i)
section
variable{α:Type}{S:Scal α}{n i:Nat}{f g:Nat→α}
theorem r7(S:Scal α)(n:Nat)(f:Nat→α):(S.row n f).size=n:=by simp[Scal.row]
theorem iq(S:Scal α)(f:Nat→α)(h:i<n):(S.row n f)[i]?=some (S.val (f i)):=by simp[Scal.row,h]
theorem tD(S:Scal α)(n:Nat)(f:Nat→α):(S.row n f).all (·.oneCell')=true:=by
 rw[Array.all_eq_true_iff_forall_mem]
 intro v hv
 simp only[Scal.row,Array.mem_ofFn]at hv
 obtain ⟨i,rfl⟩:=hv
 exact S.one _
end
def Scal.vec{α:Type}(S:Scal α)(n:Nat):Cod (Nat→α):=⟨fun f=>.agg (S.row n f),n,true,fun f=>r7 S n f,fun f=>tD S n f,fun _ _=>rfl,(fun h=>by cases h)⟩
def stF{α:Type}(f:Nat→α)(i:Nat)(x:α):Nat→α:=fun k=>if k=i then x else f k
def ovF{α:Type}[Inhabited α](f:Nat→α)(o:Nat)(l:List α):Nat→α:=fun k=>if o≤k∧k<o+l.length then l.getD (k-o) default else f k
def upF{α:Type}(m:Nat)(g f:Nat→α):Nat→α:=fun k=>if k<m then g k else f k
section
variable{α:Type}{S:Scal α}{n i b off m:Nat}{f g:Nat→α}{w:World}{x:α}
theorem bi(m:Nat)(g f:Nat→α)(hx:x=g m):stF (upF m g f) m x=upF (m+1) g f:=by
 subst hx
 funext k
 unfold stF upF
 by_cases h:k=m
 ·subst h;rw[if_pos rfl,if_pos (by omega)]
 ·by_cases h2:k<m
  ·rw[if_neg h,if_pos h2,if_pos (by omega)]
  ·rw[if_neg h,if_neg h2,if_neg (by omega)]
theorem bw(g f:Nat→α):upF 0 g f=f:=by funext k;simp[upF]
theorem gP(g f:Nat→α):upF m g f m=f m:=by simp[upF]
theorem bz(g f:Nat→α)(h:i<m):upF m g f i=g i:=by simp[upF,h]
theorem yK(g f:Nat→α)(h:m≤i):upF m g f i=f i:=by unfold upF;rw[if_neg (by omega)]
theorem km(h:∀ i,i<n→f i=g i):S.row n f=S.row n g:=by
 unfold Scal.row
 congr 1
 funext i
 rw[h i.1 i.2]
theorem aP(h:∀ i,i<n→f i=g i):(S.vec n).enc f=(S.vec n).enc g:=km h
theorem lj(h:∀ i,i<n→f i=g i):(S.vec n).val f=(S.vec n).val g:=congrArg Value.agg (km h)
theorem ir(h:i<n):((S.vec n).enc f)[i]?=some (S.val (f i)):=iq S f h
theorem qi(f:Nat→α)(x:α)(hi:i<n):bJ ((S.vec n).enc f) (i*1) (S.cod.enc x).toList=(S.vec n).enc (stF f i x):=by
 apply Array.ext_getElem?
 intro k
 have hc:(S.cod.enc x).toList=[S.val x]:=by
  show ((S.val x).cells).toList=_
  rw[dr (S.one x)]
 rw[hc,cr,(S.vec n).size]
 show (if i*1≤k∧k<i*1+1∧k<n then _ else _)=_
 by_cases hk:k<n
 ·rw[ir hk,ir hk]
  by_cases h1:k=i
  ·subst h1
   rw[if_pos (by omega)]
   unfold stF
   rw[if_pos rfl,show k-k*1=0 by omega];rfl
  ·rw[if_neg (by omega)]
   unfold stF
   rw[if_neg h1]
 ·rw[if_neg (by omega),Array.getElem?_eq_none (by rw[Cod.size];show n≤k;omega),Array.getElem?_eq_none (by rw[Cod.size];show n≤k;omega)]
theorem Holds.eltV(h:Holds (S.vec n) w b off f)(hi:i<n):Holds S.cod w b (off+i*1) (f i):=fun j u hu=>by
 have hj:j<1:=by
  have:=(Array.getElem?_eq_some_iff.1 hu).1
  rwa [Cod.size]at this
 obtain rfl:j=0:=by omega
 have hu':(S.val (f i)).cells[0]?=some u:=hu
 rw[dr (S.one _)]at hu'
 obtain rfl:=Option.some.inj hu'
 have:=h i _ (ir hi)
 rw[Nat.mul_one,Nat.add_zero]
 exact this
theorem yL[Inhabited α](f:Nat→α)(o:Nat)(l:List α):bJ ((S.vec n).enc f) o (be S.cod l)=(S.vec n).enc (ovF f o l):=by
 apply Array.ext_getElem?
 intro k
 have hf:(be S.cod l).length=l.length:=by rw[bD];exact Nat.mul_one _
 rw[cr,(S.vec n).size,hf]
 show (if o≤k∧k<o+l.length∧k<n then _ else _)=_
 by_cases hk:k<n
 ·rw[ir hk,ir hk]
  by_cases h1:o≤k∧k<o+l.length
  ·rw[if_pos ⟨h1.1,h1.2,hk⟩]
   have hi:k-o<l.length:=by omega
   have h0:(S.cod.enc l[k-o])[0]?=some (S.val l[k-o]):=by
    show ((S.val l[k-o]).cells)[0]?=_
    rw[dr (S.one _)];rfl
   have:=dk (C:=S.cod) l (k-o) 0 l[k-o] _ (List.getElem?_eq_getElem hi) h0
   rw[show (k-o)*S.cod.sz+0=k-o from Nat.mul_one _]at this
   rw[this]
   unfold ovF
   rw[if_pos h1,List.getD_eq_getElem?_getD,List.getElem?_eq_getElem hi];rfl
  ·rw[if_neg (by omega)]
   unfold ovF
   rw[if_neg h1]
 ·rw[if_neg (by omega),Array.getElem?_eq_none (by rw[Cod.size];show n≤k;omega),Array.getElem?_eq_none (by rw[Cod.size];show n≤k;omega)]
end
section
variable{α β:Type}{A:Cod α}{B:Cod β}{x x':α}{y y':β}{off:Nat}{vs:List Value}
theorem cD(h:bJ (A.enc x) off vs=A.enc x')(hf:off+vs.length≤A.sz):bJ ((bn A B).enc (x,y)) off vs=(bn A B).enc (x',y):=by
 apply Array.ext_getElem?
 intro k
 rw[bC,bC,cr,Array.size_append,A.size,B.size]
 have h1:=congrArg (·[k]?) h
 simp only[cr,A.size]at h1
 by_cases hk:k<A.sz
 ·rw[Array.getElem?_append_left (by rw[A.size];exact hk),Array.getElem?_append_left (by rw[A.size];exact hk),← h1]
  by_cases h2:off≤k∧k<off+vs.length
  ·rw[if_pos ⟨h2.1,h2.2,by omega⟩,if_pos ⟨h2.1,h2.2,hk⟩]
  ·rw[if_neg (by omega),if_neg (by omega)]
 ·rw[if_neg (by omega),Array.getElem?_append_right (by rw[A.size];omega),Array.getElem?_append_right (by rw[A.size];omega),A.size,A.size]
theorem co{o:Nat}(h:bJ (B.enc y) off vs=B.enc y')(ho:o=A.sz+off):bJ ((bn A B).enc (x,y)) o vs=(bn A B).enc (x,y'):=by
 subst ho
 apply Array.ext_getElem?
 intro k
 rw[bC,bC,cr,Array.size_append,A.size,B.size]
 have h1:=congrArg (·[k-A.sz]?) h
 simp only[cr,B.size]at h1
 by_cases hk:k<A.sz
 ·rw[if_neg (by omega),Array.getElem?_append_left (by rw[A.size];exact hk),Array.getElem?_append_left (by rw[A.size];exact hk)]
 ·rw[Array.getElem?_append_right (by rw[A.size];omega),Array.getElem?_append_right (by rw[A.size];omega),A.size,← h1]
  by_cases h2:A.sz+off≤k∧k<A.sz+off+vs.length∧k<A.sz+B.sz
  ·rw[if_pos h2,if_pos (by omega)]
   congr 1;omega
  ·rw[if_neg h2,if_neg (by omega)]
theorem cE{a o:Nat}(h:bJ (B.enc y) off vs=B.enc y')(ho:o=a+off)(ha:A.sz=a:=by exact rfl):bJ ((bn A B).enc (x,y)) o vs=(bn A B).enc (x,y'):=co h (ha▸ho)
end
def sWd:Scal UInt32:=⟨fun x=>.int .u32 (x.toNat:Int),fun _=>rfl⟩
abbrev cWd:Cod UInt32:=sWd.cod
abbrev cWs(n:Nat):Cod (Nat→UInt32):=sWd.vec n
section
variable{P:Program}{a:Act}{o:Oper}{w:World}{x y:Operand}{t t2 ty:TypeId}{u v z:UInt32}
theorem yM(ho:o.op=.binOp .add t x y t2)(hx:a.eval x=.int .u32 (u.toNat:Int))(hy:a.eval y=.int .u32 (v.toNat:Int))(hz:bf u v=z):(execOp a.eval o).run P w=.ok (.value (.int .u32 (z.toNat:Int))) w :=
 f7 rfl ho hx hy (by subst hz;exact (UInt32.toNat_add u v).symm)
theorem yN(ho:o.op=.binOp .xor t x y t2)(hx:a.eval x=.int .u32 (u.toNat:Int))(hy:a.eval y=.int .u32 (v.toNat:Int))(hz:cH u v=z):(execOp a.eval o).run P w=.ok (.value (.int .u32 (z.toNat:Int))) w :=
 oU rfl ho hx hy u.toNat_lt v.toNat_lt (by subst hz;exact (UInt32.toNat_xor u v).symm)
theorem yO(ho:o.op=.binOp .and t x y t2)(hx:a.eval x=.int .u32 (u.toNat:Int))(hy:a.eval y=.int .u32 (v.toNat:Int))(hz:bK u v=z):(execOp a.eval o).run P w=.ok (.value (.int .u32 (z.toNat:Int))) w :=
 i8 rfl ho hx hy u.toNat_lt v.toNat_lt (by subst hz;exact (UInt32.toNat_and u v).symm)
theorem Be(ho:o.op=.binOp .or t x y t2)(hx:a.eval x=.int .u32 (u.toNat:Int))(hy:a.eval y=.int .u32 (v.toNat:Int))(hz:oW u v=z):(execOp a.eval o).run P w=.ok (.value (.int .u32 (z.toNat:Int))) w :=
 kf rfl ho hx hy u.toNat_lt v.toNat_lt (by subst hz;exact (UInt32.toNat_or u v).symm)
theorem yP{yk:IntKind}{n:Nat}(ho:o.op=.binOp .shl t x y t2)(hx:a.eval x=.int .u32 (u.toNat:Int))(hy:a.eval y=.int yk (n:Int))(hn:n≤32)(hz:rZ u n=z):(execOp a.eval o).run P w=.ok (.value (.int .u32 (z.toNat:Int))) w :=
 f9 rfl ho hx hy hn (by subst hz;exact (kj u n).symm)
theorem yQ{yk:IntKind}{n:Nat}(ho:o.op=.binOp .shr t x y t2)(hx:a.eval x=.int .u32 (u.toNat:Int))(hy:a.eval y=.int yk (n:Int))(hn:n≤32)(hz:fU u n=z):(execOp a.eval o).run P w=.ok (.value (.int .u32 (z.toNat:Int))) w :=
 du ho hx hy hn (by subst hz;exact (gO u n).symm)
theorem r8(u:UInt32):IntKind.u32.max.toNat^^^u.toNat=(ey u).toNat:=by
 show 4294967295^^^u.toNat=(~~~u).toNat
 rw[UInt32.toNat_not]
 have h:u.toNat<2^32:=u.toNat_lt
 have e:(4294967295:Nat)=2^32-1:=rfl
 apply Nat.eq_of_testBit_eq
 intro i
 rw[show UInt32.size-1-u.toNat=2^32-(u.toNat+1) by show 4294967296-1-u.toNat=4294967296-(u.toNat+1);omega]
 rw[Nat.testBit_xor,e,Nat.testBit_two_pow_sub_one,Nat.testBit_two_pow_sub_succ h]
 by_cases hi:i<32
 ·simp[hi]
 ·have:=Nat.testBit_lt_two_pow (Nat.lt_of_lt_of_le h (Nat.pow_le_pow_right (by decide) (show 32≤i by omega)))
  simp[hi,this]
theorem yR(ho:o.op=.unOp .xor t x)(hx:a.eval x=.int .u32 (u.toNat:Int))(hz:ey u=z):(execOp a.eval o).run P w=.ok (.value (.int .u32 (z.toNat:Int))) w:=by
 subst hz
 have e:IntKind.u32.wrap ((BitVec.ofInt 32 (4294967295:Int)^^^BitVec.ofInt 32 (u.toNat:Int)).toNat:Int)=((ey u).toNat:Int):=by
  rw[BitVec.toNat_xor,show (4294967295:Int)=((4294967295:Nat):Int) from rfl,cT _ _ (by decide),cT _ _ u.toNat_lt,fO rfl]
  congr 1
  have:=r8 u
  rw[show 4294967295^^^u.toNat=(ey u).toNat from this]
  exact Nat.mod_eq_of_lt (ey u).toNat_lt
 unfold execOp
 simp only[ho,hx,Sem.run_bind,Sem.run_pure]
 show ((Op.unary .xor (.int .u32 (u.toNat:Int))).run P w).andThen _=_
 have h:(Op.unary .xor (.int .u32 (u.toNat:Int))).run P w=.ok (.int .u32 ((ey u).toNat:Int)) w:=by
  show ((pure (.int .u32 (IntKind.u32.wrap ((BitVec.ofInt 32 (4294967295:Int)^^^BitVec.ofInt 32 (u.toNat:Int)).toNat:Int))):Sem Value)).run P w=_
  rw[e];rfl
 rw[h];rfl
theorem oZ{k:IntKind}{m z:Int}(ho:o.op=.unOp .neg t x)(hx:a.eval x=.int k m)(hz:k.wrap (0-m)=z):(execOp a.eval o).run P w=.ok (.value (.int k z)) w:=by
 subst hz
 unfold execOp
 simp only[ho,hx,Sem.run_bind,Sem.run_pure]
 have h:(Op.unary .neg (.int k m)).run P w=.ok (.int k (k.wrap (0-m))) w:=rfl
 rw[h];rfl
theorem vS{src dst:TypeId}{k:IntKind}{m:Nat}(ho:o.op=.convert src dst x)(hsrc:(P.underlying src).isSome=true)(hd:P.underlying dst=some (.int .u32))(hx:a.eval x=.int k (m:Int))(hz:UInt32.ofNat m=z):(execOp a.eval o).run P w=.ok (.value (.int .u32 (z.toNat:Int))) w :=
 im rfl ho hsrc hd hx (by subst hz;exact UInt32.toNat_ofNat'.symm)
end
section
variable{P:Program}{a:Act}{o:Oper}{w:World}{x y:Operand}{t ty e:TypeId}{n i:Nat}
theorem e8{α:Type}{S:Scal α}{f:Nat→α}{k:IntKind}{j:Int}(ho:o.op=.index ty x y)(hu:P.underlying ty=some (.array n e))(hs:tyOk P e S.cod=true)(hx:a.eval x=(S.vec n).val f)(hy:a.eval y=.int k j)(hj:j=(i:Int))(hi:i<n):
  (execOp a.eval o).run P w=.ok (.value (S.val (f i))) w:=by
 subst hj
 obtain ⟨h1,h2⟩:=tyOk.spec hs
 have he:=fZ hu
 have hn:=ii hu
 obtain ⟨d,hd,hdr⟩:=Option.map_eq_some_iff.1 h1
 obtain ⟨q,hq,hqs⟩:=Option.map_eq_some_iff.1 h2
 have hr:(S.row n f)[i]?=some (S.val (f i)):=iq S f hi
 have hdr':d.isRow=false:=hdr
 have hqs':q.size=1:=hqs
 have hp:(part e (S.row n f) (i*1)).run P w=.ok (S.val (f i)) w:=by
  rw[Nat.mul_one]
  simp[part,isAgg,run_underlying hd,hr]
  cases d<;>first | rfl | cases hdr'
 have hv:(S.vec n).val f=.agg (S.row n f):=rfl
 rw[hv]at hx
 unfold execOp
 simp only[ho,hx,hy,Sem.run_bind,Sem.run_pure]
 have hr2:(Instr.index ty (.agg (S.row n f)) (.int k (i:Int))).run P w=.ok (S.val (f i)) w:=by
  simp[Instr.index,asIntOf,run_underlying hu,sizeOf,typeInfo,hq,hqs',hi]
  simpa using hp
 rw[hr2];rfl
theorem dh{b off m l sz:Nat}{kl:IntKind}{jl:Int}{xl:Operand}(ho:o.op=.slice ty x (some xl) none none)(hu:P.underlying ty=some (.array m e))(hs:(P.info? e).map (·.size)=some sz)(hx:a.eval x=.pointer (some ⟨b,off,none⟩))(hl:a.eval xl=.int kl jl)(hjl:jl=(l:Int))(h1:l<m):
  (execOp a.eval o).run P w=.ok (.value (.slice (some ⟨b,off+l*sz,none⟩) (m-l) (m-l))) w:=by
 subst hjl
 have he:=fZ hu
 have hn:=ii hu
 have hu':P.underlying ty=some (.array (P.arrayLen ty) (P.elem ty)):=by rw[he,hn];exact hu
 have hadd:(⟨b,off,none⟩:Addr).add (l*sz)=⟨b,off+l*sz,none⟩:=Addr.add_mid ..
 unfold execOp
 simp only[ho,Option.map_some,Option.map_none,hx,hl,Sem.run_bind,Sem.run_pure,run_sliceAt_array_l w ty ⟨b,off,none⟩ hu' kl (l:Int) (by omega) (by rw[hn];omega),he,hn,dE hs,Result.andThen_ok,slicedAt,Int.toNat_natCast,hadd]
 rw[if_neg (by omega)]
end
theorem ko{n:Nat}(h0:0<n)(h:n≤9223372036854775808):IntKind.u64.wrap (-(n:Int))=((18446744073709551616-n:Nat):Int):=by
 have e:-(n:Int)=((18446744073709551616-n:Nat):Int)-18446744073709551616:=by omega
 have h2:=fO (k:=.u64) rfl (18446744073709551616-n)
 rw[Nat.mod_eq_of_lt (by show 18446744073709551616-n<18446744073709551616;omega)]at h2
 rw[← h2,e]
 unfold IntKind.wrap
 show (((18446744073709551616-n:Nat):Int)-18446744073709551616)%18446744073709551616=(((18446744073709551616-n:Nat)):Int)%18446744073709551616
 rw[Int.sub_emod_right]
theorem vT(x:UInt32)(n:Nat):oW (rZ x (32-n)) (fU x n)=cI x n:=by
 unfold cI oW
 exact UInt32.or_comm _ _
def sBy:Scal UInt8:=⟨by8,fun _=>rfl⟩
theorem yS{n:Nat}(f:Nat→UInt8)(o:Nat)(l:List UInt8):bJ ((ac n).enc f) o (be af l)=(ac n).enc (ovF f o l):=yL (S:=sBy) (n:=n) f o l
theorem aQ{n i:Nat}(f:Nat→UInt8)(b:UInt8)(hi:i<n):bJ ((ac n).enc f) (0+i*1) (af.enc b).toList=(ac n).enc (stF f i b):=by
 rw[Nat.zero_add];exact qi (S:=sBy) (n:=n) f b hi
theorem bE{α:Type}{S:Scal α}{n i:Nat}(f:Nat→α)(x:α)(hi:i<n):bJ ((S.vec n).enc f) (0+i*1) (S.cod.enc x).toList=(S.vec n).enc (stF f i x):=by
 rw[Nat.zero_add];exact qi f x hi
theorem aB{n:Nat}{f g:Nat→UInt8}(h:∀ i,i<n→f i=g i):(ac n).enc f=(ac n).enc g:=rW h
theorem aU{α β:Type}{S:Scal α}{n i:Nat}{C:Cod β}{x:β}(hn:C.sz=n)(hi:i<n):0+i*1+S.cod.sz≤(C.enc x).size:=by
 rw[C.size,hn];show 0+i*1+1≤n;omega
theorem qj{n i:Nat}(f:Nat→UInt8)(x:UInt8):(lst n f).set i x=lst n (stF f i x):=by
 apply List.ext_getElem?
 intro k
 rw[List.getElem?_set]
 by_cases hk:k<n
 ·rw[bB hk,bB hk,ap]
  unfold stF
  by_cases h:i=k
  ·subst h;rw[if_pos rfl,if_pos hk,if_pos rfl]
  ·rw[if_neg h,if_neg (fun e=>h e.symm)]
 ·rw[List.getElem?_eq_none (by rw[ap];omega),List.getElem?_eq_none (by rw[ap];omega),ap]
  split
  ·rename_i h;subst h;rw[if_neg hk]
  ·rfl
theorem gp{n:Nat}{f g:Nat→UInt8}(h:∀ i,i<n→f i=g i):lst n f=lst n g:=List.map_congr_left fun i hi=>h i (List.mem_range.1 hi)
theorem Off.cut{α:Type}{C:Cod α}{w:World}{A:Option Addr}{n c k:Nat}{l:List α}{R:List Nat}(h:Off A n R)(hV:Vu C w A n c l)(m:Nat)(hm:0<m→0<n):Off (et A c k C.sz) m R:=fun b off hA hp=>by
 obtain ⟨pb,po,rfl,_⟩:=hV.at' (hm hp)
 have key:pb ∉ R:=h pb po rfl (hm hp)
 unfold et at hA
 split at hA
 ·injection hA with e;injection e with e1;subst e1;exact key
 ·rw[Option.map_some,Addr.add_mid]at hA
  injection hA with e;injection e with e1;subst e1;exact key
def pn32(b:Nat→UInt8)(j:Nat):Nat→Nat
 | 0=>0
 | k+1=>pn32 b j k*256+(b (4*j+k)).toNat
theorem vU(b:Nat→UInt8)(j k:Nat):pn32 b j k<256^k:=by
 induction k with
 | zero=>simp[pn32]
 | succ k ih =>
  have h:=(b (4*j+k)).toNat_lt
  show pn32 b j k*256+(b (4*j+k)).toNat<256^(k+1)
  rw[Nat.pow_succ]
  omega
def jJ(m j:Nat):Nat:=min 4 (m-4*j)
def bM(b:Nat→UInt8)(m:Nat):Nat→UInt32:=fun j=>UInt32.ofNat (pn32 b j (jJ m j))
theorem qk(P x:Nat)(hx:x<2^8):P*2^8|||x=P*256+x:=by
 have h6:=Nat.shiftLeft_add_eq_or_of_lt (a:=P) hx
 rw[Nat.shiftLeft_eq]at h6
 exact h6.symm
set_option maxRecDepth 100000 in
theorem r9(b:Nat→UInt8)(m i:Nat)(hi:i=m/4):oW (rZ (bM b m i) 8) (UInt32.ofNat (b m).toNat)=bM b (m+1) i:=by
 have h1:jJ m i=m%4:=by unfold jJ;omega
 have h2:jJ (m+1) i=m%4+1:=by unfold jJ;omega
 have h3:=vU b i (m%4)
 have h4:256^(m%4)≤256^3:=Nat.pow_le_pow_right (by omega) (by omega)
 have h5:=(b m).toNat_lt
 apply UInt32.toNat_inj.1
 unfold oW
 rw[UInt32.toNat_or,kj]
 unfold bM
 rw[h1,h2]
 show _=(UInt32.ofNat (pn32 b i (m%4)*256+(b (4*i+m%4)).toNat)).toNat
 rw[show 4*i+m%4=m by omega]
 simp only[UInt32.toNat_ofNat']
 generalize pn32 b i (m%4)=P at *
 have hP:P<16777216:=Nat.lt_of_lt_of_le h3 h4
 rw[show P%2^32*2^8%4294967296=P*2^8 by omega,Nat.mod_eq_of_lt (show (b m).toNat<2^32 by omega),qk _ _ h5,Nat.mod_eq_of_lt (show P*256+(b m).toNat<2^32 by omega)]
theorem tF(b:Nat→UInt8)(m i:Nat)(x:UInt32)(hi:i=m/4)(hx:x=bM b (m+1) i):stF (bM b m) i x=bM b (m+1):=by
 subst hx
 funext j
 unfold stF
 by_cases h:j=i
 ·rw[if_pos h,h]
 ·rw[if_neg h]
  unfold bM
  rw[show jJ m j=jJ (m+1) j by unfold jJ;omega]
theorem sa(b:Nat→UInt8):bM b 0=fun _=>0:=by
 funext j
 unfold bM
 rw[show jJ 0 j=0 by unfold jJ;omega]
 rfl
set_option maxRecDepth 100000 in
theorem tG(b:Nat→UInt8)(j:Nat)(hj:j<16):bM b 64 j=W32 b j:=by
 rw[jS _ _ hj]
 unfold bM lO
 rw[show jJ 64 j=4 by unfold jJ;omega]
 congr 1
 show ((((0)*256+(b (4*j+0)).toNat)*256+(b (4*j+1)).toNat)*256+(b (4*j+2)).toNat)*256+(b (4*j+3)).toNat=_
 rw[show 4*j+0=4*j from rfl]
 omega
theorem tH(b:Nat→UInt8):upF 16 (W32 b) (bM b 64)=bM b 64:=by
 funext j
 unfold upF
 by_cases h:j<16
 ·rw[if_pos h,tG b j h]
 ·rw[if_neg h]
theorem ql{f:Nat→UInt32}{b:Nat→UInt8}{t:Nat}(h:16≤t):bf (bf (bf (cC (upF t (W32 b) f (t-2))) (upF t (W32 b) f (t-7))) (cZ (upF t (W32 b) f (t-15)))) (upF t (W32 b) f (t-16))=W32 b t:=by
 rw[bz _ _ (by omega),bz _ _ (by omega),bz _ _ (by omega),bz _ _ (by omega),← oX b t h]
def el(L n m:Nat):Nat→UInt8:=fun j=>if L-m≤j then UInt8.ofNat (8*n/256^(L-1-j)) else if j=0 then 128 else 0
theorem sd(L n m:Nat)(h:m<L):(fun j=>if j=L-1-m then UInt8.ofNat (8*n/256^m) else el L n m j)=fun j=>if j<L then el L n (m+1) j else el L n m j:=by
 funext j
 unfold el
 by_cases e:j=L-1-m
 ·rw[if_pos e,if_pos (by omega),if_pos (by omega),show L-1-j=m by omega]
 ·rw[if_neg e]
  by_cases hj:j<L
  ·rw[if_pos hj]
   by_cases h2:L-m≤j
   ·rw[if_pos h2,if_pos (by omega)]
   ·rw[if_neg h2,if_neg (by omega:¬ L-(m+1)≤j)]
  ·rw[if_neg hj]
theorem tI(n:Nat)(f:Nat→UInt8)(j:Nat):el (64*bY n-n) n 8 j=ga n f (n+j):=by
 have h:64*bY n=n+8-(n+8)%64+64:=by unfold bY;omega
 have h2:=Nat.mod_lt (n+8) (show 0<64 by omega)
 unfold el ga
 rw[if_neg (by omega:¬ n+j<n)]
 by_cases h0:j=0
 ·rw[if_neg (by omega),if_pos h0,if_pos (by omega)]
 ·rw[if_neg (by omega:¬ n+j=n)]
  by_cases h8:64*bY n-n-8≤j
  ·rw[if_pos h8,if_neg (by omega),show 64*bY n-n-1-j=64*bY n-1-(n+j) by omega]
  ·rw[if_neg h8,if_neg h0,if_pos (by omega)]
theorem se(L n m:Nat)(h:m<L)(x:UInt8)(hx:x=UInt8.ofNat (8*n/256^m)):∀ i,i<L→stF (el L n m) (L-1-m) x i=el L n (m+1) i:=by
 subst hx
 intro i hi
 have:=congrFun (sd L n m h) i
 simp only[hi,if_true]at this
 exact this
theorem tJ(s:Nat→UInt32)(m:Nat):UInt8.ofNat (fU (s (m/4)) (24-m%4*8)).toNat=bX s m:=by rw[gO];rfl
def HaS(s:Nat→UInt32)(r:Nat→UInt8)(k:Nat)(F:Nat→UInt8):Prop:=(∀ i,i<8→s i=aO F (k/64) i) ∧ ∀ j,j<k%64→r j=F (64*(k/64)+j)
section
variable{s:Nat→UInt32}{r F F':Nat→UInt8}{k kk:Nat}{m:List UInt8}
theorem HaS.congr(h:HaS s r k F)(hF:∀ j,j<k→F j=F' j):HaS s r k F' :=
 ⟨fun i hi=>(h.1 i hi).trans (oY (k/64) (fun j hj=>hF j (by omega)) i hi),fun j hj=>(h.2 j hj).trans (hF _ (by omega))⟩
theorem x5(h:HaS s r k F)(hF:∀ j x,m[j]?=some x→F (k+j)=x)(hm:kk≤m.length):∀ j,j<k%64+kk→ovF r (k%64*1) (m.take kk) j=F (64*(k/64)+j):=fun j hj=>by
 have hl:(m.take kk).length=kk:=by rw[List.length_take];omega
 unfold ovF
 rw[hl,Nat.mul_one]
 by_cases hlt:j<k%64
 ·rw[if_neg (by omega),h.2 j hlt]
 ·rw[if_pos (by omega)]
  have hi:j-k%64<m.length:=by omega
  have e:=hF (j-k%64) m[j-k%64] (List.getElem?_eq_getElem hi)
  rw[show k+(j-k%64)=64*(k/64)+j by omega]at e
  rw[e,List.getD_eq_getElem?_getD,List.getElem?_take,if_pos (by omega),List.getElem?_eq_getElem hi]
  rfl
theorem HaS.part(h:HaS s r k F)(hF:∀ j x,m[j]?=some x→F (k+j)=x)(hm:kk≤m.length)(hk:k%64+kk<64):HaS s (ovF r (k%64*1) (m.take kk)) (k+kk) F:=by
 have e:(k+kk)/64=k/64:=by omega
 unfold HaS
 rw[e]
 exact ⟨h.1,fun j hj=>x5 h hF hm j (by omega)⟩
theorem HaS.full(h:HaS s r k F)(hF:∀ j x,m[j]?=some x→F (k+j)=x)(hm:kk≤m.length)(hk:k%64+kk=64):HaS (bq (ovF r (k%64*1) (m.take kk)) s) (ovF r (k%64*1) (m.take kk)) (k+kk) F:=by
 have e:(k+kk)/64=k/64+1:=by omega
 unfold HaS
 rw[e]
 exact ⟨ip (fun j hj=>x5 h hF hm j (by omega)) h.1,fun j hj=>by omega⟩
end
def pdL(n:Nat):List UInt8:=lst (64*bY n-n) (el (64*bY n-n) n 8)
theorem mC(n:Nat):(pdL n).length=64*bY n-n:=ap _ _
theorem jT(n:Nat):n+8<64*bY n∧64*bY n≤n+72:=by unfold bY;omega
theorem yT{n:Nat}(f:Nat→UInt8):∀ j x,(pdL n)[j]?=some x→ga n f (n+j)=x:=fun j x hx=>by
 have hj:j<64*bY n-n:=by
  have:=(List.getElem?_eq_some_iff.1 hx).1
  rwa [mC]at this
 unfold pdL at hx
 rw[bB hj,tI n f j]at hx
 exact Option.some.inj hx
theorem sf(n:Nat)(f:Nat→UInt8)(j:Nat)(h:j<n):f j=ga n f j:=by unfold ga;rw[if_pos h]
theorem nO{L n:Nat}(_h:0<L):(List.replicate L (0:UInt8)).set 0 128=lst L (el L n 0):=by
 have e:List.replicate L (0:UInt8)=lst L (fun _=>0):=by
  apply List.ext_getElem?
  intro i
  by_cases h:i<L
  ·rw[bB h,List.getElem?_replicate,if_pos h]
  ·rw[List.getElem?_eq_none (by rw[List.length_replicate];omega),List.getElem?_eq_none (by rw[ap];omega)]
 rw[e,qj]
 refine gp fun i hi => ?_
 unfold stF el
 rw[if_neg (show ¬ L-0≤i by omega)]
theorem qm{L n m:Nat}(h:m<L):(lst L (el L n m)).set (L-1-m) (UInt8.ofNat (n*8/2^(8*m)))=lst L (el L n (m+1)):=by
 rw[qj]
 refine gp (se L n m h _ ?_)
 rw[Nat.mul_comm n 8,show (256:Nat)^m=2^(8*m) by rw[Nat.pow_mul]]
def sha(l:List UInt8):Nat→UInt8:=tC l.length fun j=>l.getD j 0
theorem yU{s:Nat→UInt32}{r f:Nat→UInt8}{n:Nat}(h:HaS s r (64*bY n) (ga n f)):∀ i,i<32→bX s i=tC n f i :=
 nN fun i hi=>by
  have:=h.1 i hi
  rwa [Nat.mul_div_cancel_left _ (by omega:0<64)]at this
theorem Bf{w:World}{g g':Nat}{cs cs':Array Value}{t t':TypeId}{z z':Nat×Nat}(h:w.heap[g]?=some (.cells cs t z))(h':w.heap[g']?=some (.cells cs' t' z'))(ht:(t == t')=false):g ∉ [g']:=fun hm=>by
 obtain rfl:=List.mem_singleton.1 hm
 rw[h]at h'
 injection h' with e
 injection e with _ e2
 subst e2
 simp at ht
theorem vV{n:Nat}{f g:Nat→UInt8}(h:∀ i,i<n→f i=g i):Ending.returned (Value.agg ((ac n).enc f))=Ending.returned ((ac n).val g):=by rw[aB h];rfl
abbrev cHa:Cod ((Nat→UInt32)×(Nat→UInt8)×Nat):=bn (cWs 8) (bn (ac 64) (eX .u64))
def aG(F:Nat→UInt8)(i:Nat):Nat→UInt8:=fun j=>F (64*i+j)
def mzL(l:List UInt8)(z:Nat):List UInt8:=l++(128::List.replicate z 0)
theorem qn(l:List UInt8)(z:Nat):(mzL l z).length=l.length+1+z:=by simp[mzL];omega
theorem kp(l:List UInt8)(z:Nat):mzL l z++[0]=mzL l (z+1):=by
 unfold mzL
 rw[List.append_assoc,List.cons_append,List.replicate_succ']
def be8(n k:Nat):List UInt8:=lst k fun i=>UInt8.ofNat (n/2^(8*(7-i)))
theorem qo(n k:Nat):(be8 n k).length=k:=ap _ _
theorem iu(n:Nat)(f:Nat→UInt8):lst (n+1) f=lst n f++[f n]:=by simp[lst,List.range_succ]
def pdM(l:List UInt8):List UInt8:=lst (64*bY l.length) (ga l.length fun j=>l.getD j 0)
theorem qp(l:List UInt8):(pdM l).length=64*bY l.length:=ap _ _
theorem vW{l:List UInt8}{z:Nat}(h:l.length+1+z+8=64*bY l.length):mzL l z++be8 (l.length*8) 8=pdM l:=by
 apply List.ext_getElem?
 intro k
 have h1:=qn l z
 have h2:=qo (l.length*8) 8
 by_cases hk:k<64*bY l.length
 ·unfold pdM
  rw[bB hk]
  unfold ga
  by_cases a1:k<l.length
  ·rw[if_pos a1,List.getElem?_append_left (by omega)]
   unfold mzL
   show (l++_)[k]?=some (l.getD k 0)
   rw[List.getElem?_append_left a1,List.getD_eq_getElem?_getD,List.getElem?_eq_getElem a1];rfl
  ·rw[if_neg a1]
   by_cases a2:k<l.length+1+z
   ·rw[List.getElem?_append_left (by omega)]
    unfold mzL
    rw[List.getElem?_append_right (by omega)]
    by_cases a3:k=l.length
    ·rw[if_pos a3,a3,Nat.sub_self];rfl
    ·rw[if_neg a3,if_pos (by omega),show k-l.length=(k-l.length-1)+1 by omega,List.getElem?_cons_succ,List.getElem?_replicate,if_pos (by omega)]
   ·rw[if_neg (by omega),if_neg (by omega),List.getElem?_append_right (by omega),h1]
    unfold be8
    rw[bB (by omega)]
    congr 2
    rw[Nat.mul_comm 8 l.length,show (256:Nat)=2^8 from rfl,← Nat.pow_mul]
    congr 2
    omega
 ·rw[List.getElem?_eq_none (by rw[List.length_append];omega),List.getElem?_eq_none (by rw[qp];omega)]
theorem mD{P Q k:Nat}(h:Q<2^k):P*2^k|||Q=P*2^k+Q:=by
 have h6:=Nat.shiftLeft_add_eq_or_of_lt (a:=P) h
 rw[Nat.shiftLeft_eq]at h6
 exact h6.symm
theorem yV{m:Nat}(h:m<4294967296):Value.int .u32 (m:Int)=sWd.val (UInt32.ofNat m):=by
 show _=Value.int .u32 ((UInt32.ofNat m).toNat:Int)
 rw[UInt32.toNat_ofNat',Nat.mod_eq_of_lt h]
theorem yW{b:Nat→UInt8}{q:Nat}(h:q<16):UInt32.ofNat ((b (4*q)).toNat*16777216+(b (4*q+1)).toNat*65536+(b (4*q+2)).toNat*256+(b (4*q+3)).toNat)=W32 b q:=by
 rw[jS _ _ h];rfl
theorem sg(s:Nat→UInt32)(m:Nat):UInt8.ofNat (fU (s (m/4)) (24-8*(m%4))).toNat=bX s m:=by
 rw[gO]
 unfold bX
 rw[Nat.mul_comm 8]
section
variable{P:Program}{o:Oper}{n:Sz}{l:aS}{x y:Operand}{t t2 ty src:TypeId}{u v z:UInt32}{k:IntKind}
theorem Vl.aw(z:UInt32)(ho:o.op=.binOp .add t x y t2:=by exact rfl)(hx:vo l x=some (.int .u32 (u.toNat:Int)):=by exact rfl)(hy:vo l y=some (.int .u32 (v.toNat:Int)):=by exact rfl)(hz:bf u v=z:=by exact rfl):Vl P n l o (.int .u32 (z.toNat:Int)):=fun _ _ hF=>yM ho (hF.vo hx) (hF.vo hy) hz
theorem Vl.xw(z:UInt32)(ho:o.op=.binOp .xor t x y t2:=by exact rfl)(hx:vo l x=some (.int .u32 (u.toNat:Int)):=by exact rfl)(hy:vo l y=some (.int .u32 (v.toNat:Int)):=by exact rfl)(hz:cH u v=z:=by exact rfl):Vl P n l o (.int .u32 (z.toNat:Int)):=fun _ _ hF=>yN ho (hF.vo hx) (hF.vo hy) hz
theorem Vl.ow(z:UInt32)(ho:o.op=.binOp .or t x y t2:=by exact rfl)(hx:vo l x=some (.int .u32 (u.toNat:Int)):=by exact rfl)(hy:vo l y=some (.int .u32 (v.toNat:Int)):=by exact rfl)(hz:oW u v=z:=by exact rfl):Vl P n l o (.int .u32 (z.toNat:Int)):=fun _ _ hF=>Be ho (hF.vo hx) (hF.vo hy) hz
theorem Vl.nw(z:UInt32)(ho:o.op=.binOp .and t x y t2:=by exact rfl)(hx:vo l x=some (.int .u32 (u.toNat:Int)):=by exact rfl)(hy:vo l y=some (.int .u32 (v.toNat:Int)):=by exact rfl)(hz:bK u v=z:=by exact rfl):Vl P n l o (.int .u32 (z.toNat:Int)):=fun _ _ hF=>yO ho (hF.vo hx) (hF.vo hy) hz
theorem Vl.cw(ho:o.op=.unOp .xor t x:=by exact rfl)(hx:vo l x=some (.int .u32 (u.toNat:Int)):=by exact rfl):Vl P n l o (.int .u32 ((ey u).toNat:Int)):=fun _ _ hF=>yR ho (hF.vo hx) rfl
theorem Vl.lw(q:Nat)(ho:o.op=.binOp .shl t x y t2:=by exact rfl)(hx:vo l x=some (.int .u32 (u.toNat:Int)):=by exact rfl)(hy:vo l y=some (.int k (q:Int)):=by exact rfl)(hq:q≤32:=by omega):Vl P n l o (.int .u32 ((rZ u q).toNat:Int)):=fun _ _ hF=>yP ho (hF.vo hx) (hF.vo hy) hq rfl
theorem Vl.rw(q:Nat)(ho:o.op=.binOp .shr t x y t2:=by exact rfl)(hx:vo l x=some (.int .u32 (u.toNat:Int)):=by exact rfl)(hy:vo l y=some (.int k (q:Int)):=by exact rfl)(hq:q≤32:=by omega):Vl P n l o (.int .u32 ((fU u q).toNat:Int)):=fun _ _ hF=>yQ ho (hF.vo hx) (hF.vo hy) hq rfl
end
section
open Go.ChangeShapes Go.WideShapes Go.ChangeAt
theorem mixedOrders:Tryz.prog.follows .mixedOrders=true:=by kernel_rfl
theorem undB:Tryz.prog.underlying 27=some (.slice 5):=by kernel_rfl
theorem own:ownKnob Tryz.prog.godebug=none:=by kernel_rfl
theorem fF:laidOutB Tryz.prog=true:=by kernel_rfl
theorem vX:Tryz.prog.underlying 4=some .bool:=by kernel_rfl
end
end Go.Proofs.YtajppfmjbkebfaaGreatDoor
