import Derived.Test.YtajppfmjbkebfaaGreatDoorKPkeskTurnedCG
import Derived.Test.YtajppfmjbkebfaaGreatDoorCards
import Derived.Test.YtajppfmjbkebfaaGreatDoorTie
import Derived.ProofKit
import Derived.ChangeSlices
import Derived.ChangeKeysEq
import Derived.Carry
import Derived.OpenShut
import Derived.Deep.DeepHandedRow
import Derived.Lib.LaidTab
import Derived.Shelf.Vars
import Derived.ChangeSame
import Derived.LaidSub
set_option maxHeartbeats 8000000
namespace Go.Proofs.YtajppfmjbkebfaaGreatDoor.pkeskTurned
open Go Go.ChangeShapes Go.WideShapes Go.ChangeAt Go.RowKit
set_option maxRecDepth 100000
theorem rT:Tryz.prog.readableRec 22=true:=by kernel_rfl
theorem vE:22<Tryz.prog.types.size:=of_decide_eq_true (by kernel_rfl)
theorem rU:Tryz.prog.readableRec 24=true:=by kernel_rfl
theorem vF:24<Tryz.prog.types.size:=of_decide_eq_true (by kernel_rfl)
theorem xT:Tryz.prog.readableRec 43=true:=by kernel_rfl
theorem AM:43<Tryz.prog.types.size:=of_decide_eq_true (by kernel_rfl)
theorem rV:Tryz.prog.readableRec 5=true:=by kernel_rfl
theorem vG:5<Tryz.prog.types.size:=of_decide_eq_true (by kernel_rfl)
def Cm:List Int:=CH.map fun x=>(x.toNat:Int)
theorem gS5:Tryz.prog.globalNamed "postilion/sha2.start512" = some 1:=by kernel_rfl
theorem Dj:(Tryz.prog.globals[1]?).map (·.type)=some 141:=by kernel_rfl
theorem Cn:Tryz.prog.underlying 141=some (.array 8 72):=by kernel_rfl
theorem AN:Tryz.prog.underlying 72=some (.int .u64):=by kernel_rfl
theorem Co:Tryz.prog.cellsOf 72=1:=by kernel_rfl
theorem AO:Tryz.prog.cellsOf 141=8:=by kernel_rfl
theorem Dk:(Cm.map fun z=>Value.int .u64 z).toArray=(cQs 8).enc H64:=by kernel_rfl
theorem Dl:1<Tryz.prog.globals.size:=of_decide_eq_true (by kernel_rfl)
theorem Dm:(((begin Tryz.prog (fun _ _=>0) default).world.heap[1]?).bind Obj.row?)=some ((cQs 8).enc (fun _=>0),141):=by kernel_rfl
set_option maxRecDepth 100000 in
theorem Cp{W:World}(h:laidMetH Tryz.prog [("postilion/sha2.start512",Rows.laid_postilion_sha2_start512)] W)(hsh:W.ShapedOpen Tryz.prog):W.heap[1]?=some (.cells ((cQs 8).enc H64) 141 (0,0)):=by
 have ht:Lib.TabIs Tryz.prog W "postilion/sha2.start512" .u64 Cm:=Lib.tabIs_of_head (rest:=[]) gS5 Dj Cn AN Co AO h
 obtain ⟨cs,hc,_,_⟩:=hsh.1 1 _ _ Dl Dm
 unfold Lib.TabIs World.var? at ht
 simp only[gS5,Option.bind_some,hc]at ht
 rw[hc,← Dk,Option.some.inj ht]
def Cq:List Int:=CG.map fun x=>(x.toNat:Int)
theorem gK5:Tryz.prog.globalNamed "postilion/sha2.rounds512" = some 4:=by kernel_rfl
theorem Dn:(Tryz.prog.globals[4]?).map (·.type)=some 159:=by kernel_rfl
theorem Cr:Tryz.prog.underlying 159=some (.array 80 72):=by kernel_rfl
theorem AP:Tryz.prog.underlying 72=some (.int .u64):=by kernel_rfl
theorem Cs:Tryz.prog.cellsOf 72=1:=by kernel_rfl
theorem AQ:Tryz.prog.cellsOf 159=80:=by kernel_rfl
theorem Do:(Cq.map fun z=>Value.int .u64 z).toArray=(cQs 80).enc K64:=by kernel_rfl
theorem Dp:4<Tryz.prog.globals.size:=of_decide_eq_true (by kernel_rfl)
theorem Dq:(((begin Tryz.prog (fun _ _=>0) default).world.heap[4]?).bind Obj.row?)=some ((cQs 80).enc (fun _=>0),159):=by kernel_rfl
set_option maxRecDepth 100000 in
theorem Cu{W:World}(h:laidMetH Tryz.prog [("postilion/sha2.rounds512",Rows.laid_postilion_sha2_rounds512)] W)(hsh:W.ShapedOpen Tryz.prog):W.heap[4]?=some (.cells ((cQs 80).enc K64) 159 (0,0)):=by
 have ht:Lib.TabIs Tryz.prog W "postilion/sha2.rounds512" .u64 Cq:=Lib.tabIs_of_head (rest:=[]) gK5 Dn Cr AP Cs AQ h
 obtain ⟨cs,hc,_,_⟩:=hsh.1 4 _ _ Dp Dq
 unfold Lib.TabIs World.var? at ht
 simp only[gK5,Option.bind_some,hc]at ht
 rw[hc,← Do,Option.some.inj ht]
def zsS:List Int:=[1779033703,3144134277,1013904242,2773480762,1359893119,2600822924,528734635,1541459225]
theorem gS:Tryz.prog.globalNamed "postilion/sha2.start256" = some 2:=by kernel_rfl
theorem gTS:(Tryz.prog.globals[2]?).map (·.type)=some 118:=by kernel_rfl
theorem Dr:Tryz.prog.underlying 118=some (.array 8 25):=by kernel_rfl
theorem Cv:Tryz.prog.underlying 25=some (.int .u32):=by kernel_rfl
theorem Ds:Tryz.prog.cellsOf 25=1:=by kernel_rfl
theorem Cw:Tryz.prog.cellsOf 118=8:=by kernel_rfl
theorem zrS:(zsS.map fun z=>Value.int .u32 z).toArray=(cWs 8).enc H32:=by kernel_rfl
theorem ltS:2<Tryz.prog.globals.size:=of_decide_eq_true (by kernel_rfl)
theorem stS:(((begin Tryz.prog (fun _ _=>0) default).world.heap[2]?).bind Obj.row?)=some ((cWs 8).enc (fun _=>0),118):=by kernel_rfl
set_option maxRecDepth 100000 in
theorem Dt{W:World}(h:laidMetH Tryz.prog [("postilion/sha2.start256",Rows.laid_postilion_sha2_start256)] W)(hsh:W.ShapedOpen Tryz.prog):W.heap[2]?=some (.cells ((cWs 8).enc H32) 118 (0,0)):=by
 have ht:Lib.TabIs Tryz.prog W "postilion/sha2.start256" .u32 zsS:=Lib.tabIs_of_head (rest:=[]) gS gTS Dr Cv Ds Cw h
 obtain ⟨cs,hc,_,_⟩:=hsh.1 2 _ _ ltS stS
 unfold Lib.TabIs World.var? at ht
 simp only[gS,Option.bind_some,hc]at ht
 rw[hc,← zrS,Option.some.inj ht]
def zsK:List Int:=CE.map fun x=>(x.toNat:Int)
theorem gK:Tryz.prog.globalNamed "postilion/sha2.rounds256" = some 3:=by kernel_rfl
theorem gTK:(Tryz.prog.globals[3]?).map (·.type)=some 119:=by kernel_rfl
theorem Du:Tryz.prog.underlying 119=some (.array 64 25):=by kernel_rfl
theorem Cx:Tryz.prog.underlying 25=some (.int .u32):=by kernel_rfl
theorem Dv:Tryz.prog.cellsOf 25=1:=by kernel_rfl
theorem Cy:Tryz.prog.cellsOf 119=64:=by kernel_rfl
theorem zrK:(zsK.map fun z=>Value.int .u32 z).toArray=(cWs 64).enc K32:=by kernel_rfl
theorem ltK:3<Tryz.prog.globals.size:=of_decide_eq_true (by kernel_rfl)
theorem stK:(((begin Tryz.prog (fun _ _=>0) default).world.heap[3]?).bind Obj.row?)=some ((cWs 64).enc (fun _=>0),119):=by kernel_rfl
set_option maxRecDepth 100000 in
theorem Dw{W:World}(h:laidMetH Tryz.prog [("postilion/sha2.rounds256",Rows.laid_postilion_sha2_rounds256)] W)(hsh:W.ShapedOpen Tryz.prog):W.heap[3]?=some (.cells ((cWs 64).enc K32) 119 (0,0)):=by
 have ht:Lib.TabIs Tryz.prog W "postilion/sha2.rounds256" .u32 zsK:=Lib.tabIs_of_head (rest:=[]) gK gTK Du Cx Dv Cy h
 obtain ⟨cs,hc,_,_⟩:=hsh.1 3 _ _ ltK stK
 unfold Lib.TabIs World.var? at ht
 simp only[gK,Option.bind_some,hc]at ht
 rw[hc,← zrK,Option.some.inj ht]
def zsB:List Int:=C0.map fun x=>(x.toNat:Int)
theorem gB:Tryz.prog.globalNamed "postilion/aes.box" = some 0:=by kernel_rfl
theorem gTB:(Tryz.prog.globals[0]?).map (·.type)=some 103:=by kernel_rfl
theorem undB:Tryz.prog.underlying 103=some (.array 256 5):=by kernel_rfl
theorem Cz:Tryz.prog.underlying 5=some (.int .u8):=by kernel_rfl
theorem Dx:Tryz.prog.cellsOf 5=1:=by kernel_rfl
theorem CA:Tryz.prog.cellsOf 103=256:=by kernel_rfl
theorem zrB:(zsB.map fun z=>Value.int .u8 z).toArray=(ac 256).enc ah:=by kernel_rfl
theorem ltB:0<Tryz.prog.globals.size:=of_decide_eq_true (by kernel_rfl)
theorem stB:(((begin Tryz.prog (fun _ _=>0) default).world.heap[0]?).bind Obj.row?)=some ((ac 256).enc (fun _=>0),103):=by kernel_rfl
set_option maxRecDepth 100000 in
theorem Dy{W:World}(h:laidMetH Tryz.prog [("postilion/aes.box",Rows.laid_postilion_aes_box)] W)(hsh:W.ShapedOpen Tryz.prog):W.heap[0]?=some (.cells ((ac 256).enc ah) 103 (0,0)):=by
 have ht:Lib.TabIs Tryz.prog W "postilion/aes.box" .u8 zsB:=Lib.tabIs_of_head (rest:=[]) gB gTB undB Cz Dx CA h
 obtain ⟨cs,hc,_,_⟩:=hsh.1 0 _ _ ltB stB
 unfold Lib.TabIs World.var? at ht
 simp only[gB,Option.bind_some,hc]at ht
 rw[hc,← zrB,Option.some.inj ht]
noncomputable def jr(os:Os):World :=
 { World.holding Tryz.prog os ⟨#[],#[],[]⟩ with heap:=((((((World.holding Tryz.prog os ⟨#[],#[],[]⟩).heap.modify 1 fun
   | .cells _ t frozen=>.cells ((cQs 8).enc H64) t frozen
   | o=>o).modify 4 fun
   | .cells _ t frozen=>.cells ((cQs 80).enc K64) t frozen
   | o=>o).modify 2 fun
   | .cells _ t frozen=>.cells ((cWs 8).enc H32) t frozen
   | o=>o).modify 3 fun
   | .cells _ t frozen=>.cells ((cWs 64).enc K32) t frozen
   | o=>o).modify 0 fun
   | .cells _ t frozen=>.cells ((ac 256).enc ah) t frozen
   | o=>o) }
theorem vH(H:Type)(enc:TypeId×Value→H)(W:World)(base:Nat)(args:Array Value)(ds gs:List (DataW H))(before:List MemPlace)
  (hval:∀ (j:Nat) t v,Tryz.f5.params[j]?=some t→args[j]?=some v→Value.okWide Tryz.prog W .any base t v)
  (hW:DataW.Whole enc Tryz.prog Tryz.f5.params.toList Rows.pkeskTurnedSpec.vars false W args.toList ds gs before)
  (hs:(DataW.weightsEach Tryz.prog (Tryz.f5.params.toList++(OpenSpec.ofChange Rows.pkeskTurnedSpec).bare.plain.varTypes Tryz.prog) (ds++gs)).all (·≤reachBytes)=true) (hsh:W.ShapedOpen Tryz.prog) (hL:laidMetH Tryz.prog Rows.pkeskTurnedRow.laid W) :
  Calls Tryz.prog 5 args W fun e W' => ∃ v,e=.returned v∧Rows.pkeskTurnedSpec.post enc Tryz.prog Tryz.f5 false true false false W args v W':=by
 have hW':=hW
 obtain ⟨p,q,hA0,hV,rfl,hfz,hnd⟩:=hW
 have hA:DataW.TrodAll enc Tryz.prog W 0 (fun _=>true) true Tryz.f5.params.toList args.toList ds p:=hA0
 rw[Tryz.params5]at hA hval hs
 obtain ⟨v0,vs0,d0,ds0,p0,q0,hargs,rfl,rfl,h0,r0⟩:=trodAll_cons hA
 obtain ⟨v1,vs1,d1,ds1,p1,q1,rfl,rfl,rfl,h1,r1⟩:=trodAll_cons r0
 obtain ⟨v2,vs2,d2,ds2,p2,q2,rfl,rfl,rfl,h2,r2⟩:=trodAll_cons r1
 obtain ⟨v3,vs3,d3,ds3,p3,q3,rfl,rfl,rfl,h3,r3⟩:=trodAll_cons r2
 obtain ⟨v4,vs4,d4,ds4,p4,q4,rfl,rfl,rfl,h4,r4⟩:=trodAll_cons r3
 obtain ⟨v5,vs5,d5,ds5,p5,q5,rfl,rfl,rfl,h5,r5⟩:=trodAll_cons r4
 obtain ⟨v6,vs6,d6,ds6,p6,q6,rfl,rfl,rfl,h6,r6⟩:=trodAll_cons r5
 obtain ⟨rfl,rfl,rfl⟩:=trodAll_nil r6
 obtain rfl:args = #[v0,v1,v2,v3,v4,v5,v6]:=by cases args;simp_all
 obtain ⟨rfl,rfl⟩:=trodVars_none hV
 have z0:(d0.weights Tryz.prog 22).all (·≤reachBytes)=true:=List.all_eq_true.2 fun k hk=>List.all_eq_true.1 hs k (DataW.weights_mem_each (j:=0) (t:=22) (d:=d0) rfl rfl k hk)
 obtain ⟨a0,e0,ok0⟩:=eP (eE (n:=32) (e:=5) (by kernel_rfl) (by kernel_rfl) (by kernel_rfl) (by kernel_rfl)) (by kernel_rfl) (hval 0 22 v0 rfl rfl) h0 z0
 have z1:(d1.weights Tryz.prog 24).all (·≤reachBytes)=true:=List.all_eq_true.2 fun k hk=>List.all_eq_true.1 hs k (DataW.weights_mem_each (j:=1) (t:=24) (d:=d1) rfl rfl k hk)
 obtain ⟨a1,e1,ok1⟩:=eP (iX (fs:=[(22,0),(22,32)]) (C:=bn (ac 32) (ac 32)) (by kernel_rfl) (by kernel_rfl) (iW (by kernel_rfl) (eE (n:=32) (e:=5) (by kernel_rfl) (by kernel_rfl) (by kernel_rfl) (by kernel_rfl)) (iV (by kernel_rfl) (eE (n:=32) (e:=5) (by kernel_rfl) (by kernel_rfl) (by kernel_rfl) (by kernel_rfl))))) (by kernel_rfl) (hval 1 24 v1 rfl rfl) h1 z1
 have z2:(d2.weights Tryz.prog 24).all (·≤reachBytes)=true:=List.all_eq_true.2 fun k hk=>List.all_eq_true.1 hs k (DataW.weights_mem_each (j:=2) (t:=24) (d:=d2) rfl rfl k hk)
 obtain ⟨a2,e2,ok2⟩:=eP (iX (fs:=[(22,0),(22,32)]) (C:=bn (ac 32) (ac 32)) (by kernel_rfl) (by kernel_rfl) (iW (by kernel_rfl) (eE (n:=32) (e:=5) (by kernel_rfl) (by kernel_rfl) (by kernel_rfl) (by kernel_rfl)) (iV (by kernel_rfl) (eE (n:=32) (e:=5) (by kernel_rfl) (by kernel_rfl) (by kernel_rfl) (by kernel_rfl))))) (by kernel_rfl) (hval 2 24 v2 rfl rfl) h2 z2
 have z3:(d3.weights Tryz.prog 22).all (·≤reachBytes)=true:=List.all_eq_true.2 fun k hk=>List.all_eq_true.1 hs k (DataW.weights_mem_each (j:=3) (t:=22) (d:=d3) rfl rfl k hk)
 obtain ⟨a3,e3,ok3⟩:=eP (eE (n:=32) (e:=5) (by kernel_rfl) (by kernel_rfl) (by kernel_rfl) (by kernel_rfl)) (by kernel_rfl) (hval 3 22 v3 rfl rfl) h3 z3
 have z4:(d4.weights Tryz.prog 43).all (·≤reachBytes)=true:=List.all_eq_true.2 fun k hk=>List.all_eq_true.1 hs k (DataW.weights_mem_each (j:=4) (t:=43) (d:=d4) rfl rfl k hk)
 obtain ⟨a4,e4,ok4⟩:=eP (th (by kernel_rfl)) (by kernel_rfl) (hval 4 43 v4 rfl rfl) h4 z4
 have z5:(d5.weights Tryz.prog 5).all (·≤reachBytes)=true:=List.all_eq_true.2 fun k hk=>List.all_eq_true.1 hs k (DataW.weights_mem_each (j:=5) (t:=5) (d:=d5) rfl rfl k hk)
 obtain ⟨a5,e5,ok5⟩:=eP (li (by kernel_rfl)) (by kernel_rfl) (hval 5 5 v5 rfl rfl) h5 z5
 have z6:(d6.weights Tryz.prog 5).all (·≤reachBytes)=true:=List.all_eq_true.2 fun k hk=>List.all_eq_true.1 hs k (DataW.weights_mem_each (j:=6) (t:=5) (d:=d6) rfl rfl k hk)
 obtain ⟨a6,e6,ok6⟩:=eP (li (by kernel_rfl)) (by kernel_rfl) (hval 6 5 v6 rfl rfl) h6 z6
 clear hA0
 simp only[List.append_nil]at hW'
 have hLS5:=hL.filter fun x=>x.1 == "postilion/sha2.start512"
 rw[show (Rows.pkeskTurnedRow.laid.filter fun x=>x.1 == "postilion/sha2.start512")=[("postilion/sha2.start512",Rows.laid_postilion_sha2_start512)] by kernel_rfl]at hLS5
 have hS5:=Cp hLS5 hsh
 have hLK5:=hL.filter fun x=>x.1 == "postilion/sha2.rounds512"
 rw[show (Rows.pkeskTurnedRow.laid.filter fun x=>x.1 == "postilion/sha2.rounds512")=[("postilion/sha2.rounds512",Rows.laid_postilion_sha2_rounds512)] by kernel_rfl]at hLK5
 have hK5:=Cu hLK5 hsh
 have hLS:=hL.filter fun x=>x.1 == "postilion/sha2.start256"
 rw[show (Rows.pkeskTurnedRow.laid.filter fun x=>x.1 == "postilion/sha2.start256")=[("postilion/sha2.start256",Rows.laid_postilion_sha2_start256)] by kernel_rfl]at hLS
 have hS:=Dt hLS hsh
 have hLK:=hL.filter fun x=>x.1 == "postilion/sha2.rounds256"
 rw[show (Rows.pkeskTurnedRow.laid.filter fun x=>x.1 == "postilion/sha2.rounds256")=[("postilion/sha2.rounds256",Rows.laid_postilion_sha2_rounds256)] by kernel_rfl]at hLK
 have hK:=Dw hLK hsh
 have hLB:=hL.filter fun x=>x.1 == "postilion/aes.box"
 rw[show (Rows.pkeskTurnedRow.laid.filter fun x=>x.1 == "postilion/aes.box")=[("postilion/aes.box",Rows.laid_postilion_aes_box)] by kernel_rfl]at hLB
 have hB:=Dy hLB hsh
 have l0:∀ x∈p0,x.block<W.heap.size:=fun x hx=>hW'.lt x (by simp[hx])
 have l1:∀ x∈p1,x.block<W.heap.size:=fun x hx=>hW'.lt x (by simp[hx])
 have l2:∀ x∈p2,x.block<W.heap.size:=fun x hx=>hW'.lt x (by simp[hx])
 have l3:∀ x∈p3,x.block<W.heap.size:=fun x hx=>hW'.lt x (by simp[hx])
 have l4:∀ x∈p4,x.block<W.heap.size:=fun x hx=>hW'.lt x (by simp[hx])
 have l5:∀ x∈p5,x.block<W.heap.size:=fun x hx=>hW'.lt x (by simp[hx])
 have l6:∀ x∈p6,x.block<W.heap.size:=fun x hx=>hW'.lt x (by simp[hx])
 refine Calls.mono (R:=fun e W'=>e=.returned (.bool true)∧Below W.heap.size W W') ?_ fun e W' ⟨he,hb⟩ => ?_
 ·clear hs hval hfz hnd
  subst e0
  subst e1
  subst e2
  subst e3
  subst e4
  subst e5
  subst e6
  exact pY a0 a1 a2 a3 a4 a5 a6 W ⟨hK5,hS5,hK,hS,hB⟩
 subst he
 refine ⟨_,rfl,_,_,_,[],(p0++(p1++(p2++(p3++(p4++(p5++(p6++[]))))))),[],hW',trodAll_cons_mk (shut_bool vX _) trodAll_mk0,(trodAll_cons_mk (WideElems.Trod_stays fF rT vE h0 (fun x hx=>hb.same (l0 x hx)) (fun x hx=>by simpa using l0 x hx)) (trodAll_cons_mk (WideElems.Trod_stays fF rU vF h1 (fun x hx=>hb.same (l1 x hx)) (fun x hx=>by simpa using l1 x hx)) (trodAll_cons_mk (WideElems.Trod_stays fF rU vF h2 (fun x hx=>hb.same (l2 x hx)) (fun x hx=>by simpa using l2 x hx)) (trodAll_cons_mk (WideElems.Trod_stays fF rT vE h3 (fun x hx=>hb.same (l3 x hx)) (fun x hx=>by simpa using l3 x hx)) (trodAll_cons_mk (WideElems.Trod_stays fF xT AM h4 (fun x hx=>hb.same (l4 x hx)) (fun x hx=>by simpa using l4 x hx)) (trodAll_cons_mk (WideElems.Trod_stays fF rV vG h5 (fun x hx=>hb.same (l5 x hx)) (fun x hx=>by simpa using l5 x hx)) (trodAll_cons_mk (WideElems.Trod_stays fF rV vG h6 (fun x hx=>hb.same (l6 x hx)) (fun x hx=>by simpa using l6 x hx)) trodAll_mk0))))))),rfl,hb.frame _,fun h=>by cases h⟩
theorem vI(os:Os):laidMet Tryz.prog Rows.pkeskTurnedRow.laid ((jr os).forCall (fun _ _=>0) ⟨#[],#[.agg #[.int .u8 0,.int .u8 0,.int .u8 0,.int .u8 0,.int .u8 0,.int .u8 0,.int .u8 0,.int .u8 0,.int .u8 0,.int .u8 0,.int .u8 0,.int .u8 0,.int .u8 0,.int .u8 0,.int .u8 0,.int .u8 0,.int .u8 0,.int .u8 0,.int .u8 0,.int .u8 0,.int .u8 0,.int .u8 0,.int .u8 0,.int .u8 0,.int .u8 0,.int .u8 0,.int .u8 0,.int .u8 0,.int .u8 0,.int .u8 0,.int .u8 0,.int .u8 0],.agg (List.replicate 64 (Value.int .u8 0)).toArray,.agg (List.replicate 64 (Value.int .u8 0)).toArray,.agg #[.int .u8 0,.int .u8 0,.int .u8 0,.int .u8 0,.int .u8 0,.int .u8 0,.int .u8 0,.int .u8 0,.int .u8 0,.int .u8 0,.int .u8 0,.int .u8 0,.int .u8 0,.int .u8 0,.int .u8 0,.int .u8 0,.int .u8 0,.int .u8 0,.int .u8 0,.int .u8 0,.int .u8 0,.int .u8 0,.int .u8 0,.int .u8 0,.int .u8 0,.int .u8 0,.int .u8 0,.int .u8 0,.int .u8 0,.int .u8 0,.int .u8 0,.int .u8 0],.int .u64 0,.int .u8 0,.int .u8 0],[]⟩).memory :=
 laidMet_of_run' 8 (by kernel_rfl) (by kernel_rfl)
theorem reads(os:Os){H:Type}(enc:TypeId×Value→H):∃ places,DataW.whole enc Tryz.prog ((jr os).forCall (fun _ _=>0) ⟨#[],#[.agg #[.int .u8 0,.int .u8 0,.int .u8 0,.int .u8 0,.int .u8 0,.int .u8 0,.int .u8 0,.int .u8 0,.int .u8 0,.int .u8 0,.int .u8 0,.int .u8 0,.int .u8 0,.int .u8 0,.int .u8 0,.int .u8 0,.int .u8 0,.int .u8 0,.int .u8 0,.int .u8 0,.int .u8 0,.int .u8 0,.int .u8 0,.int .u8 0,.int .u8 0,.int .u8 0,.int .u8 0,.int .u8 0,.int .u8 0,.int .u8 0,.int .u8 0,.int .u8 0],.agg (List.replicate 64 (Value.int .u8 0)).toArray,.agg (List.replicate 64 (Value.int .u8 0)).toArray,.agg #[.int .u8 0,.int .u8 0,.int .u8 0,.int .u8 0,.int .u8 0,.int .u8 0,.int .u8 0,.int .u8 0,.int .u8 0,.int .u8 0,.int .u8 0,.int .u8 0,.int .u8 0,.int .u8 0,.int .u8 0,.int .u8 0,.int .u8 0,.int .u8 0,.int .u8 0,.int .u8 0,.int .u8 0,.int .u8 0,.int .u8 0,.int .u8 0,.int .u8 0,.int .u8 0,.int .u8 0,.int .u8 0,.int .u8 0,.int .u8 0,.int .u8 0,.int .u8 0],.int .u64 0,.int .u8 0,.int .u8 0],[]⟩).memory Tryz.f5.params.toList Rows.pkeskTurnedSpec.vars false (#[.agg #[.int .u8 0,.int .u8 0,.int .u8 0,.int .u8 0,.int .u8 0,.int .u8 0,.int .u8 0,.int .u8 0,.int .u8 0,.int .u8 0,.int .u8 0,.int .u8 0,.int .u8 0,.int .u8 0,.int .u8 0,.int .u8 0,.int .u8 0,.int .u8 0,.int .u8 0,.int .u8 0,.int .u8 0,.int .u8 0,.int .u8 0,.int .u8 0,.int .u8 0,.int .u8 0,.int .u8 0,.int .u8 0,.int .u8 0,.int .u8 0,.int .u8 0,.int .u8 0],.agg (List.replicate 64 (Value.int .u8 0)).toArray,.agg (List.replicate 64 (Value.int .u8 0)).toArray,.agg #[.int .u8 0,.int .u8 0,.int .u8 0,.int .u8 0,.int .u8 0,.int .u8 0,.int .u8 0,.int .u8 0,.int .u8 0,.int .u8 0,.int .u8 0,.int .u8 0,.int .u8 0,.int .u8 0,.int .u8 0,.int .u8 0,.int .u8 0,.int .u8 0,.int .u8 0,.int .u8 0,.int .u8 0,.int .u8 0,.int .u8 0,.int .u8 0,.int .u8 0,.int .u8 0,.int .u8 0,.int .u8 0,.int .u8 0,.int .u8 0,.int .u8 0,.int .u8 0],.int .u64 0,.int .u8 0,.int .u8 0]:Array Value).toList 8=some ([.agg [.lit (.int .u8 0),.lit (.int .u8 0),.lit (.int .u8 0),.lit (.int .u8 0),.lit (.int .u8 0),.lit (.int .u8 0),.lit (.int .u8 0),.lit (.int .u8 0),.lit (.int .u8 0),.lit (.int .u8 0),.lit (.int .u8 0),.lit (.int .u8 0),.lit (.int .u8 0),.lit (.int .u8 0),.lit (.int .u8 0),.lit (.int .u8 0),.lit (.int .u8 0),.lit (.int .u8 0),.lit (.int .u8 0),.lit (.int .u8 0),.lit (.int .u8 0),.lit (.int .u8 0),.lit (.int .u8 0),.lit (.int .u8 0),.lit (.int .u8 0),.lit (.int .u8 0),.lit (.int .u8 0),.lit (.int .u8 0),.lit (.int .u8 0),.lit (.int .u8 0),.lit (.int .u8 0),.lit (.int .u8 0)],.agg [.agg [.lit (.int .u8 0),.lit (.int .u8 0),.lit (.int .u8 0),.lit (.int .u8 0),.lit (.int .u8 0),.lit (.int .u8 0),.lit (.int .u8 0),.lit (.int .u8 0),.lit (.int .u8 0),.lit (.int .u8 0),.lit (.int .u8 0),.lit (.int .u8 0),.lit (.int .u8 0),.lit (.int .u8 0),.lit (.int .u8 0),.lit (.int .u8 0),.lit (.int .u8 0),.lit (.int .u8 0),.lit (.int .u8 0),.lit (.int .u8 0),.lit (.int .u8 0),.lit (.int .u8 0),.lit (.int .u8 0),.lit (.int .u8 0),.lit (.int .u8 0),.lit (.int .u8 0),.lit (.int .u8 0),.lit (.int .u8 0),.lit (.int .u8 0),.lit (.int .u8 0),.lit (.int .u8 0),.lit (.int .u8 0)],.agg [.lit (.int .u8 0),.lit (.int .u8 0),.lit (.int .u8 0),.lit (.int .u8 0),.lit (.int .u8 0),.lit (.int .u8 0),.lit (.int .u8 0),.lit (.int .u8 0),.lit (.int .u8 0),.lit (.int .u8 0),.lit (.int .u8 0),.lit (.int .u8 0),.lit (.int .u8 0),.lit (.int .u8 0),.lit (.int .u8 0),.lit (.int .u8 0),.lit (.int .u8 0),.lit (.int .u8 0),.lit (.int .u8 0),.lit (.int .u8 0),.lit (.int .u8 0),.lit (.int .u8 0),.lit (.int .u8 0),.lit (.int .u8 0),.lit (.int .u8 0),.lit (.int .u8 0),.lit (.int .u8 0),.lit (.int .u8 0),.lit (.int .u8 0),.lit (.int .u8 0),.lit (.int .u8 0),.lit (.int .u8 0)]],.agg [.agg [.lit (.int .u8 0),.lit (.int .u8 0),.lit (.int .u8 0),.lit (.int .u8 0),.lit (.int .u8 0),.lit (.int .u8 0),.lit (.int .u8 0),.lit (.int .u8 0),.lit (.int .u8 0),.lit (.int .u8 0),.lit (.int .u8 0),.lit (.int .u8 0),.lit (.int .u8 0),.lit (.int .u8 0),.lit (.int .u8 0),.lit (.int .u8 0),.lit (.int .u8 0),.lit (.int .u8 0),.lit (.int .u8 0),.lit (.int .u8 0),.lit (.int .u8 0),.lit (.int .u8 0),.lit (.int .u8 0),.lit (.int .u8 0),.lit (.int .u8 0),.lit (.int .u8 0),.lit (.int .u8 0),.lit (.int .u8 0),.lit (.int .u8 0),.lit (.int .u8 0),.lit (.int .u8 0),.lit (.int .u8 0)],.agg [.lit (.int .u8 0),.lit (.int .u8 0),.lit (.int .u8 0),.lit (.int .u8 0),.lit (.int .u8 0),.lit (.int .u8 0),.lit (.int .u8 0),.lit (.int .u8 0),.lit (.int .u8 0),.lit (.int .u8 0),.lit (.int .u8 0),.lit (.int .u8 0),.lit (.int .u8 0),.lit (.int .u8 0),.lit (.int .u8 0),.lit (.int .u8 0),.lit (.int .u8 0),.lit (.int .u8 0),.lit (.int .u8 0),.lit (.int .u8 0),.lit (.int .u8 0),.lit (.int .u8 0),.lit (.int .u8 0),.lit (.int .u8 0),.lit (.int .u8 0),.lit (.int .u8 0),.lit (.int .u8 0),.lit (.int .u8 0),.lit (.int .u8 0),.lit (.int .u8 0),.lit (.int .u8 0),.lit (.int .u8 0)]],.agg [.lit (.int .u8 0),.lit (.int .u8 0),.lit (.int .u8 0),.lit (.int .u8 0),.lit (.int .u8 0),.lit (.int .u8 0),.lit (.int .u8 0),.lit (.int .u8 0),.lit (.int .u8 0),.lit (.int .u8 0),.lit (.int .u8 0),.lit (.int .u8 0),.lit (.int .u8 0),.lit (.int .u8 0),.lit (.int .u8 0),.lit (.int .u8 0),.lit (.int .u8 0),.lit (.int .u8 0),.lit (.int .u8 0),.lit (.int .u8 0),.lit (.int .u8 0),.lit (.int .u8 0),.lit (.int .u8 0),.lit (.int .u8 0),.lit (.int .u8 0),.lit (.int .u8 0),.lit (.int .u8 0),.lit (.int .u8 0),.lit (.int .u8 0),.lit (.int .u8 0),.lit (.int .u8 0),.lit (.int .u8 0)],.lit (.int .u64 0),.lit (.int .u8 0),.lit (.int .u8 0)],[],places) :=
 ⟨[],by kernel_rfl⟩
set_option maxRecDepth 100000 in
theorem AR(os:Os)(started:os.Started)(H:Type)(enc:TypeId×Value→H)(F:Stop.Interp):
  ReturnsInHanded {} Tryz.checked os 5 .any ((OpenSpec.ofChange Rows.pkeskTurnedSpec).preRow enc Tryz.prog Tryz.f5 Rows.pkeskTurnedRow.domain false Rows.pkeskTurnedRow.laid) (((OpenSpec.ofChange Rows.pkeskTurnedSpec).at F).post enc Tryz.prog Tryz.f5 false true false false):=by
 obtain ⟨places,hx⟩:=reads os enc
 refine returnsInHanded_of_row (C:=Tryz.checked) (s:=OpenSpec.ofChange Rows.pkeskTurnedSpec) own started (by kernel_rfl) Tryz.func5
  (witness_row_at (enc:=enc) (C:=Tryz.checked) false (jr os) #[.agg #[.int .u8 0,.int .u8 0,.int .u8 0,.int .u8 0,.int .u8 0,.int .u8 0,.int .u8 0,.int .u8 0,.int .u8 0,.int .u8 0,.int .u8 0,.int .u8 0,.int .u8 0,.int .u8 0,.int .u8 0,.int .u8 0,.int .u8 0,.int .u8 0,.int .u8 0,.int .u8 0,.int .u8 0,.int .u8 0,.int .u8 0,.int .u8 0,.int .u8 0,.int .u8 0,.int .u8 0,.int .u8 0,.int .u8 0,.int .u8 0,.int .u8 0,.int .u8 0],.agg (List.replicate 64 (Value.int .u8 0)).toArray,.agg (List.replicate 64 (Value.int .u8 0)).toArray,.agg #[.int .u8 0,.int .u8 0,.int .u8 0,.int .u8 0,.int .u8 0,.int .u8 0,.int .u8 0,.int .u8 0,.int .u8 0,.int .u8 0,.int .u8 0,.int .u8 0,.int .u8 0,.int .u8 0,.int .u8 0,.int .u8 0,.int .u8 0,.int .u8 0,.int .u8 0,.int .u8 0,.int .u8 0,.int .u8 0,.int .u8 0,.int .u8 0,.int .u8 0,.int .u8 0,.int .u8 0,.int .u8 0,.int .u8 0,.int .u8 0,.int .u8 0,.int .u8 0],.int .u64 0,.int .u8 0,.int .u8 0] rfl (by kernel_rfl) (by kernel_rfl) (by kernel_rfl)
   (OpenSpec.preRow_of_cond 8 hx (by kernel_rfl) (fun k hk=>by cases hk) (by kernel_rfl) (vI os))) ?_
 intro W base args ds gs before hval hW _ hcond hs hL hsh _
 exact vH H enc W base args ds gs before hval hW hs hsh hL
theorem Dz:Rows.PkeskTurnedSaid :=
 OpenClaim.holds_of_cond 5 Tryz.f5 rfl rfl rfl rfl rfl rfl rfl ⟨rfl,rfl,rfl,rfl,rfl⟩ rfl rfl rfl rfl rfl (by kernel_rfl) Tryz.func5 (by kernel_rfl)
  (of_decide_eq_true (by kernel_rfl)) (by unfold Func.isWrapper;first | (rw[if_pos (by decide +kernel)];kernel_rfl) | (rw[if_neg (by decide +kernel)];exact ⟨rfl,rfl⟩))
  (fun os started H enc _ F=>by rw[OpenClaim.pre_eq_preRow];exact AR os started H enc F)
theorem plain(f:FuncId)(fn:Func)(hf:Tryz.pinned.checked.prog.funcNamed "postilion/postilionlaw15.PkeskTurned" = some f)(hfn:Tryz.pinned.checked.prog.funcs[f]?=some fn):
  false=Tryz.pinned.checked.prog.looks [] ∧ ∀ (j:Nat) t,fn.params[j]?=some t→Tryz.pinned.checked.prog.wantsStandIn t=false:=by
 obtain rfl:f=5:=Option.some.inj ((show Tryz.prog.funcNamed "postilion/postilionlaw15.PkeskTurned" = some 5 by kernel_rfl).symm.trans hf) |>.symm
 obtain rfl:fn=Tryz.f5:=(Option.some.inj (Tryz.func5.symm.trans hfn)).symm
 refine ⟨by kernel_rfl,fun j t ht => ?_⟩
 rw[Tryz.params5]at ht
 have hm:=Array.mem_of_getElem? ht
 simp only[List.mem_toArray,List.mem_cons,List.not_mem_nil,or_false]at hm
 rcases hm with rfl | rfl | rfl | rfl | rfl | rfl | rfl<;>exact (show Tryz.prog.wantsStandIn _=false by kernel_rfl)
theorem card:Rows.PkeskTurnedCardSaid :=
 Claim7.holds_tied_plain_at .later [] _ _ _ _ Dz (fun _ h=>by cases h) (by kernel_rfl) (fun _ h=>by cases h) pkeskTurned_row_tie rfl ⟨rfl,rfl⟩ (by kernel_rfl) rfl plain (by kernel_rfl)
#print axioms card
end Go.Proofs.YtajppfmjbkebfaaGreatDoor.pkeskTurned
