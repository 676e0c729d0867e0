import Derived.Test.YtajppfmjbkebfaaGreatDoorKPkeskSealsCG
import Derived.Test.YtajppfmjbkebfaaGreatDoorCards
import Derived.Test.YtajppfmjbkebfaaGreatDoorTie
import Derived.ProofKit
import Derived.ChangeSlices
import Derived.ChangeKeysEq
import Derived.Carry
import Derived.OpenShut
import Derived.Deep.DeepHandedRow
import Derived.Lib.LaidTab
import Derived.Shelf.Vars
import Derived.ChangeSame
import Derived.LaidSub
set_option maxHeartbeats 8000000
namespace Go.Proofs.YtajppfmjbkebfaaGreatDoor.pkeskSeals
open Go Go.ChangeShapes Go.WideShapes Go.ChangeAt Go.RowKit
set_option maxRecDepth 100000
theorem rh:Tryz.prog.readableRec 22=true:=by kernel_rfl
theorem uX:22<Tryz.prog.types.size:=of_decide_eq_true (by kernel_rfl)
theorem xa:Tryz.prog.readableRec 24=true:=by kernel_rfl
theorem zX:24<Tryz.prog.types.size:=of_decide_eq_true (by kernel_rfl)
theorem xc:Tryz.prog.readableRec 25=true:=by kernel_rfl
theorem zY:25<Tryz.prog.types.size:=of_decide_eq_true (by kernel_rfl)
def BC:List Int:=[7640891576956012808,13503953896175478587,4354685564936845355,11912009170470909681,5840696475078001361,11170449401992604703,2270897969802886507,6620516959819538809]
theorem gS5:Tryz.prog.globalNamed "postilion/sha2.start512" = some 1:=by kernel_rfl
theorem Cw:(Tryz.prog.globals[1]?).map (·.type)=some 141:=by kernel_rfl
theorem BD:Tryz.prog.underlying 141=some (.array 8 72):=by kernel_rfl
theorem zZ:Tryz.prog.underlying 72=some (.int .u64):=by kernel_rfl
theorem BE:Tryz.prog.cellsOf 72=1:=by kernel_rfl
theorem z9:Tryz.prog.cellsOf 141=8:=by kernel_rfl
theorem Cx:(BC.map fun z=>Value.int .u64 z).toArray=(cQs 8).enc H64:=by kernel_rfl
theorem Cy:1<Tryz.prog.globals.size:=of_decide_eq_true (by kernel_rfl)
theorem Cz:(((begin Tryz.prog (fun _ _=>0) default).world.heap[1]?).bind Obj.row?)=some ((cQs 8).enc (fun _=>0),141):=by kernel_rfl
set_option maxRecDepth 100000 in
theorem BF {W:World} (h:laidMetH Tryz.prog [("postilion/sha2.start512",Rows.laid_postilion_sha2_start512)] W) (hsh:W.ShapedOpen Tryz.prog):W.heap[1]?=some (.cells ((cQs 8).enc H64) 141 (0,0)):=by
 have ht:Lib.TabIs Tryz.prog W "postilion/sha2.start512" .u64 BC:=Lib.tabIs_of_head (rest:=[]) gS5 Cw BD zZ BE z9 h
 obtain ⟨cs,hc,_,_⟩:=hsh.1 1 _ _ Cy Cz
 unfold Lib.TabIs World.var? at ht
 simp only [gS5,Option.bind_some,hc] at ht
 rw [hc,← Cx,Option.some.inj ht]
def BG:List Int:=[4794697086780616226,8158064640168781261,13096744586834688815,16840607885511220156,4131703408338449720,6480981068601479193,10538285296894168987,12329834152419229976,15566598209576043074,1334009975649890238,2608012711638119052,6128411473006802146,8268148722764581231,9286055187155687089,11230858885718282805,13951009754708518548,16472876342353939154,17275323862435702243,1135362057144423861,2597628984639134821,3308224258029322869,5365058923640841347,6679025012923562964,8573033837759648693,10970295158949994411,12119686244451234320,12683024718118986047,13788192230050041572,14330467153632333762,15395433587784984357,489312712824947311,1452737877330783856,2861767655752347644,3322285676063803686,5560940570517711597,5996557281743188959,7280758554555802590,8532644243296465576,9350256976987008742,10552545826968843579,11727347734174303076,12113106623233404929,14000437183269869457,14369950271660146224,15101387698204529176,15463397548674623760,17586052441742319658,1182934255886127544,1847814050463011016,2177327727835720531,2830643537854262169,3796741975233480872,4115178125766777443,5681478168544905931,6601373596472566643,7507060721942968483,8399075790359081724,8693463985226723168,9568029438360202098,10144078919501101548,10430055236837252648,11840083180663258601,13761210420658862357,14299343276471374635,14566680578165727644,15097957966210449927,16922976911328602910,17689382322260857208,500013540394364858,748580250866718886,1242879168328830382,1977374033974150939,2944078676154940804,3659926193048069267,4368137639120453308,4836135668995329356,5532061633213252278,6448918945643986474,6902733635092675308,7801388544844847127]
theorem gK5:Tryz.prog.globalNamed "postilion/sha2.rounds512" = some 4:=by kernel_rfl
theorem CA:(Tryz.prog.globals[4]?).map (·.type)=some 159:=by kernel_rfl
theorem BH:Tryz.prog.underlying 159=some (.array 80 72):=by kernel_rfl
theorem Aa:Tryz.prog.underlying 72=some (.int .u64):=by kernel_rfl
theorem BI:Tryz.prog.cellsOf 72=1:=by kernel_rfl
theorem Ab:Tryz.prog.cellsOf 159=80:=by kernel_rfl
theorem CB:(BG.map fun z=>Value.int .u64 z).toArray=(cQs 80).enc K64:=by kernel_rfl
theorem CC:4<Tryz.prog.globals.size:=of_decide_eq_true (by kernel_rfl)
theorem CD:(((begin Tryz.prog (fun _ _=>0) default).world.heap[4]?).bind Obj.row?)=some ((cQs 80).enc (fun _=>0),159):=by kernel_rfl
set_option maxRecDepth 100000 in
theorem BJ {W:World} (h:laidMetH Tryz.prog [("postilion/sha2.rounds512",Rows.laid_postilion_sha2_rounds512)] W) (hsh:W.ShapedOpen Tryz.prog):W.heap[4]?=some (.cells ((cQs 80).enc K64) 159 (0,0)):=by
 have ht:Lib.TabIs Tryz.prog W "postilion/sha2.rounds512" .u64 BG:=Lib.tabIs_of_head (rest:=[]) gK5 CA BH Aa BI Ab h
 obtain ⟨cs,hc,_,_⟩:=hsh.1 4 _ _ CC CD
 unfold Lib.TabIs World.var? at ht
 simp only [gK5,Option.bind_some,hc] at ht
 rw [hc,← CB,Option.some.inj ht]
def zsS:List Int:=[1779033703,3144134277,1013904242,2773480762,1359893119,2600822924,528734635,1541459225]
theorem gS:Tryz.prog.globalNamed "postilion/sha2.start256" = some 2:=by kernel_rfl
theorem gTS:(Tryz.prog.globals[2]?).map (·.type)=some 118:=by kernel_rfl
theorem CE:Tryz.prog.underlying 118=some (.array 8 25):=by kernel_rfl
theorem BK:Tryz.prog.underlying 25=some (.int .u32):=by kernel_rfl
theorem CF:Tryz.prog.cellsOf 25=1:=by kernel_rfl
theorem BL:Tryz.prog.cellsOf 118=8:=by kernel_rfl
theorem zrS:(zsS.map fun z=>Value.int .u32 z).toArray=(cWs 8).enc H32:=by kernel_rfl
theorem ltS:2<Tryz.prog.globals.size:=of_decide_eq_true (by kernel_rfl)
theorem stS:(((begin Tryz.prog (fun _ _=>0) default).world.heap[2]?).bind Obj.row?)=some ((cWs 8).enc (fun _=>0),118):=by kernel_rfl
set_option maxRecDepth 100000 in
theorem CG {W:World} (h:laidMetH Tryz.prog [("postilion/sha2.start256",Rows.laid_postilion_sha2_start256)] W) (hsh:W.ShapedOpen Tryz.prog):W.heap[2]?=some (.cells ((cWs 8).enc H32) 118 (0,0)):=by
 have ht:Lib.TabIs Tryz.prog W "postilion/sha2.start256" .u32 zsS:=Lib.tabIs_of_head (rest:=[]) gS gTS CE BK CF BL h
 obtain ⟨cs,hc,_,_⟩:=hsh.1 2 _ _ ltS stS
 unfold Lib.TabIs World.var? at ht
 simp only [gS,Option.bind_some,hc] at ht
 rw [hc,← zrS,Option.some.inj ht]
def zsK:List Int:=[1116352408,1899447441,3049323471,3921009573,961987163,1508970993,2453635748,2870763221,3624381080,310598401,607225278,1426881987,1925078388,2162078206,2614888103,3248222580,3835390401,4022224774,264347078,604807628,770255983,1249150122,1555081692,1996064986,2554220882,2821834349,2952996808,3210313671,3336571891,3584528711,113926993,338241895,666307205,773529912,1294757372,1396182291,1695183700,1986661051,2177026350,2456956037,2730485921,2820302411,3259730800,3345764771,3516065817,3600352804,4094571909,275423344,430227734,506948616,659060556,883997877,958139571,1322822218,1537002063,1747873779,1955562222,2024104815,2227730452,2361852424,2428436474,2756734187,3204031479,3329325298]
theorem gK:Tryz.prog.globalNamed "postilion/sha2.rounds256" = some 3:=by kernel_rfl
theorem gTK:(Tryz.prog.globals[3]?).map (·.type)=some 119:=by kernel_rfl
theorem CH:Tryz.prog.underlying 119=some (.array 64 25):=by kernel_rfl
theorem BM:Tryz.prog.underlying 25=some (.int .u32):=by kernel_rfl
theorem CI:Tryz.prog.cellsOf 25=1:=by kernel_rfl
theorem BN:Tryz.prog.cellsOf 119=64:=by kernel_rfl
theorem zrK:(zsK.map fun z=>Value.int .u32 z).toArray=(cWs 64).enc K32:=by kernel_rfl
theorem ltK:3<Tryz.prog.globals.size:=of_decide_eq_true (by kernel_rfl)
theorem stK:(((begin Tryz.prog (fun _ _=>0) default).world.heap[3]?).bind Obj.row?)=some ((cWs 64).enc (fun _=>0),119):=by kernel_rfl
set_option maxRecDepth 100000 in
theorem CJ {W:World} (h:laidMetH Tryz.prog [("postilion/sha2.rounds256",Rows.laid_postilion_sha2_rounds256)] W) (hsh:W.ShapedOpen Tryz.prog):W.heap[3]?=some (.cells ((cWs 64).enc K32) 119 (0,0)):=by
 have ht:Lib.TabIs Tryz.prog W "postilion/sha2.rounds256" .u32 zsK:=Lib.tabIs_of_head (rest:=[]) gK gTK CH BM CI BN h
 obtain ⟨cs,hc,_,_⟩:=hsh.1 3 _ _ ltK stK
 unfold Lib.TabIs World.var? at ht
 simp only [gK,Option.bind_some,hc] at ht
 rw [hc,← zrK,Option.some.inj ht]
def zsB:List Int:=[99,124,119,123,242,107,111,197,48,1,103,43,254,215,171,118,202,130,201,125,250,89,71,240,173,212,162,175,156,164,114,192,183,253,147,38,54,63,247,204,52,165,229,241,113,216,49,21,4,199,35,195,24,150,5,154,7,18,128,226,235,39,178,117,9,131,44,26,27,110,90,160,82,59,214,179,41,227,47,132,83,209,0,237,32,252,177,91,106,203,190,57,74,76,88,207,208,239,170,251,67,77,51,133,69,249,2,127,80,60,159,168,81,163,64,143,146,157,56,245,188,182,218,33,16,255,243,210,205,12,19,236,95,151,68,23,196,167,126,61,100,93,25,115,96,129,79,220,34,42,144,136,70,238,184,20,222,94,11,219,224,50,58,10,73,6,36,92,194,211,172,98,145,149,228,121,231,200,55,109,141,213,78,169,108,86,244,234,101,122,174,8,186,120,37,46,28,166,180,198,232,221,116,31,75,189,139,138,112,62,181,102,72,3,246,14,97,53,87,185,134,193,29,158,225,248,152,17,105,217,142,148,155,30,135,233,206,85,40,223,140,161,137,13,191,230,66,104,65,153,45,15,176,84,187,22]
theorem gB:Tryz.prog.globalNamed "postilion/aes.box" = some 0:=by kernel_rfl
theorem gTB:(Tryz.prog.globals[0]?).map (·.type)=some 103:=by kernel_rfl
theorem undB:Tryz.prog.underlying 103=some (.array 256 5):=by kernel_rfl
theorem BO:Tryz.prog.underlying 5=some (.int .u8):=by kernel_rfl
theorem CK:Tryz.prog.cellsOf 5=1:=by kernel_rfl
theorem BP:Tryz.prog.cellsOf 103=256:=by kernel_rfl
theorem zrB:(zsB.map fun z=>Value.int .u8 z).toArray=(ae 256).enc ag:=by kernel_rfl
theorem ltB:0<Tryz.prog.globals.size:=of_decide_eq_true (by kernel_rfl)
theorem stB:(((begin Tryz.prog (fun _ _=>0) default).world.heap[0]?).bind Obj.row?)=some ((ae 256).enc (fun _=>0),103):=by kernel_rfl
set_option maxRecDepth 100000 in
theorem CL {W:World} (h:laidMetH Tryz.prog [("postilion/aes.box",Rows.laid_postilion_aes_box)] W) (hsh:W.ShapedOpen Tryz.prog):W.heap[0]?=some (.cells ((ae 256).enc ag) 103 (0,0)):=by
 have ht:Lib.TabIs Tryz.prog W "postilion/aes.box" .u8 zsB:=Lib.tabIs_of_head (rest:=[]) gB gTB undB BO CK BP h
 obtain ⟨cs,hc,_,_⟩:=hsh.1 0 _ _ ltB stB
 unfold Lib.TabIs World.var? at ht
 simp only [gB,Option.bind_some,hc] at ht
 rw [hc,← zrB,Option.some.inj ht]
noncomputable def jc (os:Os):World :=
 { World.holding Tryz.prog os ⟨#[],#[],[]⟩ with heap:=((((((World.holding Tryz.prog os ⟨#[],#[],[]⟩).heap.modify 1 fun
   | .cells _ t frozen=>.cells ((cQs 8).enc H64) t frozen
   | o=>o).modify 4 fun
   | .cells _ t frozen=>.cells ((cQs 80).enc K64) t frozen
   | o=>o).modify 2 fun
   | .cells _ t frozen=>.cells ((cWs 8).enc H32) t frozen
   | o=>o).modify 3 fun
   | .cells _ t frozen=>.cells ((cWs 64).enc K32) t frozen
   | o=>o).modify 0 fun
   | .cells _ t frozen=>.cells ((ae 256).enc ag) t frozen
   | o=>o) }
theorem contract (H:Type) (enc:TypeId×Value→H) (W:World) (base:Nat) (args:Array Value) (ds gs:List (DataW H)) (before:List MemPlace)
  (hval:∀ (j:Nat) t v,Tryz.f3.params[j]?=some t→args[j]?=some v→Value.okWide Tryz.prog W .any base t v)
  (hW:DataW.Whole enc Tryz.prog Tryz.f3.params.toList Rows.pkeskSealsSpec.vars false W args.toList ds gs before)
  (hs:(DataW.weightsEach Tryz.prog (Tryz.f3.params.toList++(OpenSpec.ofChange Rows.pkeskSealsSpec).bare.plain.varTypes Tryz.prog) (ds++gs)).all (·≤reachBytes)=true) (hsh:W.ShapedOpen Tryz.prog) (hL:laidMetH Tryz.prog Rows.pkeskSealsRow.laid W) :
  Calls Tryz.prog 3 args W fun e W' => ∃ v,e=.returned v∧Rows.pkeskSealsSpec.post enc Tryz.prog Tryz.f3 false true false false W args v W':=by
 have hW':=hW
 obtain ⟨p,q,hA0,hV,rfl,hfz,hnd⟩:=hW
 have hA:DataW.TrodAll enc Tryz.prog W 0 (fun _=>true) true Tryz.f3.params.toList args.toList ds p:=hA0
 rw [Tryz.params3] at hA hval hs
 obtain ⟨v0,vs0,d0,ds0,p0,q0,hargs,rfl,rfl,h0,r0⟩:=trodAll_cons hA
 obtain ⟨v1,vs1,d1,ds1,p1,q1,rfl,rfl,rfl,h1,r1⟩:=trodAll_cons r0
 obtain ⟨v2,vs2,d2,ds2,p2,q2,rfl,rfl,rfl,h2,r2⟩:=trodAll_cons r1
 obtain ⟨v3,vs3,d3,ds3,p3,q3,rfl,rfl,rfl,h3,r3⟩:=trodAll_cons r2
 obtain ⟨rfl,rfl,rfl⟩:=trodAll_nil r3
 obtain rfl:args = #[v0,v1,v2,v3]:=by cases args; simp_all
 obtain ⟨rfl,rfl⟩:=trodVars_none hV
 have z0:(d0.weights Tryz.prog 22).all (·≤reachBytes)=true:=List.all_eq_true.2 fun k hk=>List.all_eq_true.1 hs k (DataW.weights_mem_each (j:=0) (t:=22) (d:=d0) rfl rfl k hk)
 obtain ⟨a0,e0,ok0⟩:=iJ (opens_arr (n:=32) (e:=5) (by kernel_rfl) (by kernel_rfl) (by kernel_rfl) (by kernel_rfl)) (by kernel_rfl) (hval 0 22 v0 rfl rfl) h0 z0
 have z1:(d1.weights Tryz.prog 24).all (·≤reachBytes)=true:=List.all_eq_true.2 fun k hk=>List.all_eq_true.1 hs k (DataW.weights_mem_each (j:=1) (t:=24) (d:=d1) rfl rfl k hk)
 obtain ⟨a1,e1,ok1⟩:=iJ (mY (fs:=[(22,0),(22,32)]) (C:=bm (ae 32) (ae 32)) (by kernel_rfl) (by kernel_rfl) (mW (by kernel_rfl) (opens_arr (n:=32) (e:=5) (by kernel_rfl) (by kernel_rfl) (by kernel_rfl) (by kernel_rfl)) (mV (by kernel_rfl) (opens_arr (n:=32) (e:=5) (by kernel_rfl) (by kernel_rfl) (by kernel_rfl) (by kernel_rfl))))) (by kernel_rfl) (hval 1 24 v1 rfl rfl) h1 z1
 have z2:(d2.weights Tryz.prog 25).all (·≤reachBytes)=true:=List.all_eq_true.2 fun k hk=>List.all_eq_true.1 hs k (DataW.weights_mem_each (j:=2) (t:=25) (d:=d2) rfl rfl k hk)
 obtain ⟨a2,e2,ok2⟩:=iJ (sH (by kernel_rfl)) (by kernel_rfl) (hval 2 25 v2 rfl rfl) h2 z2
 have z3:(d3.weights Tryz.prog 22).all (·≤reachBytes)=true:=List.all_eq_true.2 fun k hk=>List.all_eq_true.1 hs k (DataW.weights_mem_each (j:=3) (t:=22) (d:=d3) rfl rfl k hk)
 obtain ⟨a3,e3,ok3⟩:=iJ (opens_arr (n:=32) (e:=5) (by kernel_rfl) (by kernel_rfl) (by kernel_rfl) (by kernel_rfl)) (by kernel_rfl) (hval 3 22 v3 rfl rfl) h3 z3
 clear hA0
 simp only [List.append_nil] at hW'
 have hLS5:=hL.filter fun x=>x.1 == "postilion/sha2.start512"
 rw [show (Rows.pkeskSealsRow.laid.filter fun x=>x.1 == "postilion/sha2.start512")=[("postilion/sha2.start512",Rows.laid_postilion_sha2_start512)] by kernel_rfl] at hLS5
 have hS5:=BF hLS5 hsh
 have hLK5:=hL.filter fun x=>x.1 == "postilion/sha2.rounds512"
 rw [show (Rows.pkeskSealsRow.laid.filter fun x=>x.1 == "postilion/sha2.rounds512")=[("postilion/sha2.rounds512",Rows.laid_postilion_sha2_rounds512)] by kernel_rfl] at hLK5
 have hK5:=BJ hLK5 hsh
 have hLS:=hL.filter fun x=>x.1 == "postilion/sha2.start256"
 rw [show (Rows.pkeskSealsRow.laid.filter fun x=>x.1 == "postilion/sha2.start256")=[("postilion/sha2.start256",Rows.laid_postilion_sha2_start256)] by kernel_rfl] at hLS
 have hS:=CG hLS hsh
 have hLK:=hL.filter fun x=>x.1 == "postilion/sha2.rounds256"
 rw [show (Rows.pkeskSealsRow.laid.filter fun x=>x.1 == "postilion/sha2.rounds256")=[("postilion/sha2.rounds256",Rows.laid_postilion_sha2_rounds256)] by kernel_rfl] at hLK
 have hK:=CJ hLK hsh
 have hLB:=hL.filter fun x=>x.1 == "postilion/aes.box"
 rw [show (Rows.pkeskSealsRow.laid.filter fun x=>x.1 == "postilion/aes.box")=[("postilion/aes.box",Rows.laid_postilion_aes_box)] by kernel_rfl] at hLB
 have hB:=CL hLB hsh
 have l0:∀ x∈p0,x.block<W.heap.size:=fun x hx=>hW'.lt x (by simp [hx])
 have l1:∀ x∈p1,x.block<W.heap.size:=fun x hx=>hW'.lt x (by simp [hx])
 have l2:∀ x∈p2,x.block<W.heap.size:=fun x hx=>hW'.lt x (by simp [hx])
 have l3:∀ x∈p3,x.block<W.heap.size:=fun x hx=>hW'.lt x (by simp [hx])
 refine Calls.mono (R:=fun e W'=>e=.returned (.bool true)∧Below W.heap.size W W') ?_ fun e W' ⟨he,hb⟩ => ?_
 ·clear hs hval hfz hnd
  subst e0
  subst e1
  subst e2
  subst e3
  exact sG a0 a1 a2 ok2 a3 W ⟨hK5,hS5,hK,hS,hB⟩
 subst he
 refine ⟨_,rfl,_,_,_,[],(p0++(p1++(p2++(p3++[])))),[],hW',trodAll_cons_mk (shut_bool vi _) trodAll_mk0,(trodAll_cons_mk (WideElems.Trod_stays jE rh uX h0 (fun x hx=>hb.same (l0 x hx)) (fun x hx=>by simpa using l0 x hx)) (trodAll_cons_mk (WideElems.Trod_stays jE xa zX h1 (fun x hx=>hb.same (l1 x hx)) (fun x hx=>by simpa using l1 x hx)) (trodAll_cons_mk (WideElems.Trod_stays jE xc zY h2 (fun x hx=>hb.same (l2 x hx)) (fun x hx=>by simpa using l2 x hx)) (trodAll_cons_mk (WideElems.Trod_stays jE rh uX h3 (fun x hx=>hb.same (l3 x hx)) (fun x hx=>by simpa using l3 x hx)) trodAll_mk0)))),rfl,hb.frame _,fun h=>by cases h⟩
theorem uY (os:Os):laidMet Tryz.prog Rows.pkeskSealsRow.laid ((jc os).forCall (fun _ _=>0) ⟨#[],#[.agg #[.int .u8 0,.int .u8 0,.int .u8 0,.int .u8 0,.int .u8 0,.int .u8 0,.int .u8 0,.int .u8 0,.int .u8 0,.int .u8 0,.int .u8 0,.int .u8 0,.int .u8 0,.int .u8 0,.int .u8 0,.int .u8 0,.int .u8 0,.int .u8 0,.int .u8 0,.int .u8 0,.int .u8 0,.int .u8 0,.int .u8 0,.int .u8 0,.int .u8 0,.int .u8 0,.int .u8 0,.int .u8 0,.int .u8 0,.int .u8 0,.int .u8 0,.int .u8 0],.agg (List.replicate 64 (Value.int .u8 0)).toArray,.int .u32 0,.agg #[.int .u8 0,.int .u8 0,.int .u8 0,.int .u8 0,.int .u8 0,.int .u8 0,.int .u8 0,.int .u8 0,.int .u8 0,.int .u8 0,.int .u8 0,.int .u8 0,.int .u8 0,.int .u8 0,.int .u8 0,.int .u8 0,.int .u8 0,.int .u8 0,.int .u8 0,.int .u8 0,.int .u8 0,.int .u8 0,.int .u8 0,.int .u8 0,.int .u8 0,.int .u8 0,.int .u8 0,.int .u8 0,.int .u8 0,.int .u8 0,.int .u8 0,.int .u8 0]],[]⟩).memory :=
 laidMet_of_run' 8 (by kernel_rfl) (by kernel_rfl)
theorem reads (os:Os) {H:Type} (enc:TypeId×Value→H):∃ places,DataW.whole enc Tryz.prog ((jc os).forCall (fun _ _=>0) ⟨#[],#[.agg #[.int .u8 0,.int .u8 0,.int .u8 0,.int .u8 0,.int .u8 0,.int .u8 0,.int .u8 0,.int .u8 0,.int .u8 0,.int .u8 0,.int .u8 0,.int .u8 0,.int .u8 0,.int .u8 0,.int .u8 0,.int .u8 0,.int .u8 0,.int .u8 0,.int .u8 0,.int .u8 0,.int .u8 0,.int .u8 0,.int .u8 0,.int .u8 0,.int .u8 0,.int .u8 0,.int .u8 0,.int .u8 0,.int .u8 0,.int .u8 0,.int .u8 0,.int .u8 0],.agg (List.replicate 64 (Value.int .u8 0)).toArray,.int .u32 0,.agg #[.int .u8 0,.int .u8 0,.int .u8 0,.int .u8 0,.int .u8 0,.int .u8 0,.int .u8 0,.int .u8 0,.int .u8 0,.int .u8 0,.int .u8 0,.int .u8 0,.int .u8 0,.int .u8 0,.int .u8 0,.int .u8 0,.int .u8 0,.int .u8 0,.int .u8 0,.int .u8 0,.int .u8 0,.int .u8 0,.int .u8 0,.int .u8 0,.int .u8 0,.int .u8 0,.int .u8 0,.int .u8 0,.int .u8 0,.int .u8 0,.int .u8 0,.int .u8 0]],[]⟩).memory Tryz.f3.params.toList Rows.pkeskSealsSpec.vars false (#[.agg #[.int .u8 0,.int .u8 0,.int .u8 0,.int .u8 0,.int .u8 0,.int .u8 0,.int .u8 0,.int .u8 0,.int .u8 0,.int .u8 0,.int .u8 0,.int .u8 0,.int .u8 0,.int .u8 0,.int .u8 0,.int .u8 0,.int .u8 0,.int .u8 0,.int .u8 0,.int .u8 0,.int .u8 0,.int .u8 0,.int .u8 0,.int .u8 0,.int .u8 0,.int .u8 0,.int .u8 0,.int .u8 0,.int .u8 0,.int .u8 0,.int .u8 0,.int .u8 0],.agg (List.replicate 64 (Value.int .u8 0)).toArray,.int .u32 0,.agg #[.int .u8 0,.int .u8 0,.int .u8 0,.int .u8 0,.int .u8 0,.int .u8 0,.int .u8 0,.int .u8 0,.int .u8 0,.int .u8 0,.int .u8 0,.int .u8 0,.int .u8 0,.int .u8 0,.int .u8 0,.int .u8 0,.int .u8 0,.int .u8 0,.int .u8 0,.int .u8 0,.int .u8 0,.int .u8 0,.int .u8 0,.int .u8 0,.int .u8 0,.int .u8 0,.int .u8 0,.int .u8 0,.int .u8 0,.int .u8 0,.int .u8 0,.int .u8 0]]:Array Value).toList 8=some ([.agg [.lit (.int .u8 0),.lit (.int .u8 0),.lit (.int .u8 0),.lit (.int .u8 0),.lit (.int .u8 0),.lit (.int .u8 0),.lit (.int .u8 0),.lit (.int .u8 0),.lit (.int .u8 0),.lit (.int .u8 0),.lit (.int .u8 0),.lit (.int .u8 0),.lit (.int .u8 0),.lit (.int .u8 0),.lit (.int .u8 0),.lit (.int .u8 0),.lit (.int .u8 0),.lit (.int .u8 0),.lit (.int .u8 0),.lit (.int .u8 0),.lit (.int .u8 0),.lit (.int .u8 0),.lit (.int .u8 0),.lit (.int .u8 0),.lit (.int .u8 0),.lit (.int .u8 0),.lit (.int .u8 0),.lit (.int .u8 0),.lit (.int .u8 0),.lit (.int .u8 0),.lit (.int .u8 0),.lit (.int .u8 0)],.agg [.agg [.lit (.int .u8 0),.lit (.int .u8 0),.lit (.int .u8 0),.lit (.int .u8 0),.lit (.int .u8 0),.lit (.int .u8 0),.lit (.int .u8 0),.lit (.int .u8 0),.lit (.int .u8 0),.lit (.int .u8 0),.lit (.int .u8 0),.lit (.int .u8 0),.lit (.int .u8 0),.lit (.int .u8 0),.lit (.int .u8 0),.lit (.int .u8 0),.lit (.int .u8 0),.lit (.int .u8 0),.lit (.int .u8 0),.lit (.int .u8 0),.lit (.int .u8 0),.lit (.int .u8 0),.lit (.int .u8 0),.lit (.int .u8 0),.lit (.int .u8 0),.lit (.int .u8 0),.lit (.int .u8 0),.lit (.int .u8 0),.lit (.int .u8 0),.lit (.int .u8 0),.lit (.int .u8 0),.lit (.int .u8 0)],.agg [.lit (.int .u8 0),.lit (.int .u8 0),.lit (.int .u8 0),.lit (.int .u8 0),.lit (.int .u8 0),.lit (.int .u8 0),.lit (.int .u8 0),.lit (.int .u8 0),.lit (.int .u8 0),.lit (.int .u8 0),.lit (.int .u8 0),.lit (.int .u8 0),.lit (.int .u8 0),.lit (.int .u8 0),.lit (.int .u8 0),.lit (.int .u8 0),.lit (.int .u8 0),.lit (.int .u8 0),.lit (.int .u8 0),.lit (.int .u8 0),.lit (.int .u8 0),.lit (.int .u8 0),.lit (.int .u8 0),.lit (.int .u8 0),.lit (.int .u8 0),.lit (.int .u8 0),.lit (.int .u8 0),.lit (.int .u8 0),.lit (.int .u8 0),.lit (.int .u8 0),.lit (.int .u8 0),.lit (.int .u8 0)]],.lit (.int .u32 0),.agg [.lit (.int .u8 0),.lit (.int .u8 0),.lit (.int .u8 0),.lit (.int .u8 0),.lit (.int .u8 0),.lit (.int .u8 0),.lit (.int .u8 0),.lit (.int .u8 0),.lit (.int .u8 0),.lit (.int .u8 0),.lit (.int .u8 0),.lit (.int .u8 0),.lit (.int .u8 0),.lit (.int .u8 0),.lit (.int .u8 0),.lit (.int .u8 0),.lit (.int .u8 0),.lit (.int .u8 0),.lit (.int .u8 0),.lit (.int .u8 0),.lit (.int .u8 0),.lit (.int .u8 0),.lit (.int .u8 0),.lit (.int .u8 0),.lit (.int .u8 0),.lit (.int .u8 0),.lit (.int .u8 0),.lit (.int .u8 0),.lit (.int .u8 0),.lit (.int .u8 0),.lit (.int .u8 0),.lit (.int .u8 0)]],[],places) :=
 ⟨[],by kernel_rfl⟩
set_option maxRecDepth 100000 in
theorem Ac (os:Os) (started:os.Started) (H:Type) (enc:TypeId×Value→H) (F:Stop.Interp) :
  ReturnsInHanded {} Tryz.checked os 3 .any ((OpenSpec.ofChange Rows.pkeskSealsSpec).preRow enc Tryz.prog Tryz.f3 Rows.pkeskSealsRow.domain false Rows.pkeskSealsRow.laid) (((OpenSpec.ofChange Rows.pkeskSealsSpec).at F).post enc Tryz.prog Tryz.f3 false true false false):=by
 obtain ⟨places,hx⟩:=reads os enc
 refine returnsInHanded_of_row (C:=Tryz.checked) (s:=OpenSpec.ofChange Rows.pkeskSealsSpec) own started (by kernel_rfl) Tryz.func3
  (witness_row_at (enc:=enc) (C:=Tryz.checked) false (jc os) #[.agg #[.int .u8 0,.int .u8 0,.int .u8 0,.int .u8 0,.int .u8 0,.int .u8 0,.int .u8 0,.int .u8 0,.int .u8 0,.int .u8 0,.int .u8 0,.int .u8 0,.int .u8 0,.int .u8 0,.int .u8 0,.int .u8 0,.int .u8 0,.int .u8 0,.int .u8 0,.int .u8 0,.int .u8 0,.int .u8 0,.int .u8 0,.int .u8 0,.int .u8 0,.int .u8 0,.int .u8 0,.int .u8 0,.int .u8 0,.int .u8 0,.int .u8 0,.int .u8 0],.agg (List.replicate 64 (Value.int .u8 0)).toArray,.int .u32 0,.agg #[.int .u8 0,.int .u8 0,.int .u8 0,.int .u8 0,.int .u8 0,.int .u8 0,.int .u8 0,.int .u8 0,.int .u8 0,.int .u8 0,.int .u8 0,.int .u8 0,.int .u8 0,.int .u8 0,.int .u8 0,.int .u8 0,.int .u8 0,.int .u8 0,.int .u8 0,.int .u8 0,.int .u8 0,.int .u8 0,.int .u8 0,.int .u8 0,.int .u8 0,.int .u8 0,.int .u8 0,.int .u8 0,.int .u8 0,.int .u8 0,.int .u8 0,.int .u8 0]] rfl (by kernel_rfl) (by kernel_rfl) (by kernel_rfl)
   (OpenSpec.preRow_of_cond 8 hx (by kernel_rfl) (fun k hk=>by cases hk) (by kernel_rfl) (uY os))) ?_
 intro W base args ds gs before hval hW _ hcond hs hL hsh _
 exact contract H enc W base args ds gs before hval hW hs hsh hL
theorem said:Rows.PkeskSealsSaid :=
 OpenClaim.holds_of_cond 3 Tryz.f3 rfl rfl rfl rfl rfl rfl rfl ⟨rfl,rfl,rfl,rfl,rfl⟩ rfl rfl rfl rfl rfl (by kernel_rfl) Tryz.func3 (by kernel_rfl)
  (of_decide_eq_true (by kernel_rfl)) (by unfold Func.isWrapper; first | (rw [if_pos (by decide +kernel)]; kernel_rfl) | (rw [if_neg (by decide +kernel)]; exact ⟨rfl,rfl⟩))
  (fun os started H enc _ F=>by rw [OpenClaim.pre_eq_preRow]; exact Ac os started H enc F)
theorem plain (f:FuncId) (fn:Func) (hf:Tryz.pinned.checked.prog.funcNamed "postilion/postilionlaw15.PkeskSeals" = some f) (hfn:Tryz.pinned.checked.prog.funcs[f]?=some fn) :
  false=Tryz.pinned.checked.prog.looks [] ∧ ∀ (j:Nat) t,fn.params[j]?=some t→Tryz.pinned.checked.prog.wantsStandIn t=false:=by
 obtain rfl:f=3:=Option.some.inj ((show Tryz.prog.funcNamed "postilion/postilionlaw15.PkeskSeals" = some 3 by kernel_rfl).symm.trans hf) |>.symm
 obtain rfl:fn=Tryz.f3:=(Option.some.inj (Tryz.func3.symm.trans hfn)).symm
 refine ⟨by kernel_rfl,fun j t ht => ?_⟩
 rw [Tryz.params3] at ht
 have hm:=Array.mem_of_getElem? ht
 simp only [List.mem_toArray,List.mem_cons,List.not_mem_nil,or_false] at hm
 rcases hm with rfl | rfl | rfl | rfl <;> exact (show Tryz.prog.wantsStandIn _=false by kernel_rfl)
theorem card:Rows.PkeskSealsCardSaid :=
 Claim7.holds_tied_plain_at .later [] _ _ _ _ said (fun _ h=>by cases h) (by kernel_rfl) (fun _ h=>by cases h) pkeskSeals_row_tie rfl ⟨rfl,rfl⟩ (by kernel_rfl) rfl plain (by kernel_rfl)
#print axioms card
end Go.Proofs.YtajppfmjbkebfaaGreatDoor.pkeskSeals
