/- THE CARD OF BuildLetters: for every input, in every world in which the listed tables read as the program's text lays them, the call returns true, and what was there before it has not turned. Conditions: the row's own (the listed package-level variables, tied to the program's text). -/
import Derived.Test.YtadgpgofcjpnjaaGreatDoorZK21
import Derived.Test.YtadgpgofcjpnjaaGreatDoorZK50
set_option linter.unusedVariables false
set_option linter.defProp false
set_option linter.unusedSimpArgs false
set_option maxRecDepth 100000
set_option maxHeartbeats 16000000
namespace Go.Proofs.YtadgpgofcjpnjaaGreatDoor.cBuildLetters
open Go.Proofs.Tryz
open Go.ChangeShapes Go.WideShapes Go.ChangeAt Go.RowKit Go.Lib
open Go.WideMaps Go.WideElems
open Go.ChangeMaps (open_string shut_string)
def contract (H:Type)(enc:TypeId×Value->H)(W:World)(base:Nat)(args:Array Value)(ds gs:List (DataW H))(before:List MemPlace)
  (zV:∀ (j:Nat) t v,f4.params[j]?=some t->args[j]?=some v->Value.okWide prog W .any base t v)
  (hW:DataW.Whole enc prog f4.params.toList Rows.buildLettersSpec.vars false W args.toList ds gs before)
  (hsz:(DataW.weightsEach prog (f4.params.toList++(OpenSpec.ofChange Rows.buildLettersSpec).bare.plain.varTypes prog) (ds++gs)).all (· <= reachBytes)=true) :
  Calls prog 4 args W fun e W'=>∃ v,e=.returned v/\Rows.buildLettersSpec.post enc prog f4 false true false false W args v W':=by
 have hW':=hW;obtain⟨p,q,hA0,hV,rfl,hfz,hnd⟩:=hW;have hA:DataW.TrodAll enc prog W 0 (fun _=>true) true f4.params.toList args.toList ds p:=hA0;rw[Tryz.params4] at hA zV hsz;obtain⟨v0,vs0,d0,ds0,p0,q0,hargs0,rfl,rfl,h0,r0⟩:=trodAll_cons hA;obtain⟨v1,vs1,d1,ds1,p1,q1,rfl,rfl,rfl,h1,r1⟩:=trodAll_cons r0;obtain⟨v2,vs2,d2,ds2,p2,q2,rfl,rfl,rfl,h2,r2⟩:=trodAll_cons r1;obtain⟨v3,vs3,d3,ds3,p3,q3,rfl,rfl,rfl,h3,r3⟩:=trodAll_cons r2;obtain⟨rfl,rfl,rfl⟩:=trodAll_nil r3;obtain rfl:args=#[v0,v1,v2,v3]:=by cases args;simp_all
 obtain⟨rfl,rfl⟩:=trodVars_none hV;obtain⟨s0,rfl,rfl,rfl,hs0⟩:=open_int underlying3 (zV 0 3 v0 rfl rfl) h0;clear hA0;simp only[List.append_nil,List.nil_append] at hW';have hlt1:∀ x∈p1,x.block<W.heap.size:=fun x hx=>by simpa using hW'.lt x (by simp[hx])
 obtain⟨zs1,hr1,bl1⟩:=zcl (zV 1 22 v1 rfl rfl) h1 (fun y hy=>by have:=List.all_eq_true.1 hsz _ (DataW.weights_mem_each (j:=1) rfl rfl _ hy);simpa using this);have hlt2:∀ x∈p2,x.block<W.heap.size:=fun x hx=>by simpa using hW'.lt x (by simp[hx])
 obtain⟨zs2,hr2,bl2⟩:=zcl (zV 2 22 v2 rfl rfl) h2 (fun y hy=>by have:=List.all_eq_true.1 hsz _ (DataW.weights_mem_each (j:=2) rfl rfl _ hy);simpa using this);have hlt3:∀ x∈p3,x.block<W.heap.size:=fun x hx=>by simpa using hW'.lt x (by simp[hx])
 obtain⟨zs3,hr3,bl3⟩:=zcl (zV 3 22 v3 rfl rfl) h3 (fun y hy=>by have:=List.all_eq_true.1 hsz _ (DataW.weights_mem_each (j:=3) rfl rfl _ hy);simpa using this);have walk:=zqz s0 zs1 v1 hr1 bl1 zs2 zs3 v2 v3 hr2 hr3 bl2 bl3;refine walk.mono fun e W' ⟨he,hg⟩=>?_;subst he;have hb:=below_grown hg (zqab _) (by simp);exact⟨_,rfl,zei (pa:=[]++(p1++(p2++(p3++[])))) (pv:=[]) hW' (fun _ _ _=>trodAll_cons_mk (shut_bool underlying4 _) trodAll_mk0) (trodAll_cons_mk (shut_int underlying3 hs0) (trodAll_cons_mk (zaT (by kernel_rfl) (of_decide_eq_true (by kernel_rfl)) h1 hb hlt1) (trodAll_cons_mk (zaT (by kernel_rfl) (of_decide_eq_true (by kernel_rfl)) h2 hb hlt2) (trodAll_cons_mk (zaT (by kernel_rfl) (of_decide_eq_true (by kernel_rfl)) h3 hb hlt3) trodAll_mk0)))) rfl hb⟩
def laid_met (os:Os):laidMet prog Rows.buildLettersRow.laid ((laidWorld os).forCall (fun _ _=>0) ⟨#[],#[Value.int .i64 0,Value.slice none 0 0,Value.slice none 0 0,Value.slice none 0 0],[]⟩).memory :=
 laidMet_of_run' 8 (by kernel_rfl) (by kernel_rfl)
def reads (os:Os){H:Type}(enc:TypeId×Value->H):∃ places,DataW.whole enc prog ((laidWorld os).forCall (fun _ _=>0) ⟨#[],#[Value.int .i64 0,Value.slice none 0 0,Value.slice none 0 0,Value.slice none 0 0],[]⟩).memory f4.params.toList Rows.buildLettersSpec.vars false (#[Value.int .i64 0,Value.slice none 0 0,Value.slice none 0 0,Value.slice none 0 0]:Array Value).toList 8=some ([.lit (.int .i64 0),.nil,.nil,.nil],[],places) :=
 ⟨[],by kernel_rfl⟩
def lifted (os:Os)(started:os.Started)(H:Type)(enc:TypeId×Value->H)(F:Stop.Interp) :
  ReturnsInHanded {} Tryz.checked os 4 .any ((OpenSpec.ofChange Rows.buildLettersSpec).preRow enc prog f4 Rows.buildLettersRow.domain false Rows.buildLettersRow.laid) (((OpenSpec.ofChange Rows.buildLettersSpec).at F).post enc prog f4 false true false false):=by
 obtain⟨places,hx⟩:=reads os enc
 refine returnsInHanded_of_row (C:=Tryz.checked) (s:=OpenSpec.ofChange Rows.buildLettersSpec) own started (by kernel_rfl) func4
  (witness_row_at (enc:=enc) (C:=Tryz.checked) false (laidWorld os) #[Value.int .i64 0,Value.slice none 0 0,Value.slice none 0 0,Value.slice none 0 0] rfl (by kernel_rfl) (by kernel_rfl) (by kernel_rfl)
   (OpenSpec.preRow_of_cond 8 hx (by kernel_rfl) (fun k hk=>by cases hk) (by kernel_rfl) (laid_met os))) ?_
 exact zQaq
def closed:joinedFacts Tryz.pinned.checked.prog 4 f4 (OpenSpec.ofChange Rows.buildLettersSpec).bare Rows.buildLettersRow=true:=by kernel_rfl
def said:Rows.BuildLettersSaid :=
 OpenClaim.holds_of_cond 4 f4 rfl rfl rfl rfl rfl rfl rfl ⟨rfl,rfl,rfl,rfl,rfl⟩ rfl rfl rfl rfl rfl (by kernel_rfl) func4 closed
  (of_decide_eq_true (by kernel_rfl)) (by unfold Func.isWrapper;first|(rw[if_pos (by decide +kernel)];kernel_rfl)|(rw[if_neg (by decide +kernel)];exact⟨rfl,rfl⟩))
  (fun os started H enc _ F=>by rw[OpenClaim.pre_eq_preRow];exact lifted os started H enc F)
def plain (f:FuncId)(fn:Func)(hf:Tryz.pinned.checked.prog.funcNamed "abugida/abugidalaw09.BuildLetters" = some f) (hfn:Tryz.pinned.checked.prog.funcs[f]?=some fn) :
  true=Tryz.pinned.checked.prog.looks []/\∀ (j:Nat) t,fn.params[j]?=some t->Tryz.pinned.checked.prog.wantsStandIn t=false:=by
 obtain rfl:f=4:=Option.some.inj ((show prog.funcNamed "abugida/abugidalaw09.BuildLetters" = some 4 by kernel_rfl).symm.trans hf) |>.symm;obtain rfl:fn=f4:=(Option.some.inj (func4.symm.trans hfn)).symm;refine⟨by kernel_rfl,fun j t ht=>?_⟩;rw[Tryz.params4] at ht;have hm:=Array.mem_of_getElem? ht;simp at hm;have hm:t=3∨t=22:=by grind
 rcases hm with rfl|rfl;exact(show prog.wantsStandIn 3=false by kernel_rfl);exact zQaW
def card:Rows.BuildLettersCardSaid :=
 Claim7.holds_tied_plain_at .later [] _ _ _ _ said (fun _ h=>by cases h) (by kernel_rfl) (fun _ h=>by cases h) buildLetters_row_tie rfl ⟨rfl,rfl⟩ (by kernel_rfl) rfl plain (by kernel_rfl)
end Go.Proofs.YtadgpgofcjpnjaaGreatDoor.cBuildLetters
