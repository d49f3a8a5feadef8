/- THE CARD OF BuildExamples: for every input, in every world in which the listed tables read as the program's text lays them, the call returns true, and what was there before it has not turned. Conditions: the row's own (the listed package-level variables, tied to the program's text). -/
import Derived.Test.YtadgpgofcjpnjaaGreatDoorZK18
set_option linter.unusedVariables false
set_option linter.defProp false
set_option linter.unusedSimpArgs false
set_option maxRecDepth 100000
set_option maxHeartbeats 16000000
namespace Go.Proofs.YtadgpgofcjpnjaaGreatDoor.cBuildExamples
open Go.Proofs.Tryz
open Go.ChangeShapes Go.WideShapes Go.ChangeAt Go.RowKit Go.Lib
open Go.WideMaps Go.WideElems
open Go.ChangeMaps (open_string shut_string)
def contract (H:Type)(enc:TypeId×Value->H)(W:World)(base:Nat)(args:Array Value)(ds gs:List (DataW H))(before:List MemPlace)
  (zV:∀ (j:Nat) t v,f11.params[j]?=some t->args[j]?=some v->Value.okWide prog W .any base t v)
  (hW:DataW.Whole enc prog f11.params.toList Rows.buildExamplesSpec.vars false W args.toList ds gs before)
  (hsz:(DataW.weightsEach prog (f11.params.toList++(OpenSpec.ofChange Rows.buildExamplesSpec).bare.plain.varTypes prog) (ds++gs)).all (· <= reachBytes)=true) :
  Calls prog 11 args W fun e W'=>∃ v,e=.returned v/\Rows.buildExamplesSpec.post enc prog f11 false true false false W args v W':=by
 have hW':=hW;obtain⟨p,q,hA0,hV,rfl,hfz,hnd⟩:=hW;have hA:DataW.TrodAll enc prog W 0 (fun _=>true) true f11.params.toList args.toList ds p:=hA0;rw[Tryz.params11] at hA zV hsz;obtain⟨hargs,rfl,rfl⟩:=trodAll_nil hA;obtain rfl:args=#[]:=by cases args;simp_all
 obtain⟨rfl,rfl⟩:=trodVars_none hV;clear hA0;simp only[List.append_nil,List.nil_append] at hW';have walk:=zuL W;refine walk.mono fun e W' ⟨he,hg⟩=>?_;subst he;have hb:=below_grown hg (zqab _) (by simp);exact⟨_,rfl,zei (pa:=[]) (pv:=[]) hW' (fun _ _ _=>trodAll_cons_mk (shut_bool underlying4 _) trodAll_mk0) (trodAll_mk0) rfl hb⟩
def laid_met (os:Os):laidMet prog Rows.buildExamplesRow.laid ((laidWorld os).forCall (fun _ _=>0) ⟨#[],#[],[]⟩).memory :=
 laidMet_of_run' 8 (by kernel_rfl) (by kernel_rfl)
def reads (os:Os){H:Type}(enc:TypeId×Value->H):∃ places,DataW.whole enc prog ((laidWorld os).forCall (fun _ _=>0) ⟨#[],#[],[]⟩).memory f11.params.toList Rows.buildExamplesSpec.vars false (#[]:Array Value).toList 8=some ([],[],places) :=
 ⟨[],by kernel_rfl⟩
def lifted (os:Os)(started:os.Started)(H:Type)(enc:TypeId×Value->H)(F:Stop.Interp) :
  ReturnsInHanded {} Tryz.checked os 11 .any ((OpenSpec.ofChange Rows.buildExamplesSpec).preRow enc prog f11 Rows.buildExamplesRow.domain false Rows.buildExamplesRow.laid) (((OpenSpec.ofChange Rows.buildExamplesSpec).at F).post enc prog f11 false true false false):=by
 obtain⟨places,hx⟩:=reads os enc
 refine returnsInHanded_of_row (C:=Tryz.checked) (s:=OpenSpec.ofChange Rows.buildExamplesSpec) own started (by kernel_rfl) func11
  (witness_row_at (enc:=enc) (C:=Tryz.checked) false (laidWorld os) #[] rfl (by kernel_rfl) (by kernel_rfl) (by kernel_rfl)
   (OpenSpec.preRow_of_cond 8 hx (by kernel_rfl) (fun k hk=>by cases hk) (by kernel_rfl) (laid_met os))) ?_
 exact zQaq
def closed:joinedFacts Tryz.pinned.checked.prog 11 f11 (OpenSpec.ofChange Rows.buildExamplesSpec).bare Rows.buildExamplesRow=true:=by kernel_rfl
def said:Rows.BuildExamplesSaid :=
 OpenClaim.holds_of_cond 11 f11 rfl rfl rfl rfl rfl rfl rfl ⟨rfl,rfl,rfl,rfl,rfl⟩ rfl rfl rfl rfl rfl (by kernel_rfl) func11 closed
  (of_decide_eq_true (by kernel_rfl)) (by unfold Func.isWrapper;first|(rw[if_pos (by decide +kernel)];kernel_rfl)|(rw[if_neg (by decide +kernel)];exact⟨rfl,rfl⟩))
  (fun os started H enc _ F=>by rw[OpenClaim.pre_eq_preRow];exact lifted os started H enc F)
def plain (f:FuncId)(fn:Func)(hf:Tryz.pinned.checked.prog.funcNamed "abugida/abugidalaw09.BuildExamples" = some f) (hfn:Tryz.pinned.checked.prog.funcs[f]?=some fn) :
  true=Tryz.pinned.checked.prog.looks []/\∀ (j:Nat) t,fn.params[j]?=some t->Tryz.pinned.checked.prog.wantsStandIn t=false:=by
 obtain rfl:f=11:=Option.some.inj ((show prog.funcNamed "abugida/abugidalaw09.BuildExamples" = some 11 by kernel_rfl).symm.trans hf) |>.symm;obtain rfl:fn=f11:=(Option.some.inj (func11.symm.trans hfn)).symm;refine⟨by kernel_rfl,fun j t ht=>?_⟩;rw[Tryz.params11] at ht;simp at ht
def card:Rows.BuildExamplesCardSaid :=
 Claim7.holds_tied_plain_at .later [] _ _ _ _ said (fun _ h=>by cases h) (by kernel_rfl) (fun _ h=>by cases h) buildExamples_row_tie rfl ⟨rfl,rfl⟩ (by kernel_rfl) rfl plain (by kernel_rfl)
end Go.Proofs.YtadgpgofcjpnjaaGreatDoor.cBuildExamples
