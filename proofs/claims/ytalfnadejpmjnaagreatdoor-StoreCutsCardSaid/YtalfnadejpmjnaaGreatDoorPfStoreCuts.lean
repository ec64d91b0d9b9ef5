/- StoreCuts: for every list of acts the law returns true, and it reads as before. No conditions but the laid tables. -/
import Derived.Test.YtalfnadejpmjnaaGreatDoorCards
import Derived.Test.YtalfnadejpmjnaaGreatDoorTie
import Derived.Test.YtalfnadejpmjnaaGreatDoorNStUp
import Derived.ChangeMaps5
import Derived.Deep.DeepHandedRow
import Derived.Lib.LaidTab
set_option linter.unusedVariables false
set_option linter.unusedSimpArgs false
set_option maxRecDepth 100000
set_option maxHeartbeats 25600000
namespace Go.Proofs.YtalfnadejpmjnaaGreatDoor.storeCuts
open Go.ChangeShapes Go.WideShapes Go.ChangeAt Go.RowKit
open Go.ChangeMaps (open_string)
def firstCells:Array Value:=(Go.Pinned.utf8FirstZ.map fun (k:Nat)=>Value.int .u8 (k:Int)).toArray
def rangeCells:Array Value:=(([128,191,160,191,128,159,144,191,128,143]:List Nat)++List.replicate 22 0).map (fun (k:Nat)=>Value.int .u8 (k:Int)) |>.toArray
def args0:Array Value:=#[.slice none 0 0]
def data0 {H:Type} : List (DataW H):=[.nil]
def setCellsTo (cs:Array Value):Obj→Obj
 | .cells _ t frozen=>.cells cs t frozen
 | o=>o
def tabName:String:=Rows.storeCutsRow.named.getD 2 default
theorem gTab:Tryz.prog.globalNamed tabName=some 2:=by kernel_rfl
theorem gTabType:(Tryz.prog.globals[2]?).map (·.type)=some 238:=by kernel_rfl
theorem cellsT:Tryz.prog.cellsOf 238=64:=by kernel_rfl
theorem cellsE:Tryz.prog.cellsOf 174=1:=by kernel_rfl
theorem table {W:World}(h:laidMetH Tryz.prog Rows.storeCutsRow.laid W):Tab W:=by
 have ht:Lib.TabIs Tryz.prog W tabName .u32 (Sha.kk.map fun (k:Nat)=>(k:Int)):=
  Lib.tabIs_of_head (rest:=Rows.storeCutsRow.laid.tail) gTab gTabType Tryz.underlying238 Tryz.underlying174 cellsE cellsT h
 intro t htl
 have:=ht.cell gTab t (by rw[List.length_map];exact htl)
 rw[this]
 have hl:t<Sha.kk.length:=htl
 simp[List.getD,hl]
noncomputable def laidWorld (os:Os):World:=
 { World.holding Tryz.prog os ⟨#[],#[],[]⟩with heap:=((Array.modify (World.holding Tryz.prog os ⟨#[],#[],[]⟩).heap 0 (setCellsTo firstCells)).modify 1 (setCellsTo rangeCells)).modify 2 (setCellsTo (Sha.kk.map fun (k:Nat)=>Value.int .u32 (k:Int)).toArray) }
theorem yta (os:Os):laidMet Tryz.prog Rows.storeCutsRow.laid ((laidWorld os).forCall (fun _ _=>0) ⟨#[],args0,[]⟩).memory:=
 laidMet_of_run' 8 (by kernel_rfl) (by kernel_rfl)
theorem reads (os:Os){H:Type}(enc:TypeId×Value→H) :∃places,DataW.whole enc Tryz.prog ((laidWorld os).forCall (fun _ _=>0) ⟨#[],args0,[]⟩).memory Tryz.f6.params.toList Rows.storeCutsSpec.vars false args0.toList 8=some (data0,[],places):=
 ⟨[],by kernel_rfl⟩
theorem lifted (os:Os)(started:os.Started)(H:Type)(enc:TypeId×Value→H)(F:Stop.Interp):
 ReturnsInHanded {} Tryz.checked os 6 .any ((OpenSpec.ofChange Rows.storeCutsSpec).preRow enc Tryz.prog Tryz.f6 Rows.storeCutsRow.domain false Rows.storeCutsRow.laid) (((OpenSpec.ofChange Rows.storeCutsSpec).at F).post enc Tryz.prog Tryz.f6 false true false false):=by
 obtain⟨places,hx⟩:=reads os enc
 refine returnsInHanded_of_row (C:=Tryz.checked) (s:=OpenSpec.ofChange Rows.storeCutsSpec) Tryz.own started (by kernel_rfl) Tryz.func6
  (witness_row_at (enc:=enc) (C:=Tryz.checked) false (laidWorld os) args0 rfl (by kernel_rfl) (by kernel_rfl) (by kernel_rfl)
   (OpenSpec.preRow_of_cond 8 hx (by kernel_rfl) (fun k hk=>by cases hk) (by kernel_rfl) (yta os))) ?_
 intro W base args ds gs before hval hW _ _ hsz hL _ _
 have hW':=hW
 have hlt:=hW.lt
 obtain⟨p,q,hA0,hV,rfl,hfz,hnd⟩:=hW
 have hA:DataW.TrodAll enc Tryz.prog W 0 (fun _=>true) true Tryz.f6.params.toList args.toList ds p:=hA0
 have hval' :∀(j:Nat) t v,Tryz.f6.params[j]? = some t→args[j]? = some v→Value.okWide Tryz.prog W .any base t v:=hval
 rw[Tryz.params6]at hA hval' hsz
 obtain⟨v0,vs0,d0,ds0,p0,q0,hargs,rfl,rfl,h0,r0⟩:=trodAll_cons hA
 obtain⟨rfl,rfl,rfl⟩:=trodAll_nil r0
 obtain rfl:args=#[v0]:=by cases args;simp_all
 obtain⟨rfl,rfl⟩:=trodVars_none hV
 obtain⟨A_l,c_l,l,rfl,q_l,k_l⟩:=yls (hval' 0 22 v0 rfl rfl) h0 hsz (j:=0) rfl rfl
 exact(yiq A_l c_l l W k_l (table hL)).mono fun e W' ⟨he,hb⟩=>⟨_,he,ys9 rfl rfl (by rw[Tryz.params6];decide) hW' hb rfl⟩
theorem said:Rows.StoreCutsSaid:=
 OpenClaim.holds_of_cond 6 Tryz.f6 rfl rfl rfl rfl rfl rfl rfl ⟨rfl,rfl,rfl,rfl,rfl⟩ rfl rfl rfl rfl rfl (by kernel_rfl) Tryz.func6 (by kernel_rfl)
  (of_decide_eq_true (by kernel_rfl)) (by unfold Func.isWrapper;first|(rw[if_pos (by decide +kernel)];kernel_rfl)|(rw[if_neg (by decide +kernel)];exact⟨rfl,rfl⟩))
  (fun os started H enc _ F=>by rw[OpenClaim.pre_eq_preRow];exact lifted os started H enc F)
theorem plain (f:FuncId)(fn:Func)(hf:Tryz.pinned.checked.prog.funcNamed Rows.storeCutsRow.func=some f)(hfn:Tryz.pinned.checked.prog.funcs[f]? = some fn):
 false = Tryz.pinned.checked.prog.looks []∧∀(j:Nat) t,fn.params[j]? = some t→Tryz.pinned.checked.prog.wantsStandIn t=false:=by
 have e1:Tryz.prog.funcNamed Rows.storeCutsRow.func=some 6:=by kernel_rfl
 obtain rfl:f=6:=(Option.some.inj (e1.symm.trans hf)).symm
 obtain rfl:fn = Tryz.f6:=(Option.some.inj (Tryz.func6.symm.trans hfn)).symm
 refine⟨by kernel_rfl,fun j t ht=>?_⟩
 rw[Tryz.params6]at ht
 have hs_acts20:Tryz.prog.wantsStandIn 22=false:=by kernel_rfl
 have hm:=Array.mem_of_getElem? ht
 simp only[List.mem_toArray,List.mem_cons,List.not_mem_nil,or_false]at hm
 rw[hm];exact hs_acts20
theorem card:Rows.StoreCutsCardSaid:=
 Claim7.holds_tied_plain_at .later [] _ _ _ _ said (fun _ h=>by cases h) (by kernel_rfl) (fun _ h=>by cases h) storeCuts_row_tie rfl ⟨rfl,rfl⟩ (by kernel_rfl) rfl plain (by kernel_rfl)
theorem proved:Rows.StoreCutsCardSaid:=card
end Go.Proofs.YtalfnadejpmjnaaGreatDoor.storeCuts
