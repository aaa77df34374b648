import Derived.Test.YtihmgigfkmofnaaGreatDoorG42
import Derived.Test.YtihmgigfkmofnaaGreatDoorTMdF
import Derived.Test.YtihmgigfkmofnaaGreatDoorTie
import Derived.Test.YtihmgigfkmofnaaGreatDoorCards
import Derived.SevenTiedAt
import Derived.Deep.DeepHandedRow
import Derived.Deep.DeepWitnessRowRef
set_option maxRecDepth 100000
open Go.Proofs.Tryz
namespace Go.Proofs.YtihmgigfkmofnaaGreatDoor
open Go.ChangeShapes Go.WideShapes Go.ChangeAt Go.WideMaps Go.WideElems Go.RowKit Go.Joins
theorem model_lifted(os:Os)(started:os.Started)(H:Type)(enc:TypeId × Value→H):ReturnsInHanded {} Tryz.checked os 4 .any (fun w args=>(Rows.treeModelSpec.pre enc prog Tryz.f4 [] false w args∧laidMetH prog Rows.treeModelRow.laid w)∧sizedMet enc prog Tryz.f4 (OpenSpec.ofChange Rows.treeModelSpec) false w args) (Rows.treeModelSpec.post enc prog Tryz.f4 false true false false):=by
 refine returnsInHanded_of_change_and (C:=Tryz.checked) (X:=fun w _=>laidMetH prog Rows.treeModelRow.laid w) (fun _ _ _ hh h=>h.of_heap hh) own started (by kernel_rfl) func4
  (ChangeSpec.witness_shaped (enc:=enc) (C:=Tryz.checked) (os:=os) (X:=fun w _=>laidMetH prog Rows.treeModelRow.laid w) false (World.laidAll prog os Rows.treeModelRow.laid) #[.agg #[.int .i64 0,.slice none 0 0]] 8 (World.laidAll_os _ _ _)
   (World.shaped_of_ZipB (by kernel_rfl) (by kernel_rfl)) (by kernel_rfl) (by kernel_rfl) (by kernel_rfl)
   (by rw [MakeChecks.laidMetH_plain _ _ _ (by kernel_rfl)];exact laidMet_laidAll _ (by kernel_rfl) (by kernel_rfl))) ?_
 intro W base args ds gs before Uq hW _ Yz hL _;have Yr:∀ (j:Nat) t v,Tryz.f4.params[j]?=some t→args[j]?=some v→Value.okWide prog W .any base t v:=Uq;have cx:(DataW.weightsEach prog (Tryz.f4.params.toList++Rows.treeModelSpec.plain.varTypes prog) (ds++gs)).all (·≤reachBytes)=true:=Yz;have XA:=hW;obtain ⟨p,q,ZY,hV,rfl,hfz,jz⟩:=hW;have hA:DataW.TrodAll enc prog W 0 (fun _=>true) true Tryz.f4.params.toList args.toList ds p:=ZY
 rw [Tryz.params4] at hA Yr cx;obtain ⟨v0,d0,rfl,rfl,h0⟩:=trodAll_one hA;obtain ⟨rfl,rfl⟩:=trodVars_none hV;have h0k:=h0;have bP:=hA.lt;have dj:(DataW.weightsEach prog [37] [d0]).all (·≤reachBytes)=true:=cx;obtain ⟨rM,sv,ks,rfl,jA,qg,Xw⟩:=T.Oi (Yr 0 37 v0 rfl rfl) h0 (fun z hz=>of_decide_eq_true (List.all_eq_true.1 dj z (by simp [DataW.weightsEach,hz])))
 clear ZY Uq Yz;simp only [List.append_nil] at XA;obtain ⟨A,hE,hG,si,Wk⟩:=T.wF hL;refine (T.KM rM sv ks W hE hG si Wk jA qg Xw).mono fun e W' ⟨he,hb⟩=>?_
 subst he;refine ⟨_,rfl,_,_,_,[],p,[],XA,?_,?_,rfl,hb.frame _,fun h=>by cases h⟩
 ·exact trodAll_mk1 (shut_bool underlying4 _)
 ·exact trodAll_mk1 (Below.trod laidOut (by kernel_rfl) (of_decide_eq_true (by kernel_rfl)) h0k hb bP)
theorem model_holds:Rows.TreeModelSaid :=
 OpenClaim.holds_of_wide 4 Tryz.f4 rfl rfl rfl rfl rfl rfl rfl ⟨rfl,rfl,rfl,rfl,rfl⟩ rfl rfl rfl rfl rfl (by kernel_rfl) func4 DK
  (of_decide_eq_true (by kernel_rfl)) (by unfold Func.isWrapper;first | (rw [if_pos (by decide +kernel)];kernel_rfl) | (rw [if_neg (by decide +kernel)];exact ⟨rfl,rfl⟩))
  (fun os started H enc _=>model_lifted os started H enc)
theorem model_card_holds:Rows.TreeModelCardSaid :=
 Claim7.holds_tied_plain_at .later [] _ _ _ _
  model_holds (fun _ h=>by cases h) (by kernel_rfl) (fun _ h=>by cases h) treeModel_row_tie rfl ⟨rfl,rfl⟩ (by kernel_rfl) rfl
  (fun f fn hf hfn=>by
   obtain rfl:f=4:=Option.some.inj ((show prog.funcNamed "copse/copselaw10.TreeModel" = some 4 by kernel_rfl).symm.trans hf) |>.symm
   obtain rfl:fn=Tryz.f4:=(Option.some.inj (func4.symm.trans hfn)).symm;exact ⟨by kernel_rfl,fun j t ht=>by
    rw [Tryz.params4] at ht;have hm:t ∈ [37]:=by simpa using Array.mem_of_getElem? ht
    have dj:([37].all fun u=>!prog.wantsStandIn u)=true:=by kernel_rfl
    exact (show prog.wantsStandIn t=false by simpa using List.all_eq_true.1 dj t hm)⟩)
  (by kernel_rfl)
#print axioms model_card_holds
end Go.Proofs.YtihmgigfkmofnaaGreatDoor
