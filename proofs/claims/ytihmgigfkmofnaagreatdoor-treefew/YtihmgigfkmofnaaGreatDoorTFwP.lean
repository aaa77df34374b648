import Derived.Test.YtihmgigfkmofnaaGreatDoorG40
import Derived.Test.YtihmgigfkmofnaaGreatDoorTFwF
import Derived.Test.YtihmgigfkmofnaaGreatDoorTie
import Derived.Test.YtihmgigfkmofnaaGreatDoorCards
import Derived.SevenTiedAt
import Derived.Deep.DeepHandedRow
import Derived.Deep.DeepWitnessRowRef
set_option maxRecDepth 100000
open Go.Proofs.Tryz
namespace Go.Proofs.YtihmgigfkmofnaaGreatDoor
open Go.ChangeShapes Go.WideShapes Go.ChangeAt Go.WideMaps Go.WideElems Go.RowKit Go.Joins
theorem few_lifted(os:Os)(started:os.Started)(H:Type)(enc:TypeId × Value→H):ReturnsInHanded {} Tryz.checked os 5 .any (fun w args=>(Rows.treeFewSpec.pre enc prog Tryz.f5 [] false w args∧laidMetH prog Rows.treeFewRow.laid w)∧sizedMet enc prog Tryz.f5 (OpenSpec.ofChange Rows.treeFewSpec) false w args) (Rows.treeFewSpec.post enc prog Tryz.f5 false true false false):=by
 refine returnsInHanded_of_change_and (C:=Tryz.checked) (X:=fun w _=>laidMetH prog Rows.treeFewRow.laid w) (fun _ _ _ hh h=>h.of_heap hh) own started (by kernel_rfl) func5
  (ChangeSpec.witness_shaped (enc:=enc) (C:=Tryz.checked) (os:=os) (X:=fun w _=>laidMetH prog Rows.treeFewRow.laid w) false (World.laidAll prog os Rows.treeFewRow.laid) #[.agg #[.int .i64 0,.slice none 0 0]] 8 (World.laidAll_os _ _ _)
   (World.shaped_of_ZipB (by kernel_rfl) (by kernel_rfl)) (by kernel_rfl) (by kernel_rfl) (by kernel_rfl)
   (by rw [MakeChecks.laidMetH_plain _ _ _ (by kernel_rfl)];exact laidMet_laidAll _ (by kernel_rfl) (by kernel_rfl))) ?_
 intro W base args ds gs before TY hW _ Yd hL _;have X7:∀ (j:Nat) t v,Tryz.f5.params[j]?=some t→args[j]?=some v→Value.okWide prog W .any base t v:=TY;have cp:(DataW.weightsEach prog (Tryz.f5.params.toList++Rows.treeFewSpec.plain.varTypes prog) (ds++gs)).all (·≤reachBytes)=true:=Yd;have Xg:=hW;obtain ⟨p,q,Zv,hV,rfl,hfz,ji⟩:=hW;have hA:DataW.TrodAll enc prog W 0 (fun _=>true) true Tryz.f5.params.toList args.toList ds p:=Zv
 rw [Tryz.params5] at hA X7 cp;obtain ⟨v0,d0,rfl,rfl,h0⟩:=trodAll_one hA;obtain ⟨rfl,rfl⟩:=trodVars_none hV;have h0k:=h0;have bX:=hA.lt;have cZ:(DataW.weightsEach prog [37] [d0]).all (·≤reachBytes)=true:=cp;obtain ⟨rN,sv,ks,rfl,jm,pC,Vz⟩:=T.NU (X7 0 37 v0 rfl rfl) h0 (fun z hz=>of_decide_eq_true (List.all_eq_true.1 cZ z (by simp [DataW.weightsEach,hz])))
 clear Zv TY Yd;simp only [List.append_nil] at Xg;obtain ⟨A,hE,hG,tG,VQ⟩:=T.Bg hL;refine (T.SW rN sv ks W hE hG tG VQ jm pC (fun s h=>⟨(Vz s h).1,(Vz s h).2.1⟩)).mono fun e W' ⟨he,hb⟩=>?_
 subst he;refine ⟨_,rfl,_,_,_,[],p,[],Xg,?_,?_,rfl,hb.frame _,fun h=>by cases h⟩
 ·exact trodAll_mk1 (shut_bool underlying4 _)
 ·exact trodAll_mk1 (Below.trod laidOut (by kernel_rfl) (of_decide_eq_true (by kernel_rfl)) h0k hb bX)
theorem few_holds:Rows.TreeFewSaid :=
 OpenClaim.holds_of_wide 5 Tryz.f5 rfl rfl rfl rfl rfl rfl rfl ⟨rfl,rfl,rfl,rfl,rfl⟩ rfl rfl rfl rfl rfl (by kernel_rfl) func5 Lh
  (of_decide_eq_true (by kernel_rfl)) (by unfold Func.isWrapper;first | (rw [if_pos (by decide +kernel)];kernel_rfl) | (rw [if_neg (by decide +kernel)];exact ⟨rfl,rfl⟩))
  (fun os started H enc _=>few_lifted os started H enc)
theorem few_card_holds:Rows.TreeFewCardSaid :=
 Claim7.holds_tied_plain_at .later [] _ _ _ _
  few_holds (fun _ h=>by cases h) (by kernel_rfl) (fun _ h=>by cases h) treeFew_row_tie rfl ⟨rfl,rfl⟩ (by kernel_rfl) rfl
  (fun f fn hf hfn=>by
   obtain rfl:f=5:=Option.some.inj ((show prog.funcNamed "copse/copselaw10.TreeFew" = some 5 by kernel_rfl).symm.trans hf) |>.symm
   obtain rfl:fn=Tryz.f5:=(Option.some.inj (func5.symm.trans hfn)).symm;exact ⟨by kernel_rfl,fun j t ht=>by
    rw [Tryz.params5] at ht;have hm:t ∈ [37]:=by simpa using Array.mem_of_getElem? ht
    have cZ:([37].all fun u=>!prog.wantsStandIn u)=true:=by kernel_rfl
    exact (show prog.wantsStandIn t=false by simpa using List.all_eq_true.1 cZ t hm)⟩)
  (by kernel_rfl)
#print axioms few_card_holds
end Go.Proofs.YtihmgigfkmofnaaGreatDoor
