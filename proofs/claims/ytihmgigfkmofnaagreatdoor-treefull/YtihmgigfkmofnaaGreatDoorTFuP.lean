import Derived.Test.YtihmgigfkmofnaaGreatDoorG40
import Derived.Test.YtihmgigfkmofnaaGreatDoorTFuF
import Derived.Test.YtihmgigfkmofnaaGreatDoorTie
import Derived.Test.YtihmgigfkmofnaaGreatDoorCards
import Derived.SevenTiedAt
import Derived.Deep.DeepHandedRow
import Derived.Deep.DeepWitnessRowRef
set_option maxRecDepth 100000
open Go.Proofs.Tryz
namespace Go.Proofs.YtihmgigfkmofnaaGreatDoor
open Go.ChangeShapes Go.WideShapes Go.ChangeAt Go.WideMaps Go.WideElems Go.RowKit Go.Joins
theorem full_lifted(os:Os)(started:os.Started)(H:Type)(enc:TypeId × Value→H):ReturnsInHanded {} Tryz.checked os 7 .any (fun w args=>(Rows.treeFullSpec.pre enc prog Tryz.f7 [] false w args∧laidMetH prog Rows.treeFullRow.laid w)∧sizedMet enc prog Tryz.f7 (OpenSpec.ofChange Rows.treeFullSpec) false w args) (Rows.treeFullSpec.post enc prog Tryz.f7 false true false false):=by
 refine returnsInHanded_of_change_and (C:=Tryz.checked) (X:=fun w _=>laidMetH prog Rows.treeFullRow.laid w) (fun _ _ _ hh h=>h.of_heap hh) own started (by kernel_rfl) func7
  (ChangeSpec.witness_shaped (enc:=enc) (C:=Tryz.checked) (os:=os) (X:=fun w _=>laidMetH prog Rows.treeFullRow.laid w) false (World.laidAll prog os Rows.treeFullRow.laid) #[.agg #[.int .i64 0,.slice none 0 0]] 8 (World.laidAll_os _ _ _)
   (World.shaped_of_ZipB (by kernel_rfl) (by kernel_rfl)) (by kernel_rfl) (by kernel_rfl) (by kernel_rfl)
   (by rw [MakeChecks.laidMetH_plain _ _ _ (by kernel_rfl)];exact laidMet_laidAll _ (by kernel_rfl) (by kernel_rfl))) ?_
 intro W base args ds gs before UW hW _ Zi hL _;have Y8:∀ (j:Nat) t v,Tryz.f7.params[j]?=some t→args[j]?=some v→Value.okWide prog W .any base t v:=UW;have b8:(DataW.weightsEach prog (Tryz.f7.params.toList++Rows.treeFullSpec.plain.varTypes prog) (ds++gs)).all (·≤reachBytes)=true:=Zi;have Yb:=hW;obtain ⟨p,q,hA0,hV,rfl,X8,jw⟩:=hW;have hA:DataW.TrodAll enc prog W 0 (fun _=>true) true Tryz.f7.params.toList args.toList ds p:=hA0
 rw [Tryz.params7] at hA Y8 b8;obtain ⟨v0,d0,rfl,rfl,h0⟩:=trodAll_one hA;obtain ⟨rfl,rfl⟩:=trodVars_none hV;have h0k:=h0;have bK:=hA.lt;have df:(DataW.weightsEach prog [37] [d0]).all (·≤reachBytes)=true:=b8;obtain ⟨jZ,sv,ks,rfl,jx,p9,X7⟩:=T.OB (Y8 0 37 v0 rfl rfl) h0 (fun z hz=>of_decide_eq_true (List.all_eq_true.1 df z (by simp [DataW.weightsEach,hz])))
 clear hA0 UW Zi;simp only [List.append_nil] at Yb;obtain ⟨A,hE,hG,pz,M7⟩:=T.ze hL;refine (T.Qo jZ sv ks W hE hG pz M7 jx p9 X7).mono fun e W' ⟨he,hb⟩=>?_
 subst he;refine ⟨_,rfl,_,_,_,[],p,[],Yb,?_,?_,rfl,hb.frame _,fun h=>by cases h⟩
 ·exact trodAll_mk1 (shut_bool underlying4 _)
 ·exact trodAll_mk1 (Below.trod laidOut (by kernel_rfl) (of_decide_eq_true (by kernel_rfl)) h0k hb bK)
theorem full_holds:Rows.TreeFullSaid :=
 OpenClaim.holds_of_wide 7 Tryz.f7 rfl rfl rfl rfl rfl rfl rfl ⟨rfl,rfl,rfl,rfl,rfl⟩ rfl rfl rfl rfl rfl (by kernel_rfl) func7 Hg
  (of_decide_eq_true (by kernel_rfl)) (by unfold Func.isWrapper;first | (rw [if_pos (by decide +kernel)];kernel_rfl) | (rw [if_neg (by decide +kernel)];exact ⟨rfl,rfl⟩))
  (fun os started H enc _=>full_lifted os started H enc)
theorem full_card_holds:Rows.TreeFullCardSaid :=
 Claim7.holds_tied_plain_at .later [] _ _ _ _
  full_holds (fun _ h=>by cases h) (by kernel_rfl) (fun _ h=>by cases h) treeFull_row_tie rfl ⟨rfl,rfl⟩ (by kernel_rfl) rfl
  (fun f fn hf hfn=>by
   obtain rfl:f=7:=Option.some.inj ((show prog.funcNamed "copse/copselaw10.TreeFull" = some 7 by kernel_rfl).symm.trans hf) |>.symm
   obtain rfl:fn=Tryz.f7:=(Option.some.inj (func7.symm.trans hfn)).symm;exact ⟨by kernel_rfl,fun j t ht=>by
    rw [Tryz.params7] at ht;have hm:t ∈ [37]:=by simpa using Array.mem_of_getElem? ht
    have df:([37].all fun u=>!prog.wantsStandIn u)=true:=by kernel_rfl
    exact (show prog.wantsStandIn t=false by simpa using List.all_eq_true.1 df t hm)⟩)
  (by kernel_rfl)
#print axioms full_card_holds
end Go.Proofs.YtihmgigfkmofnaaGreatDoor
