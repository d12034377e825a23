/-
  THE LAW 'Counted', PROVED: whatever numbers come in (a list, and two more), the law answers true, and all three read behind the call as they read before; the tables 'references', 'asciiSpace' and 'White_Space' begin as the program's text lays them (the card ties them).
  The walk of the whole call, beside the goroutines that find.All starts, stands in CI, CL and CM ('counted_run'); here are: what the condition on the variables gives the walk, a start that meets it, the row and the card.
-/
import Derived.Test.YtclpcnignheijaaGreatDoorQ39
import Derived.Test.YtclpcnignheijaaGreatDoorHN1
import Derived.Test.YtclpcnignheijaaGreatDoorHC4
import Derived.Test.YtclpcnignheijaaGreatDoorTie
import Derived.Test.YtclpcnignheijaaGreatDoorCards
import Derived.ProofKit
import Derived.LaidMore
import Derived.Lib.LaidTab
import Derived.OpenShut
import Derived.ChangeSlices
import Derived.Stop.Joined
import Derived.Conc.Holds
import Derived.Leaving
set_option maxRecDepth 100000
namespace Go.Proofs.YtclpcnignheijaaGreatDoor
open Go.ChangeShapes Go.WideShapes Go.ChangeAt Go.RowKit
open Go.ChangeMaps (open_string shut_string)
theorem door_met (os : Os) (args : Array Value) : laidMetH Tryz.prog [("unicode.White_Space", Rows.laid_unicode_White_Space), ("strings.asciiSpace", Rows.laid_strings_asciiSpace), ("copse/markup.references", Rows.laid_copse_markup_references)] ((World.doorLaid Tryz.prog 257 os).forCall (fun _ _ => 0) ⟨#[], args, []⟩).memory :=
 laidMetH_of_parts3 (fuel:=8) (laidMet_of_run' 8 (by kernel_rfl) (by kernel_rfl)) (by kernel_rfl) (by kernel_rfl)
theorem cells3:Tryz.prog.cellsOf 3=1:=by kernel_rfl
theorem wf_bd {n:Int} (h:(Lit.int .i64 n).wf=true):-9223372036854775808≤n∧n≤9223372036854775807:=by
 simpa [Lit.wf,IntKind.min,IntKind.max,IntKind.signed,IntKind.bits] using h
theorem open_raw {H:Type} {enc:TypeId × Value→H} {W:World} {b0:Nat} {v:Value} {d:DataW H} {p:List MemPlace} (hval:Value.okWide Tryz.prog W .any b0 62 v) (h:DataW.Trod enc Tryz.prog W 0 (fun _=>true) true 62 v d p) :
  (v=.slice none 0 0∧d=.nil∧p=[])∨∃ (g off len cap:Nat) (zs:List Int),v=.slice (some ⟨g,off,none⟩) len cap∧len≤cap∧cap≤maxLen∧zs.length=cap∧d=.slice (lits .i64 (zs.take len)) (lits .i64 (zs.drop len))∧p=MemPlace.row ⟨g,off,none⟩ zs.length ∧
   (∀ i,i < zs.length→W.cell? ⟨g,off+i,none⟩=some (.int .i64 (zs.getD i 0)))∧∀ n∈zs,(Lit.int .i64 n).wf=true:=by
 obtain ⟨ao,len,cap,rfl⟩:=okWide_slice Tryz.underlying62 hval
 obtain ⟨fuel,hf⟩:=h
 rcases open_ints Tryz.underlying62 Tryz.underlying3 cells3 hf with ⟨hcs,hx⟩ | ⟨a,len',cap',zs,hcs,_,hl,hm,hz,hx,hcell,hwz⟩
 ·simp [Value.cells] at hcs
  simp only [Prod.mk.injEq] at hx
  obtain ⟨rfl,rfl,rfl⟩:=hcs
  exact .inl ⟨rfl,hx.1,hx.2⟩
 ·simp [Value.cells] at hcs
  obtain ⟨rfl,rfl,rfl⟩:=hcs
  simp only [Prod.mk.injEq] at hx
  have hsp:a.spot=none:=by
   have h2:=hval
   simp only [Value.okWide,Tryz.underlying62,Cell.okWide,Cell.ok] at h2
   exact h2.2.2.2.1
  obtain ⟨g,off,sp⟩:=a
  simp only at hsp
  subst hsp
  exact .inr ⟨g,off,len,cap,zs,rfl,hl,hm,by simpa using hz,hx.1,hx.2,fun i hi=>by have:=hcell i hi; rw [add_plain] at this; exact this,hwz⟩
theorem lifted (os : Os) (started : os.Started) (H : Type) (enc : TypeId × Value → H) :
  ReturnsInLeavingWide {} Tryz.checked os 10 .any (fun w args => (Rows.countedSpec.pre enc Tryz.prog Tryz.f10 [] false w args ∧ laidMetH Tryz.prog [("unicode.White_Space", Rows.laid_unicode_White_Space), ("strings.asciiSpace", Rows.laid_strings_asciiSpace), ("copse/markup.references", Rows.laid_copse_markup_references)] w) ∧ sizedMet enc Tryz.prog Tryz.f10 (OpenSpec.ofChange Rows.countedSpec) false w args)
   (Rows.countedSpec.post enc Tryz.prog Tryz.f10 false true false false):=by
 refine returnsInLeavingWide_of_good (C := Tryz.checked) own started (ChangeSpec.witness_shaped (enc := enc) (C := Tryz.checked) (os := os) (X := fun w _ => laidMetH Tryz.prog [("unicode.White_Space", Rows.laid_unicode_White_Space), ("strings.asciiSpace", Rows.laid_strings_asciiSpace), ("copse/markup.references", Rows.laid_copse_markup_references)] w) false (World.doorLaid Tryz.prog 257 os) #[.slice none 0 0, .int .i64 0, .int .i64 0] 8 rfl (World.shaped_of_RefB (by kernel_rfl) (by kernel_rfl)) (by kernel_rfl) (by kernel_rfl) (by kernel_rfl) (door_met os _)) ?_
 intro w tape i _ hsh _ hok hpre _
 obtain ⟨⟨⟨ds,gs,before,hw,hc⟩,hL⟩,hz⟩:=hpre
 obtain ⟨_,_,_,fn',hfn',_,_,_,_,hval0⟩:=hok
 obtain rfl:fn'=Tryz.f10:=Option.some.inj (hfn'.symm.trans Tryz.func10)
 have hW:=DataW.Whole.of_heap (w':=w.forCall tape i) (by rfl) hw
 have hL' : laidMetH Tryz.prog [("unicode.White_Space", Rows.laid_unicode_White_Space), ("strings.asciiSpace", Rows.laid_strings_asciiSpace), ("copse/markup.references", Rows.laid_copse_markup_references)] (w.forCall tape i) := hL.of_heap (by rfl)
 generalize hWW:w.forCall tape i=W at *
 have hval:∀ (j:Nat) t v,Tryz.f10.params[j]? = some t→i.args[j]? = some v→Value.okWide Tryz.prog W .any w.heap.size t v:=hval0
 have hW':=hW
 obtain ⟨p,q,hA0,hV,rfl,hfz,hnd⟩:=hW
 have hA:DataW.TrodAll enc Tryz.prog W 0 (fun _=>true) true Tryz.f10.params.toList i.args.toList ds p:=hA0
 rw [Tryz.params10] at hA hval
 obtain ⟨v0,v1,v2,d0,d1,d2,p0,p1,p2,hargs,rfl,rfl,h0,h1,h2⟩:=trodAll_three hA
 obtain ⟨rfl,rfl⟩:=trodVars_none hV
 rw [hargs] at hval hW' ⊢
 obtain ⟨n1,rfl,rfl,rfl,hn1⟩:=open_int Tryz.underlying3 (hval 1 3 v1 rfl rfl) h1
 obtain ⟨n2,rfl,rfl,rfl,hn2⟩:=open_int Tryz.underlying3 (hval 2 3 v2 rfl rfl) h2
 have b1:=wf_bd hn1
 have b2:=wf_bd hn2
 have e1:∀ d,Rows.countedSpec.fn H ([d,.lit (.int .i64 n1),.lit (.int .i64 n2)]++[])={ results:=[.lit (.bool true)],args:=[d,.lit (.int .i64 n1),.lit (.int .i64 n2)] }:=fun d=>by simp [Rows.countedSpec]
 rcases open_raw (hval 0 62 v0 rfl rfl) h0 with ⟨rfl,rfl,rfl⟩ | ⟨g,off,len,cap,zs,rfl,hl,hm,hz,rfl,rfl,hcell,hwz⟩
 ·obtain ⟨M,last,o,w',t',r1,r2,r3,r4⟩:=Num.counted_run (start_of hsh hL') (R:=[]) ⟨none,0,rfl,by decide,fun j z hz=>by simp at hz⟩ ⟨_,.nilSlice 0 0⟩ n1 n2 b1 b2
  refine ⟨M,last,o,w',t',r1,r2,r3,r4.mono fun v hp=>?_⟩
  obtain ⟨rfl,hk⟩:=hp
  refine ChangeSpec.post_blind ⟨_,_,_,[],[]++[]++[],[],hW',?_,?_,?_,hk.frame _,fun h=>by cases h⟩
  ·rw [e1]; exact trodAll_mk1 (shut_bool Tryz.underlying4 true)
  ·rw [e1]; exact trodAll_mk3 (shut_slice_nil Tryz.underlying62) (shut_int Tryz.underlying3 hn1) (shut_int Tryz.underlying3 hn2)
  ·rw [e1]; rfl
 ·have hlz:len≤zs.length:=by rw [hz]; exact hl
  have htk:(zs.take len).length=len:=by simp; omega
  obtain ⟨M,last,o,w',t',r1,r2,r3,r4⟩:=Num.counted_run (start_of hsh hL') (x0:=.slice (some ⟨g,off,none⟩) len cap) (R:=zs.take len) (by
   refine ⟨some ⟨g,off,none⟩,cap,by rw [htk],by rw [htk]; unfold maxLen at hm; omega,fun j z hj=>?_⟩
   have hj':=(List.getElem?_eq_some_iff.1 hj).1
   have hjz:zs[j]? = some z:=by rw [List.getElem?_take_of_lt (by omega)] at hj; exact hj
   have hg:=hcell j (by omega)
   rw [show zs.getD j 0=z from by simp [List.getD,hjz]] at hg
   exact ⟨wf_bd (hwz z (List.mem_of_getElem? hjz)),g,off,rfl,hg⟩) (Num.rel_lost _ rfl) n1 n2 b1 b2
  refine ⟨M,last,o,w',t',r1,r2,r3,r4.mono fun v hp=>?_⟩
  obtain ⟨rfl,hk⟩:=hp
  have hlow:zs.length≠0→g < W.heap.size:=fun h=>Num.cell_lt (hcell 0 (by omega))
  refine ChangeSpec.post_blind ⟨_,_,_,[],MemPlace.row ⟨g,off,none⟩ zs.length++([]++[]),[],hW',?_,?_,?_,hk.frame _,fun h=>by cases h⟩
  ·rw [e1]; exact trodAll_mk1 (shut_bool Tryz.underlying4 true)
  ·rw [e1]
   refine trodAll_mk3 (p:=MemPlace.row ⟨g,off,none⟩ zs.length) (p':=[]) (p'':=[]) ⟨2,?_⟩ (shut_int Tryz.underlying3 hn1) (shut_int Tryz.underlying3 hn2)
   show DataW.trod enc Tryz.prog w' 0 (fun b=>decide (b < W.heap.size)) true (0+2) 62 [.slice (some ⟨g,off,none⟩) len cap]=_
   refine shut_ints' 0 Tryz.underlying62 Tryz.underlying3 cells3 (Nat.zero_le _) hl hm ?_ (fun i hi=>?_) hwz
   ·by_cases h0:zs.length=0
    ·split <;> omega
    ·rw [if_pos (decide_eq_true (hlow h0))]; exact hz
   ·rw [World.cell?_of_block (w:=W) (hk.block g (hlow (by omega)))]
    exact hcell i hi
  ·rw [e1]; rfl
theorem counted_holds:Rows.CountedSaid :=
 OpenClaim.holds_of_wide_leaving 10 Tryz.f10 rfl rfl rfl rfl rfl rfl rfl ⟨rfl,rfl,rfl,rfl,rfl⟩ rfl rfl rfl rfl rfl (by kernel_rfl) Tryz.func10 counted_joined
  (of_decide_eq_true (by kernel_rfl)) (by unfold Func.isWrapper; first | (rw [if_pos (by decide +kernel)]; kernel_rfl) | (rw [if_neg (by decide +kernel)]; exact ⟨rfl,rfl⟩))
  (fun os started H enc _=>lifted os started H enc)
theorem tied_goes (Lk:Looks) {p:Pinned} {s:OpenSpec} {c:OpenClaim} (kinds:List LaidKind) (tests:Bool) (har:Bool × String) (lk:Bool)
  (hc:c.holds p s) (hw:c.wfByText s=true) (htie:c.laidByTextAt Lk p kinds tests)
  (hst:c.start=.entering) (hnb:c.noBlocks=false∧c.again=false) (hm:p.checked.prog.mainIs=some (har.1,har.2.toList)) (hn:(!har.1 && har.2.isEmpty && !lk)=false)
  (hl:∀ f fn,p.checked.prog.funcNamed c.func=some f→p.checked.prog.funcs[f]? = some fn→lk=p.checked.prog.looks []∧∀ (j:Nat) t,fn.params[j]? = some t→p.checked.prog.wantsStandIn t=false)
  (hg:true=c.goesBy p.checked.prog) :
  Claim7.holds p (.plain s) { stood:={ row:=c,standIns:=[],harness:=har,looks:=lk },kinds:=[],alts:=[],goes:=true,laidByText:=true,laidKinds:=kinds,laidTests:=tests,laidLooks:=Lk }:=by
 have h6:∀ r:OpenClaim,Claim7.isSixth { stood:={ row:=r,standIns:=[],harness:=har,looks:=lk },kinds:=[] }=false:=fun r=>by simpa [Claim7.isSixth] using hn
 exact ⟨Claim7.tied_new_at Lk kinds tests (Claim7.new_of_sixth hc har lk hst hnb hm (h6 c) hl) hw,fun D hD=>(by cases hD),htie,(fun h=>by cases h),hg⟩
theorem counted_card : Rows.CountedCardSaid :=
 tied_goes .later [.listed, .data, .data] true (true, "c3481bd773bf7ab2bcc6d7f47be1508ad9b445e53d2f9f1fcee2be0d2f503958") true
  counted_holds (by kernel_rfl) counted_row_tie rfl ⟨rfl,rfl⟩ (by kernel_rfl) rfl
  (fun f fn hf hfn=>by
   obtain rfl : f = 10 := Option.some.inj ((show Tryz.prog.funcNamed "copse/copsekeep.Counted" = some 10 by kernel_rfl).symm.trans hf) |>.symm
   obtain rfl:fn=Tryz.f10:=(Option.some.inj (Tryz.func10.symm.trans hfn)).symm
   exact ⟨by kernel_rfl,fun j t ht=>by
    rw [Tryz.params10] at ht
    have h3:t=62∨t=3:=by
     rcases j with _ | _ | _ | j
     ·exact .inl (by simpa using ht.symm)
     ·exact .inr (by simpa using ht.symm)
     ·exact .inr (by simpa using ht.symm)
     ·simp at ht
    rcases h3 with rfl | rfl
    ·exact (show Tryz.prog.wantsStandIn 62=false by kernel_rfl)
    ·exact (show Tryz.prog.wantsStandIn 3=false by kernel_rfl)⟩)
  (by kernel_rfl)
end Go.Proofs.YtclpcnignheijaaGreatDoor
