/-
  Parts of the proof: HN1.
-/
import Derived.Test.YtclpcnignheijaaGreatDoorQ31
import Derived.Test.YtclpcnignheijaaGreatDoorRows
import Derived.LaidMore
import Derived.OpenShut
import Derived.Stop.Joined
set_option maxRecDepth 100000
namespace Go.Proofs.YtclpcnignheijaaGreatDoor
open Go.ChangeShapes Go.WideShapes Go.ChangeAt Go.RowKit Go.Proofs.Tryz
open Go.ChangeMaps (open_string shut_string)
theorem own:ownKnob prog.godebug=none:=by kernel_rfl
theorem gRefs : prog.globalNamed "copse/markup.references" = some 1 := by kernel_rfl
theorem tRefs:(prog.globals[1]?).map (·.type)=some 287:=by kernel_rfl
theorem qP7:prog.cellsOf 287=8:=by kernel_rfl
theorem qSc:prog.cellsOf 286=2:=by kernel_rfl
theorem qSd:prog.cellsOf 9=1:=by kernel_rfl
theorem qP8:prog.cellsOf 5=1:=by kernel_rfl
theorem gAsc : prog.globalNamed "strings.asciiSpace" = some 2 := by kernel_rfl
theorem tAsc:(prog.globals[2]?).map (·.type)=some 338:=by kernel_rfl
theorem qSa:prog.cellsOf 338=256:=by kernel_rfl
theorem qUX:(Rows.laid_strings_asciiSpace:DataW Unit)=Lib.tabData .u8 Lib.asciiSpaceTab:=by kernel_rfl
theorem qNo{H:Type}{enc:TypeId×Value->H}{w:World}{base:Nat}{sp:Nat->Bool}{held:Bool}{fuel:Nat}{c0 c1:Value}{y:DataW H×List MemPlace}{bs:List UInt8}{n:Int}
  (h:DataW.trod enc prog w base sp held fuel 286 [c0,c1]=some y) (hy:y.1=.agg [.lit (.string bs),.lit (.int .u8 n)]) :
  c0=.string ⟨bs.toArray⟩/\c1=.int .u8 n:=by
 obtain⟨y0,y1,m,rfl,_,h0,h1⟩:=trod_struct2 underlying286 h;simp only[DataW.agg.injEq,List.cons.injEq,and_true]at hy;simp only[qSd,qP8,List.drop_zero,List.take_succ_cons,List.take_zero,List.drop_succ_cons]at h0 h1;obtain⟨s,e1,e2,_⟩:=DataW.trod_string underlying9 h0;obtain⟨k,e3,e4,_⟩:=DataW.trod_int underlying5 h1;rw[e2,e4]at hy;simp only[DataW.lit.injEq,Lit.string.injEq,Lit.int.injEq,true_and]at hy;simp only[List.cons.injEq,and_true]at e1 e3;obtain⟨h1,h2⟩:=hy;refine⟨?_,by rw[e3,h2]⟩;rw[e1,<-h1]
theorem tabs_of_laid {W : World} (h : laidMetH prog [("unicode.White_Space", Rows.laid_unicode_White_Space), ("strings.asciiSpace", Rows.laid_strings_asciiSpace), ("copse/markup.references", Rows.laid_copse_markup_references)] W) : Gl W ∧ ∃ t fr, W.heap[2]? = some (.cells (Lib.asciiSpaceTab.map fun z => Value.int .u8 z).toArray t fr) := by
 rw[MakeChecks.laidMetH_plain _ _ _ (by kernel_rfl)]at h;obtain⟨ps,⟨_,_,_,_,_,q1,_,_,_,_,⟨g2,t2,cs2,fuel2,p2,q2,hg2,ht2,hv2,hd2,⟨g,t,cs,fuel,p,q,hg,ht,hv,hd,_,_⟩,_⟩,_⟩,_⟩:=h;constructor
 ·obtain rfl:=Option.some.inj (gRefs.symm.trans hg);obtain rfl:=Option.some.inj (tRefs.symm.trans ht);have hcs:cs=refArr:=by
   obtain⟨l⟩:=cs;obtain⟨xs,m,rfl,hx,hlen,hn,hel⟩:=DataW.trod_array underlying287 hd;rw[qP7]at hlen;rw[qSc]at hel
   match l,hlen with
   | [a0, a1, b0, b1, c0, c1, d0, d1], _ =>
    match xs,hn with
    |[x0,x1,x2,x3],_ =>
     simp only[Rows.laid_copse_markup_references,Prod.mk.injEq,DataW.agg.injEq,List.map_cons,List.map_nil,List.cons.injEq,and_true]at hx;obtain⟨⟨h0,h1,h2,h3⟩,_⟩:=hx;obtain⟨rfl,rfl⟩:=qNo (show DataW.trod _ prog W 0 _ _ m 286 [a0,a1]=some x0 from hel 0 (by decide)) h0.symm;obtain⟨rfl,rfl⟩:=qNo (show DataW.trod _ prog W 0 _ _ m 286 [b0,b1]=some x1 from hel 1 (by decide)) h1.symm;obtain⟨rfl,rfl⟩:=qNo (show DataW.trod _ prog W 0 _ _ m 286 [c0,c1]=some x2 from hel 2 (by decide)) h2.symm;obtain⟨rfl,rfl⟩:=qNo (show DataW.trod _ prog W 0 _ _ m 286 [d0,d1]=some x3 from hel 3 (by decide)) h3.symm;rfl
  subst hcs;unfold World.var? at hv;rw[hg]at hv;simp only[Option.bind_some]at hv;split at hv
  ·rename_i cs' ty fr hblk;obtain rfl:=Option.some.inj hv;exact⟨ty,fr,hblk⟩
  ·cases hv
 ·obtain rfl:=Option.some.inj (gAsc.symm.trans hg2);obtain rfl:=Option.some.inj (tAsc.symm.trans ht2);rw[qUX]at hd2;have hcs:=Lib.cells_of_tab underlying338 underlying5 qP8 qSa hd2;unfold World.var? at hv2;rw[hg2]at hv2;simp only[Option.bind_some]at hv2;split at hv2
  ·rename_i cs' ty fr hblk;obtain rfl:=Option.some.inj hv2;exact⟨ty,fr,by rw[hblk,<-hcs]⟩
  ·cases hv2
theorem qXs:((begin prog (fun _ _=>0) default).world.heap[3]?).bind Obj.row? = some (#[.int .i64 0],3):=by kernel_rfl
theorem qVk:prog.buildable 3=true:=by kernel_rfl
theorem types3:prog.cellTypes prog.depth 3=some [3]:=by kernel_rfl
def qTM:Option Obj->Bool
 |some (.cells c _ _)=>c.all Num.plainB
 |_=>false
theorem qXt:qTM ((begin prog (fun _ _=>0) default).world.heap[9]?)=true:=by kernel_rfl
theorem qW1:9<(begin prog (fun _ _=>0) default).world.heap.size:=of_decide_eq_true (by kernel_rfl)
theorem qPI:refArr.all Num.plainB=true:=by kernel_rfl
theorem qKl{c:Array Value}(h:c.all Num.plainB=true)(i:Nat)(y:Value)(hy:c[i]? = some y):Num.plainB y=true:=by
 obtain⟨hi,rfl⟩:=Array.getElem?_eq_some_iff.1 hy;exact(Array.all_eq_true.1 h) i hi
noncomputable def qRM(x:Nat):Option TypeId:=(((begin prog (fun _ _=>0) default).world.heap[x]?).bind Obj.row?).map (·.2)
noncomputable def qOr(t:TypeId):Bool:=prog.buildable t&&match prog.cellTypes prog.depth t with
 |some ts=>ts.all fun u=>match prog.underlying u with
  |some (.int _)=>true
  |_=>false
 |none=>false
theorem qWj:(qRM 5).any qOr=true:=by kernel_rfl
theorem qWk:(qRM 6).any qOr=true:=by kernel_rfl
theorem qWl:(qRM 7).any qOr=true:=by kernel_rfl
theorem qGN{W:World}(hs:W.ShapedOpen prog){x:Nat}(hx:x<9)(h:(qRM x).any qOr=true):∃c e f,W.heap[x]? = some (.cells c e f)/\∀(i:Nat) y,c[i]? = some y->Num.plainB y=true:=by
 unfold qRM at h;unfold World.ShapedOpen at hs;generalize begin prog (fun _ _=>0) default=m0 at hs h;obtain⟨hs1,-⟩:=hs;cases hr:(m0.world.heap[x]?).bind Obj.row? with
 |none=>rw[hr]at h;cases h
 | some zt =>
  obtain⟨z,t⟩:=zt;rw[hr]at h;have h:qOr t=true:=h;obtain⟨cs,h3,-,hok⟩:=hs1 x z t (by rw[Num.globals9];exact hx) hr;unfold qOr at h;rw[Bool.and_eq_true]at h;obtain⟨ts,e1,-,hc⟩:=hok h.1;have h2:=h.2;rw[e1]at h2;refine⟨cs,t,_,h3,fun i y hy=>?_⟩;obtain⟨u,e2,hcell⟩:=hc i y hy;have h4:=List.all_eq_true.1 h2 u (List.mem_of_getElem? e2);unfold Cell.ok at hcell;cases hu:prog.underlying u with
  |none=>rw[hu]at h4;cases h4
  |some k =>
   rw[hu]at h4 hcell;cases k<;>first|cases h4|skip
   cases y<;>first|exact hcell.elim|rfl
theorem qTh {W : World} (hs : W.ShapedOpen prog) (h : laidMetH prog [("unicode.White_Space", Rows.laid_unicode_White_Space), ("strings.asciiSpace", Rows.laid_strings_asciiSpace), ("copse/markup.references", Rows.laid_copse_markup_references)] W) : Num.Start W := by
 obtain⟨h1,t2,f2,h2⟩:=tabs_of_laid h;have q5:=qGN hs (x:=5) (by decide) qWj;have q6:=qGN hs (x:=6) (by decide) qWk;have q7:=qGN hs (x:=7) (by decide) qWl;have r3:=qXs;have r9:=qXt;have s9:=qW1;unfold World.ShapedOpen at hs;generalize begin prog (fun _ _=>0) default=m0 at hs r3 r9 s9;obtain⟨hs1,hs2⟩:=hs;obtain⟨cs,h3,hsz,hok⟩:=hs1 3 _ _ (by rw[Num.globals9];decide) r3;obtain⟨ts,e1,-,hc⟩:=hok qVk;have hts:[3]=ts:=Option.some.inj (types3.symm.trans e1);subst hts;have h0:0<cs.size:=by rw[hsz];decide
 obtain⟨u,e2,hcell⟩:=hc 0 _ (Array.getElem?_eq_getElem h0);obtain rfl:3=u:=by simpa using e2
 obtain⟨n,hn⟩:∃n,cs[0]=.int .i64 n:=by
  unfold Cell.ok at hcell;rw[underlying3]at hcell;generalize cs[0]=v at hcell;cases v<;>first|exact hcell.elim|skip
  obtain⟨rfl,-⟩:=hcell;exact⟨_,rfl⟩
 have h9:∃c e f,W.heap[9]? = some (.cells c e f)/\c.all Num.plainB=true:=by
  obtain⟨o,o0,g1,g2,g3⟩:=hs2 9 (by rw[Num.globals9];decide) s9;rw[Num.globals9]at g3;have g3:o=o0:=g3;subst g3;have:=r9;rw[g2]at this;cases o with
  |cells c e f=>exact⟨c,e,f,g1,this⟩
  |_=>cases this
 refine⟨h1,⟨⟨t2,f2,h2⟩,n,?_⟩,fun x hx=>?_⟩
 ·unfold World.cell?;dsimp only;rw[h3];simp[h0,hn]
 ·have hx':x=1\/x=2\/x=3\/x=5\/x=6\/x=7\/x=9:=by
   unfold glP at hx;simpa [or_assoc]using hx
  rcases hx' with rfl|rfl|rfl|rfl|rfl|rfl|rfl
  ·obtain⟨t,fr,hb⟩:=h1;exact⟨_,_,_,hb,qKl qPI⟩
  ·refine⟨_,_,_,h2,fun i y hy=>?_⟩;simp only[List.getElem?_toArray,List.getElem?_map,Option.map_eq_some_iff]at hy;obtain⟨z,-,rfl⟩:=hy;rfl
  ·refine⟨_,_,_,h3,fun i y hy=>?_⟩;obtain⟨hi,rfl⟩:=Array.getElem?_eq_some_iff.1 hy;have hi0:i=0:=by rw[hsz]at hi;simpa using hi
   subst hi0;rw[hn];rfl
  ·exact q5
  ·exact q6
  ·exact q7
  ·obtain⟨c,e,f,g1,g2⟩:=h9;exact⟨c,e,f,g1,qKl g2⟩
