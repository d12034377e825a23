/-
  Parts of the proof: E1, E2, E3, E4, E5, E6.
-/
import Derived.Test.YtclpcnignheijaaGreatDoorQ4
set_option maxHeartbeats 4000000
set_option maxRecDepth 100000
namespace Go.Proofs.YtclpcnignheijaaGreatDoor
open Go.RowKit Go.Proofs.Tryz
theorem qSS(l:List UInt8)(a c:Nat):(⟨l.toArray⟩:ByteArray).extract a c=⟨((l.drop a).take (c-a)).toArray⟩:=by
 have h:=Lib.extract_data (⟨l.toArray⟩:ByteArray) a c;cases h2:(⟨l.toArray⟩:ByteArray).extract a c with
 |mk d =>
  rw[h2]at h;congr 1;apply Array.ext';simpa using h
theorem _root_.Go.RowKit.Below.drewE{B:Nat}{a w:World}(h:Below B a w)(n:Nat):Below B a (w.drewN n):=⟨h.os,h.tape,h.output,h.size,h.block⟩
theorem slIndex_one(t o:ByteArray)(c:UInt8)(w:World)(h:o.data.toList=[c])(hne:(o.toList==t.toList)=false) :
  Calls prog 237 #[.string t,.string o] w fun e w'=>e=.returned (.int .i64 (Lib.indexByte t.data.toList c))/\w'=w:=by
 have hs:o.size=1:=by
  have:o.data.toList.length=o.size:=by simp
  rw[h]at this;exact this.symm
 have hlt:0<o.size:=by omega
 have h0:(o[0]'hlt).toNat=c.toNat:=by
  have:o.data.toList[0]'(by rw[h];exact Nat.one_pos)=c:=by simp[h]
  rw[<-this];rfl
 have hsz:((o.size:Int)==0)=false:=by rw[hs];decide
 have hsz1:((o.size:Int)==1)=true:=by rw[hs];decide
 have H0:=qAF h0;clear h hs h0;go_enter func237,ntmps237
 go_wp2_with (go_at_call 242;refine(qET _ _ _).mono ?_;rintro e w' ⟨rfl,rfl⟩)
 go_ret
 refine⟨?_,rfl⟩;have e:o[0]'hlt=c:=UInt8.toNat_inj.1 H0.out;rw[<-e];rfl
theorem qBg(t o:ByteArray)(c:UInt8)(w:World)(v:Bool)(h:o.data.toList=[c])(hne:(o.toList==t.toList)=false)(hv:inB t.data.toList (c.toNat:Int)=v) :
  Calls prog 178 #[.string t,.string o] w fun e w'=>e=.returned (.bool v)/\w'=w:=by
 have hi:(0<=Lib.indexByte t.data.toList c)↔v=true:=by
  rw[<-hv];have:=qHy t.data.toList (c.toNat:Int) (by omega) (by have:=c.toNat_lt;omega)
  rwa[show((c.toNat:Int)).toNat.toUInt8=c from UInt8.toNat_inj.1 (by rw[Int.toNat_natCast,Nat.toUInt8,UInt8.toNat_ofNat'];have:=c.toNat_lt;omega)]at this
 have hidx:Calls prog 214 #[.string t,.string o] w fun e w'=>e=.returned (.int .i64 (Lib.indexByte t.data.toList c))/\w'=w:=by
  go_enter func214,ntmps214
  go_wp2_with (go_at_call 237;refine(slIndex_one t o c _ h hne).mono ?_;rintro e w' ⟨rfl,rfl⟩)
  go_ret
  exact⟨rfl,rfl⟩
 have HI:=qAF hi;have HX:=qAF hidx;clear hi hidx hv h hne;go_enter func178,ntmps178
 go_wp2_with (go_at_call 214;refine HX.out.mono ?_;rintro e w' ⟨rfl,rfl⟩)
 go_ret
 refine⟨qBT ?_,rfl⟩;rw[Bool.eq_iff_iff,decide_eq_true_iff];exact HI.out
def Wr(w:World)(B wb db:Nat)(out:List UInt8)(pl:Nat)(op:Int):Prop :=
 ∃sa vb,w.heap[wb]? = some (.cells #[.pointer (some ⟨db,0,none⟩),sa,vb,.int .i64 (pl:Int),.int .i64 op] 145 (0,0))/\(sa=.pointer none\/sa=.pointer (some ⟨wb,1,none⟩))/\w.ownsRow B 5 1 vb out.length (u8s out)
def TW:List TypeId:=[145,5]
theorem qGF{w:World}{b:Nat}{x y z u v:Value}{t:TypeId}(h:w.heap[b]? = some (.cells #[x,y,z,u,v] t (0,0))) :
  w.cell? ⟨b,0,none⟩=some x/\w.cell? ⟨b,1,none⟩=some y/\w.cell? ⟨b,2,none⟩=some z/\w.cell? ⟨b,3,none⟩=some u/\w.cell? ⟨b,4,none⟩=some v:=by simp[World.cell?,h]
theorem qQW{w:World}{b:Nat}{x y z u v a:Value}{t:TypeId}(h:w.heap[b]? = some (.cells #[x,y,z,u,v] t (0,0))):(w.setCell ⟨b,1,none⟩ a).heap[b]? = some (.cells #[x,a,z,u,v] t (0,0)):=qAZ h a
theorem qQX{w:World}{b:Nat}{x y z u v a:Value}{t:TypeId}(h:w.heap[b]? = some (.cells #[x,y,z,u,v] t (0,0))):(w.setCell ⟨b,2,none⟩ a).heap[b]? = some (.cells #[x,y,a,u,v] t (0,0)):=qAZ h a
theorem qQY{w:World}{b:Nat}{x y z u v a:Value}{t:TypeId}(h:w.heap[b]? = some (.cells #[x,y,z,u,v] t (0,0))):(w.setCell ⟨b,3,none⟩ a).heap[b]? = some (.cells #[x,y,z,a,v] t (0,0)):=qAZ h a
theorem qQZ{w:World}{b:Nat}{x y z u v a:Value}{t:TypeId}(h:w.heap[b]? = some (.cells #[x,y,z,u,v] t (0,0))):(w.setCell ⟨b,4,none⟩ a).heap[b]? = some (.cells #[x,y,z,u,a] t (0,0)):=qAZ h a
theorem Wr.kept{B B' wb db:Nat}{T:List TypeId}{w w':World}{out:List UInt8}{pl:Nat}{op:Int}(h:Wr w B wb db out pl op)(k:Kp B' T w w')(h1:145 ∉ T)(h2:5 ∉ T):Wr w' B wb db out pl op:=by
 obtain⟨sa,vb,a1,a2,a3⟩:=h;exact⟨sa,vb,k.at a1 h1,a2,k.owns a3 h2⟩
theorem Tryz.sizeSB:(prog.info? 143).map (·.size)=some 2:=by kernel_rfl
theorem Tryz.liesSB:liesAt prog prog.depth 145 (5/prog.cellsOf 145) 1 143 1=true:=by kernel_rfl
theorem qJv(B wb db:Nat)(out:List UInt8)(pl:Nat)(op:Int)(w:World)(h:Wr w B wb db out pl op)(hB:B<=wb) :
  Calls prog 138 #[.pointer (some ⟨wb,1,none⟩)] w fun e w'=>e=.returned (.tuple #[])/\Wr w' B wb db out pl op/\Kp B TW w w':=by
 have h':=h;obtain⟨sa,vb,a1,a2,a3⟩:=h;obtain⟨c0,c1,c2,c3,c4⟩:=qGF a1;have f1:=qAd (o:=1) a1;obtain⟨j,hj,hjs⟩:=Option.map_eq_some_iff.1 Tryz.sizeSB;have hsh:w.shape? wb=some (145,5):=by simp[World.shape?,a1]
 rcases a2 with rfl|rfl
 ·have A1:=qAF a1;have A3:=qAF a3;clear a1 a3;go_enter func138,ntmps138
  go_wp2
  rw[Lib.run_to_unsafe w ⟨wb,1,none⟩ underlying141 underlying184 hj (by rw[hjs];decide) hsh (show 1<5 by decide)];simp only[Result.andThen];rw[Oper.upon_value];go_wp2
  rw[run_callFunc_extern func177 (by kernel_rfl) (by kernel_rfl) (by kernel_rfl) (e:=Extern.AbiNoEscape.same) (by kernel_rfl)];rw[Lib.run_noEscape];simp only[Result.andThen];rw[Oper.upon_value];go_wp2
  rw[Lib.run_from_unsafe w ⟨wb,1,none⟩ underlying184 underlying141 hj hsh Tryz.liesSB];simp only[Result.andThen];rw[Oper.upon_value];go_wp2
  go_end0
  exact⟨rfl,⟨_,vb,qQW A1.out,.inr rfl,qDk (p:=⟨wb,1,none⟩) A3.out A1.out (by decide) _⟩,(Kp.refl _ _ _).setCell (p:=⟨wb,1,none⟩) A1.out (by decide) hB _⟩
 ·go_enter func138,ntmps138
  go_wp2
  rw[Lib.run_neq_ptr_same w _ underlying141 hj];go_wp2
  go_end0
  exact⟨rfl,h',Kp.refl _ _ _⟩
theorem qBy(B wb db:Nat)(out:List UInt8)(pl:Nat)(op:Int)(t:ByteArray)(w:World)(h:Wr w B wb db out pl op)(hB:B<=wb)(hs:out.length+t.size<=1000000) :
  Calls prog 112 #[.pointer (some ⟨wb,1,none⟩),.string t] w fun e w'=>e=.returned (.tuple #[.int .i64 (t.size:Int),.nilIface])/\Wr w' B wb db (out++t.data.toList) pl op/\Kp B TW w w':=by
 obtain⟨i0,hi,hz0,hz1,hz2⟩:=info_parts Tryz.infoU8;go_enter func112,ntmps112
 go_wp2_with fail
 refine(qJv B wb db out pl op _ h hB).mono ?_;rintro e w1⟨rfl,h1,hk1⟩;obtain⟨sa,vb,a1,a2,a3⟩:=h1;obtain⟨c0,c1,c2,c3,c4⟩:=qGF a1;have hbs:=lt_of_block a1;have A1:=qAF a1;have A2:=qAF a2;clear a1 a2;go_wp2_with (at_builtin;refine Lib.wpList_append_own_string _ rfl _ _ 50 9 rfl B 5 i0 underlying50 underlying9 hi hz0 hz1 hz2 _ _ _ rfl a3 t rfl (by unfold maxLen;omega) (by omega) (by omega) ?_;intro v1 w2 own1 grow1 _;have e1:=qA1 a3 grow1 A1.out (by decide);obtain⟨d0,d1,d2,d3,d4⟩:=qGF e1;have f2:=qAd (o:=2) e1;obtain⟨ao1,cp1,hv1⟩:=qBA own1;subst hv1)
 go_ret2
 refine⟨rfl,⟨sa,_,qQX e1,A2.out,?_⟩,hk1.trans (((Kp.refl _ _ _).grownRow a3 grow1 (by decide)).setCell (p:=⟨wb,2,none⟩) e1 (by decide) hB _)⟩;have o2:=qDk (p:=⟨wb,2,none⟩) own1 e1 (by decide) (.slice ao1 (out.length+t.size) cp1);rw[qEV]at o2;rw[List.length_append,show t.data.toList.length=t.size from by simp,show u8s (out++t.data.toList)=u8s out++u8s t.data.toList from by simp[u8s]];exact o2
def refW(b:UInt8):List UInt8:=if b=38 then[38,97,109,112,59]else if b=60 then[38,108,116,59]else if b=62 then[38,103,116,59]else if b=34 then[38,113,117,111,116,59]else[b]
def qC8(sp:List UInt8)(b:UInt8):List UInt8:=if inB sp (b.toNat:Int)=true then refW b else[b]
def qBp(sp l:List UInt8):List UInt8:=l.flatMap (qC8 sp)
theorem qPW(sp:List UInt8)(b:UInt8):(qC8 sp b).length<=6/\1<=(qC8 sp b).length:=by
 unfold qC8 refW
 repeat' split
 all_goals simp
def qDw(sp:List UInt8)(c:UInt8):List (List UInt8×Int)->List UInt8
 |[]=>[c]
 |x::r=>if (c.toNat:Int)=x.2/\inB sp (c.toNat:Int)=true then 38::x.1 else qDw sp c r
theorem qRl(sp:List UInt8)(c:UInt8):qDw sp c refsL=qC8 sp c:=by
 have key:∀n:Nat,n<256->((c.toNat:Int)=(n:Int)↔c=UInt8.ofNat n):=by
  intro n hn;constructor
  ·intro h;exact UInt8.toNat_inj.1 (by rw[UInt8.toNat_ofNat'];omega)
  ·intro h;rw[h,UInt8.toNat_ofNat'];omega
 have k1:(c.toNat:Int)=38↔c=38:=key 38 (by decide);have k2:(c.toNat:Int)=60↔c=60:=key 60 (by decide);have k3:(c.toNat:Int)=62↔c=62:=key 62 (by decide);have k4:(c.toNat:Int)=34↔c=34:=key 34 (by decide);simp only[refsL,qDw,qC8,refW];cases hi:inB sp (c.toNat:Int)
 ·simp
 ·simp only[and_true,if_true];by_cases h1:c=38
  ·simp[h1]
  ·by_cases h2:c=60
   ·simp[h2]
   ·by_cases h3:c=62
    ·simp[h3]
    ·by_cases h4:c=34
     ·simp[h4]
     ·rw[if_neg (fun h=>h1 (k1.1 h)),if_neg (fun h=>h2 (k2.1 h)),if_neg (fun h=>h3 (k3.1 h)),if_neg (fun h=>h4 (k4.1 h)),if_neg h1,if_neg h2,if_neg h3,if_neg h4]
theorem qMy(o t:ByteArray)(c:UInt8)(w:World)(h:o.data.toList=[c])(hne:(o.toList==t.toList)=false)(hg:Gl w) :
  Calls prog 139 #[.string o,.string t] w fun e w'=>e=.returned (.string ⟨(qC8 t.data.toList c).toArray⟩)/\Below w.heap.size w w':=by
 have hs:o.size=1:=by
  have:o.data.toList.length=o.size:=by simp
  rw[h]at this;exact this.symm
 have hlt:0<o.size:=by omega
 have h0:o[0]'hlt=c:=by
  have:o.data.toList[0]'(by rw[h];exact Nat.one_pos)=c:=by simp[h]
  rw[<-this];rfl
 have ho:o=⟨[c].toArray⟩:=by rw[<-h]
 have HS:=qAF (qRl t.data.toList c);have HO:=qAF ho;have H:=qAF h;have HNE:=qAF hne;have H0:=qAF h0;clear hs ho h hne h0;obtain⟨tt,fr,hg1⟩:=hg;go_enter func139,ntmps139
 go_wp2_with (refine wpList_load_row rfl 287 _ rfl 1 rfl tt _ fr _ hg1 underlying287 rfl (by kernel_rfl) ?_)
 clear hg1;go_loopw [8] (fun i wr=>∃k:Nat,i=.int .i64 k/\k<=4/\Below w.heap.size w wr/\Hid (qDw t.data.toList c (refsL.drop k)=qC8 t.data.toList c)) (fun i _=>4-(intOf i).toNat)
 case atStart=>exact⟨0,rfl,Nat.zero_le _,Below.refl _ _,HS⟩
 case round =>
  obtain⟨k,rfl,hk4,hbl,HQ⟩:=hrel;rcases (show k=0\/k=1\/k=2\/k=3\/k=4 from by omega)with rfl|rfl|rfl|rfl|rfl
  ·have ix:∀w,(Instr.index 287 (.agg refArr) (.int .i64 0)).run prog w=.ok (.agg #[.string ⟨#[97,109,112,59]⟩,.int .u8 38]) w:=fun _=>by kernel_rfl
   have hq:qDw t.data.toList c (refsL.drop 0)=if (c.toNat:Int)=38/\inB t.data.toList (c.toNat:Int)=true then 38::[97,109,112,59]else qDw t.data.toList c (refsL.drop (0+1)):=rfl
   have HR:=qAF hq;clear hq;by_cases hy:(c.toNat:Int)=38
   ·have hy':(((o[0]'hlt).toNat:Int)==38)=true:=by rw[H0.out,hy];rfl
    have HY:=qAF hy;clear hy;cases hin:inB t.data.toList (c.toNat:Int)
    ·have HI:=qAF hin;clear hin;go_wp2
     go_quiet ((go_at_call 178;exact Calls.quiet_of_same (qBg t o c _ false H.out HNE.out HI.out)))
     go_wp2
     go_roundw
     case rel =>
      refine⟨0+1,by go_num,by omega,(hbl.alloc hbl.size _).drewE _,qAF ?_⟩;have e:=HR.out;rw[HI.out,if_neg (fun h=>Bool.false_ne_true h.2)]at e;exact e.symm.trans HQ.out
     case measure=>simp[intOf]
    ·have HI:=qAF hin;clear hin;go_wp2
     go_quiet ((go_at_call 178;exact Calls.quiet_of_same (qBg t o c _ true H.out HNE.out HI.out)))
     go_wp2
     go_ret
     have e:=HR.out;rw[HI.out,if_pos ⟨HY.out,rfl⟩]at e;rw[<-HQ.out,e];exact⟨rfl,(hbl.alloc hbl.size _).drewE _⟩
   ·have hy':(((o[0]'hlt).toNat:Int)==38)=false:=by rw[H0.out];simpa using hy
    have HY:=qAF hy;clear hy;go_wp2
    go_quiet (fail)
    go_wp2
    go_roundw
    case rel =>
     refine⟨0+1,by go_num,by omega,(hbl.alloc hbl.size _).drewE _,qAF ?_⟩;have e:=HR.out;rw[if_neg (fun h=>HY.out h.1)]at e;exact e.symm.trans HQ.out
    case measure=>simp[intOf]
  ·have ix:∀w,(Instr.index 287 (.agg refArr) (.int .i64 1)).run prog w=.ok (.agg #[.string ⟨#[108,116,59]⟩,.int .u8 60]) w:=fun _=>by kernel_rfl
   have hq:qDw t.data.toList c (refsL.drop 1)=if (c.toNat:Int)=60/\inB t.data.toList (c.toNat:Int)=true then 38::[108,116,59]else qDw t.data.toList c (refsL.drop (1+1)):=rfl
   have HR:=qAF hq;clear hq;by_cases hy:(c.toNat:Int)=60
   ·have hy':(((o[0]'hlt).toNat:Int)==60)=true:=by rw[H0.out,hy];rfl
    have HY:=qAF hy;clear hy;cases hin:inB t.data.toList (c.toNat:Int)
    ·have HI:=qAF hin;clear hin;go_wp2
     go_quiet ((go_at_call 178;exact Calls.quiet_of_same (qBg t o c _ false H.out HNE.out HI.out)))
     go_wp2
     go_roundw
     case rel =>
      refine⟨1+1,by go_num,by omega,(hbl.alloc hbl.size _).drewE _,qAF ?_⟩;have e:=HR.out;rw[HI.out,if_neg (fun h=>Bool.false_ne_true h.2)]at e;exact e.symm.trans HQ.out
     case measure=>simp[intOf]
    ·have HI:=qAF hin;clear hin;go_wp2
     go_quiet ((go_at_call 178;exact Calls.quiet_of_same (qBg t o c _ true H.out HNE.out HI.out)))
     go_wp2
     go_ret
     have e:=HR.out;rw[HI.out,if_pos ⟨HY.out,rfl⟩]at e;rw[<-HQ.out,e];exact⟨rfl,(hbl.alloc hbl.size _).drewE _⟩
   ·have hy':(((o[0]'hlt).toNat:Int)==60)=false:=by rw[H0.out];simpa using hy
    have HY:=qAF hy;clear hy;go_wp2
    go_quiet (fail)
    go_wp2
    go_roundw
    case rel =>
     refine⟨1+1,by go_num,by omega,(hbl.alloc hbl.size _).drewE _,qAF ?_⟩;have e:=HR.out;rw[if_neg (fun h=>HY.out h.1)]at e;exact e.symm.trans HQ.out
    case measure=>simp[intOf]
  ·have ix:∀w,(Instr.index 287 (.agg refArr) (.int .i64 2)).run prog w=.ok (.agg #[.string ⟨#[103,116,59]⟩,.int .u8 62]) w:=fun _=>by kernel_rfl
   have hq:qDw t.data.toList c (refsL.drop 2)=if (c.toNat:Int)=62/\inB t.data.toList (c.toNat:Int)=true then 38::[103,116,59]else qDw t.data.toList c (refsL.drop (2+1)):=rfl
   have HR:=qAF hq;clear hq;by_cases hy:(c.toNat:Int)=62
   ·have hy':(((o[0]'hlt).toNat:Int)==62)=true:=by rw[H0.out,hy];rfl
    have HY:=qAF hy;clear hy;cases hin:inB t.data.toList (c.toNat:Int)
    ·have HI:=qAF hin;clear hin;go_wp2
     go_quiet ((go_at_call 178;exact Calls.quiet_of_same (qBg t o c _ false H.out HNE.out HI.out)))
     go_wp2
     go_roundw
     case rel =>
      refine⟨2+1,by go_num,by omega,(hbl.alloc hbl.size _).drewE _,qAF ?_⟩;have e:=HR.out;rw[HI.out,if_neg (fun h=>Bool.false_ne_true h.2)]at e;exact e.symm.trans HQ.out
     case measure=>simp[intOf]
    ·have HI:=qAF hin;clear hin;go_wp2
     go_quiet ((go_at_call 178;exact Calls.quiet_of_same (qBg t o c _ true H.out HNE.out HI.out)))
     go_wp2
     go_ret
     have e:=HR.out;rw[HI.out,if_pos ⟨HY.out,rfl⟩]at e;rw[<-HQ.out,e];exact⟨rfl,(hbl.alloc hbl.size _).drewE _⟩
   ·have hy':(((o[0]'hlt).toNat:Int)==62)=false:=by rw[H0.out];simpa using hy
    have HY:=qAF hy;clear hy;go_wp2
    go_quiet (fail)
    go_wp2
    go_roundw
    case rel =>
     refine⟨2+1,by go_num,by omega,(hbl.alloc hbl.size _).drewE _,qAF ?_⟩;have e:=HR.out;rw[if_neg (fun h=>HY.out h.1)]at e;exact e.symm.trans HQ.out
    case measure=>simp[intOf]
  ·have ix:∀w,(Instr.index 287 (.agg refArr) (.int .i64 3)).run prog w=.ok (.agg #[.string ⟨#[113,117,111,116,59]⟩,.int .u8 34]) w:=fun _=>by kernel_rfl
   have hq:qDw t.data.toList c (refsL.drop 3)=if (c.toNat:Int)=34/\inB t.data.toList (c.toNat:Int)=true then 38::[113,117,111,116,59]else qDw t.data.toList c (refsL.drop (3+1)):=rfl
   have HR:=qAF hq;clear hq;by_cases hy:(c.toNat:Int)=34
   ·have hy':(((o[0]'hlt).toNat:Int)==34)=true:=by rw[H0.out,hy];rfl
    have HY:=qAF hy;clear hy;cases hin:inB t.data.toList (c.toNat:Int)
    ·have HI:=qAF hin;clear hin;go_wp2
     go_quiet ((go_at_call 178;exact Calls.quiet_of_same (qBg t o c _ false H.out HNE.out HI.out)))
     go_wp2
     go_roundw
     case rel =>
      refine⟨3+1,by go_num,by omega,(hbl.alloc hbl.size _).drewE _,qAF ?_⟩;have e:=HR.out;rw[HI.out,if_neg (fun h=>Bool.false_ne_true h.2)]at e;exact e.symm.trans HQ.out
     case measure=>simp[intOf]
    ·have HI:=qAF hin;clear hin;go_wp2
     go_quiet ((go_at_call 178;exact Calls.quiet_of_same (qBg t o c _ true H.out HNE.out HI.out)))
     go_wp2
     go_ret
     have e:=HR.out;rw[HI.out,if_pos ⟨HY.out,rfl⟩]at e;rw[<-HQ.out,e];exact⟨rfl,(hbl.alloc hbl.size _).drewE _⟩
   ·have hy':(((o[0]'hlt).toNat:Int)==34)=false:=by rw[H0.out];simpa using hy
    have HY:=qAF hy;clear hy;go_wp2
    go_quiet (fail)
    go_wp2
    go_roundw
    case rel =>
     refine⟨3+1,by go_num,by omega,(hbl.alloc hbl.size _).drewE _,qAF ?_⟩;have e:=HR.out;rw[if_neg (fun h=>HY.out h.1)]at e;exact e.symm.trans HQ.out
    case measure=>simp[intOf]
  ·go_wp2
   go_ret
   have e:qC8 t.data.toList c=[c]:=HQ.out.symm;rw[e,<-HO.out];exact⟨rfl,hbl⟩
theorem qLD(sp l:List UInt8)(b:UInt8):qBp sp (l++[b])=qBp sp l++qC8 sp b:=by simp[qBp]
theorem qHJ(sp:List UInt8):∀l,(qBp sp l).length<=6*l.length/\l.length<=(qBp sp l).length
 |[]=>by simp[qBp]
 |b::l=>by
  have h1:=qPW sp b;have h2:=qHJ sp l;simp only[qBp,List.flatMap_cons,List.length_append,List.length_cons]at *;omega
theorem Wr.below{B wb db:Nat}{w w':World}{out:List UInt8}{pl:Nat}{op:Int}(h:Wr w B wb db out pl op)(k:Below w.heap.size w w'):Wr w' B wb db out pl op:=h.kept (Kp.ofBelow (B:=0) (T:=[]) k) (by simp) (by simp)
theorem qL4(s:ByteArray)(k:Nat)(h:k<s.size):s.data.toList.take (k+1)=s.data.toList.take k++[s[k]]:=by
 rw[List.take_succ_eq_append_getElem (by simpa using h)];rfl
theorem qHp(B wb db:Nat)(out:List UInt8)(pl:Nat)(op:Int)(t sp:ByteArray)(w:World)(h:Wr w B wb db out pl op)(hB:B<=wb)(hg:Gl w)(hB0:1<B)(hsp:sp.size=3)(ht:t.size<=100000)(hs:out.length+(qBp sp.data.toList t.data.toList).length<=1000000) :
  Calls prog 113 #[.pointer (some ⟨wb,0,none⟩),.string t,.string sp] w fun e w'=>e=.returned (.tuple #[])/\Wr w' B wb db (out++qBp sp.data.toList t.data.toList) pl op/\Kp B TW w w':=by
 go_enter func113,ntmps113
 go_wp2
 go_loopw [9] (fun i wr=>∃k:Nat,i=.int .i64 k/\k<=t.size/\Wr wr B wb db (out++qBp sp.data.toList (t.data.toList.take k)) pl op/\Kp B TW w wr) (fun i _=>t.size-(intOf i).toNat)
 case atStart=>exact⟨0,rfl,Nat.zero_le _,by simpa [qBp]using h,Kp.refl _ _ _⟩
 case round =>
  obtain⟨k,rfl,hkt,hwr,hk⟩:=hrel;by_cases hlt:k<t.size
  ·have hone:(t.extract k (k+1)).data.toList=[t[k]]:=by
    rw[Lib.extract_data,Nat.add_sub_cancel_left,qFc hlt];rfl
   have hbd:(qBp sp.data.toList (t.data.toList.take k)++qC8 sp.data.toList t[k]).length<=(qBp sp.data.toList t.data.toList).length:=by
    rw[<-qLD,<-qL4 t k hlt];have:qBp sp.data.toList t.data.toList=qBp sp.data.toList (t.data.toList.take (k+1))++qBp sp.data.toList (t.data.toList.drop (k+1)):=by
     simp only[qBp,<-List.flatMap_append,List.take_append_drop]
    rw[this,List.length_append];omega
   have hne:((t.extract k (k+1)).toList==sp.toList)=false:=by
    rw[beq_eq_false_iff_ne];intro e;have:=congrArg List.length e;rw[Lib.toList_data,Lib.toList_data,hone]at this;have h3:sp.data.toList.length=sp.size:=by simp
    rw[h3,hsp]at this;simp at this
   have HOne:=qAF hone;have HNE:=qAF hne;have HBD:=qAF hbd;clear hone hne hbd;have hgr:=hg.kept hk hB0;have hw1:IntKind.i64.wrap ((k:Int)+1)=(k:Int)+1:=IntWalk.i64_in _ (by omega);have hsl:∀wx:World,(Instr.slice 9 (.string t) (some (.int .i64 (k:Int))) (some (.int .i64 ((k:Int)+1))) none).run prog wx=.ok (.string (t.extract k (k+1))) wx:=fun wx=>by
    rw[run_slice_string wx 9 t .i64 .i64 (k:Int) ((k:Int)+1) underlying9 (by omega) (by omega) (by omega)];rfl
   go_wp2
   go_region_held3 (fun _=>True) (trivial) (first|(go_at_call 139;refine(qMy (t.extract k (k+1)) sp t[k] wr.drew HOne.out HNE.out hgr).mono ?_;rintro e w1 ⟨rfl,hb1⟩;have hb2:Below wr.heap.size wr w1:=⟨hb1.os,hb1.tape,hb1.output,hb1.size,hb1.block⟩)|(go_at_call 112;refine(qBy B wb db _ pl op _ _ (hwr.below hb2) hB ?_).mono ?_;(have:=HBD.out;simp only[List.length_append]at this ⊢;show _+(qC8 sp.data.toList t[k]).toArray.size<=_;simp only[List.size_toArray];omega);rintro e w3 ⟨rfl,hwr3,hk3⟩))
   go_wp2
   have hk4:=(hk.belowD hb2 rfl rfl rfl rfl rfl).trans hk3;go_roundw
   case rel =>
    refine⟨k+1,by go_num,by omega,?_,hk4⟩;rw[qL4 t k hlt,qLD,<-List.append_assoc];simpa using hwr3
   case measure=>simp[intOf];omega
  ·have e:k=t.size:=by omega
   have hd:t.data.toList.take k=t.data.toList:=List.take_of_length_le (by simp;omega);rw[hd]at hwr;go_wp2
   go_end0
   exact⟨rfl,hwr,hk⟩
theorem Kp.fromDrew{B:Nat}{T:List TypeId}{a w:World}(h:Kp B T a.drew w):Kp B T a w:=⟨h.os,h.tape,h.output,h.size,h.block⟩
theorem Dc.keptW{B B' db:Nat}{w w':World}{b:BS}(h:Dc w B db b)(k:Kp B' TW w w'):Dc w' B db b:=by
 obtain⟨ve,avs,a1,a2,a3,a5⟩:=h;exact⟨ve,avs,k.at a1 (by decide),a2,k.owns a3 (by decide),fun i x a hx ha=>k.owns (a5 i x a hx ha) (by decide)⟩
def tsp:List UInt8:=[38,60,62]
def vsp:List UInt8:=[38,60,34]
def qBL(b:BS)(pl q:Nat):List UInt8:=(b.txt.drop pl).take (q-pl)
theorem qDt{w:World}{B wb db:Nat}{out:List UInt8}{pl:Nat}{op:Int}(h:Wr w B wb db out pl op):w.cell? ⟨wb,0,none⟩=some (.pointer (some ⟨db,0,none⟩))/\w.cell? ⟨wb,3,none⟩=some (.int .i64 (pl:Int))/\w.cell? ⟨wb,4,none⟩=some (.int .i64 op)/\w.frozen? ⟨wb,3,none⟩=false/\w.frozen? ⟨wb,4,none⟩=false:=by
 obtain⟨sa,vb,a1,a2,a3⟩:=h;obtain⟨c0,c1,c2,c3,c4⟩:=qGF a1;exact⟨c0,c3,c4,qAd a1,qAd a1⟩
theorem qMJ{w:World}{B db:Nat}{b:BS}(h:Dc w B db b):w.cell? ⟨db,1,none⟩=some (.string ⟨b.txt.toArray⟩):=by
 obtain⟨ve,avs,a1,a2,a3,a5⟩:=h;exact qAS a1
theorem qOI{w:World}{B wb db:Nat}{out:List UInt8}{pl q:Nat}{op:Int}(h:Wr w B wb db out pl op)(hB:B<=wb):Wr (w.setCell ⟨wb,3,none⟩ (.int .i64 (q:Int))) B wb db out q op/\Kp B TW w (w.setCell ⟨wb,3,none⟩ (.int .i64 (q:Int))):=by
 obtain⟨sa,vb,a1,a2,a3⟩:=h;exact⟨⟨sa,vb,qQY a1,a2,qDk (p:=⟨wb,3,none⟩) a3 a1 (by decide) _⟩,(Kp.refl _ _ _).setCell (p:=⟨wb,3,none⟩) a1 (by decide) hB _⟩
theorem qIX{w:World}{B wb db:Nat}{out:List UInt8}{pl:Nat}{op o':Int}(h:Wr w B wb db out pl op)(hB:B<=wb):Wr (w.setCell ⟨wb,4,none⟩ (.int .i64 o')) B wb db out pl o'/\Kp B TW w (w.setCell ⟨wb,4,none⟩ (.int .i64 o')):=by
 obtain⟨sa,vb,a1,a2,a3⟩:=h;exact⟨⟨sa,vb,qQZ a1,a2,qDk (p:=⟨wb,4,none⟩) a3 a1 (by decide) _⟩,(Kp.refl _ _ _).setCell (p:=⟨wb,4,none⟩) a1 (by decide) hB _⟩
theorem qEY{Bd:Nat}(B wb db:Nat)(b:BS)(out:List UInt8)(pl q:Nat)(op:Int)(w:World)(h:Wr w B wb db out pl op)(hd:Dc w Bd db b)(hB:B<=wb)(hg:Gl w)(hB0:1<B)(h1:pl<=q)(h2:q<=b.txt.length)(h3:b.txt.length<=5000)(hs:out.length+(qBp tsp (qBL b pl q)).length<=1000000) :
  Calls prog 75 #[.pointer (some ⟨wb,0,none⟩),.int .i64 (q:Int)] w fun e w'=>e=.returned (.tuple #[])/\Wr w' B wb db (out++qBp tsp (qBL b pl q)) q op/\Kp B TW w w':=by
 obtain⟨c0,c3,c4,f3,f4⟩:=qDt h;have d1:=qMJ hd;have hext:(⟨b.txt.toArray⟩:ByteArray).extract pl q=⟨(qBL b pl q).toArray⟩:=qSS _ _ _;have hlen:(qBL b pl q).length<=5000:=by unfold qBL;simp;omega
 have hsl:∀wx:World,(Instr.slice 9 (.string ⟨b.txt.toArray⟩) (some (.int .i64 (pl:Int))) (some (.int .i64 (q:Int))) none).run prog wx=.ok (.string ⟨(qBL b pl q).toArray⟩) wx:=fun wx=>by
  rw[run_slice_string wx 9 _ .i64 .i64 (pl:Int) (q:Int) underlying9 (by omega) (by omega) (by show(q:Int)<=(b.txt.toArray.size:Int);simp;omega)];rw[Int.toNat_natCast,Int.toNat_natCast,hext]
 have HL:=qAF hlen;have HX:=qAF hext;clear hlen hext;have hi1:(pl:Int)<=(q:Int):=by omega
 have hi2:(q:Int)<=(b.txt.length:Int):=by omega
 go_enter func75,ntmps75
 go_wp2
 go_region_held3 (fun wx=>wx.cell? ⟨wb,0,none⟩=some (.pointer (some ⟨db,0,none⟩))/\wx.cell? ⟨wb,3,none⟩=some (.int .i64 (pl:Int))/\wx.cell? ⟨db,1,none⟩=some (.string ⟨b.txt.toArray⟩)) (first|exact hS|simp[go_sem, *]) (first|(go_at_call 113;refine(qHp B wb db out pl op ⟨(qBL b pl q).toArray⟩ ⟨#[38,60,62]⟩ w.drew h hB hg hB0 rfl ?_ ?_).mono ?_;(have:=HL.out;show(qBL b pl q).toArray.size<=_;simp only[List.size_toArray];omega);(exact hs);rintro e w1 ⟨rfl,hw1,hk1'⟩;have hk1:=hk1'.fromDrew;have g1:=qDt hw1;have hS:=And.intro g1.1 (And.intro g1.2.1 (qMJ (hd.keptW hk1)))))
 have f3':=g1.2.2.2.1;have g3:=g1.2.1;go_wp2
 go_end0
 exact⟨rfl,(qOI hw1 hB).1,hk1.trans (qOI hw1 hB).2⟩
structure WS where
 out:List UInt8
 pl:Nat
 op:Int
def qBz(b:BS)(s:WS)(q:Int):Option WS :=
 if (s.pl:Int)<=q/\q<=b.txt.length then some ⟨s.out++qBp tsp (qBL b s.pl q.toNat),q.toNat,s.op⟩else none
def qDE(n:ByteArray):List UInt8:=if qEs n=true then[]else[60,47]++n.data.toList++[62]
def qBO(b:BS)(around:Int):Nat->WS->Option WS
 |0,s=>if s.op=around then some s else none
 | f + 1, s =>
  if s.op=around then some s
  else if s.op<0 then none
  else match b.els[s.op.toNat]? with
   |none=>none
   | some x =>
    if x.parent<s.op then
     match qBz b s x.hi with
     |none=>none
     |some s'=>qBO b around f ⟨s'.out++qDE x.name,s'.pl,x.parent⟩
    else none
theorem qDJ{b:BS}{s s':WS}{q:Int}(h:qBz b s q=some s'):s.out.length<=s'.out.length/\s'.op=s.op:=by
 unfold qBz at h;split at h
 ·cases h;simp
 ·cases h
theorem qDd{b:BS}{around:Int}:∀(f:Nat)(s s':WS),qBO b around f s=some s'->s.out.length<=s'.out.length
 |0,s,s',h=>by
  rw[qBO]at h;split at h
  ·cases h;exact Nat.le_refl _
  ·cases h
 | f + 1, s, s', h => by
  rw[qBO]at h;split at h
  ·cases h;exact Nat.le_refl _
  ·split at h
   ·cases h
   ·split at h
    ·cases h
    ·split at h
     ·split at h
      ·cases h
      ·rename_i s1 h1;have m1:=(qDJ h1).1;have m2:=qDd f _ s' h;simp only[List.length_append]at m2;omega
     ·cases h
def qQ6(w:World)(wb:Nat):Nat:=match w.cell? ⟨wb,4,none⟩with|some (.int _ x)=>(x+1).toNat|_=>0
theorem qF7{w:World}{B wb db:Nat}{out:List UInt8}{pl:Nat}{op:Int}(h:Wr w B wb db out pl op):qQ6 w wb=(op+1).toNat:=by
 unfold qQ6;rw[(qDt h).2.2.1]
theorem qWf{w:World}{B db:Nat}{b:BS}(h:Dc w B db b){k:Nat}{x:El}(hx:b.els[k]? = some x) :
  ∃g cap aoa cpa,w.cell? ⟨db,0,none⟩=some (.slice (some ⟨g,0,none⟩) b.els.length cap)/\w.cell? ⟨g,k*5,none⟩=some (.string x.name)/\w.cell? ⟨g,k*5+1,none⟩=some (.int .i64 x.parent)/\w.cell? ⟨g,k*5+2,none⟩=some (.slice aoa x.attrs.length cpa) /\
   w.cell? ⟨g,k*5+3,none⟩=some (.int .i64 x.lo)/\w.cell? ⟨g,k*5+4,none⟩=some (.int .i64 x.hi)/\w.ownsRow B 169 2 (.slice aoa x.attrs.length cpa) x.attrs.length (attrCells x.attrs)/\g<w.heap.size/\db<w.heap.size:=by
 obtain⟨ve,avs,a1,a2,a3,a5⟩:=h;have hlt:k<b.els.length:=(List.getElem?_eq_some_iff.1 hx).1;obtain⟨g,cap,hv,hBg,hgs⟩:=qHU a3 (by omega);subst hv;have hav:avs[k]? = some (avs[k]'(by omega)):=List.getElem?_eq_getElem (by omega);generalize avs[k]'(by omega)=av at hav;obtain⟨e0,e1,e2,e3,e4⟩:=qCr b.els avs k x _ hx hav;have oa:=a5 k x av hx hav;obtain⟨aoa,cpa,hav2⟩:=qBA oa;subst hav2;exact⟨g,cap,aoa,cpa,qAJ a1,by rw[a3.cellAt _ (by omega),e0],by rw[a3.cellAt _ (by omega),e1],by rw[a3.cellAt _ (by omega),e2],by rw[a3.cellAt _ (by omega),e3],by rw[a3.cellAt _ (by omega),e4],oa,hgs,lt_of_block a1⟩
theorem qFY{Bd:Nat}(B wb db:Nat)(b:BS)(around:Int)(F:Nat)(s fin:WS)(w:World)(h:Wr w B wb db s.out s.pl s.op)(hd:Dc w Bd db b)(hB:B<=wb)(hg:Gl w)(hB0:1<B)(h3:b.txt.length<=5000)(_h4:b.els.length<=5000)(hn:∀(i:Nat)(x:El),b.els[i]? = some x->x.name.size<=16)
  (hf:qBO b around F s=some fin) (hs:fin.out.length<=1000000) :
  Calls prog 74 #[.pointer (some ⟨wb,0,none⟩),.int .i64 around] w fun e w'=>e=.returned (.tuple #[])/\Wr w' B wb db fin.out fin.pl fin.op/\Kp B TW w w':=by
 go_enter func74,ntmps74
 go_wp2
 go_loopw [5] (fun _ wr=>∃(f:Nat)(st:WS),Wr wr B wb db st.out st.pl st.op/\Hid (qBO b around f st=some fin)/\Kp B TW w wr) (fun _ wr=>qQ6 wr wb)
 case atStart=>exact⟨F,s,h,hf,Kp.refl _ _ _⟩
 case round =>
  clear h hf;obtain⟨f,st,hwr,HQ,hk⟩:=hrel;have hdr:=hd.keptW hk;obtain⟨c0,c3,c4,f3,f4⟩:=qDt hwr;by_cases he:st.op=around
  ·have hfin:st=fin:=by
    have:=HQ.out;cases f with
    |zero=>rw[qBO,if_pos he]at this;exact Option.some.inj this
    |succ f=>rw[qBO,if_pos he]at this;exact Option.some.inj this
   subst hfin;have he':(st.op != around)=false:=by simp[he]
   clear he;go_wp2
   go_end0
   exact⟨rfl,hwr,hk⟩
  ·have hex:∃(f' k:Nat)(x:El)(s':WS),st.op=(k:Int)/\b.els[k]? = some x/\x.parent<st.op/\qBz b st x.hi=some s'/\qBO b around f' ⟨s'.out++qDE x.name,s'.pl,x.parent⟩=some fin:=by
    have:=HQ.out;cases f with
    |zero=>rw[qBO,if_neg he]at this;cases this
    | succ f =>
     rw[qBO,if_neg he]at this;split at this
     ·cases this
     ·split at this
      ·cases this
      ·rename_i hneg _ x hx;split at this
       ·split at this
        ·cases this
        ·rename_i hp _ s' hs';exact⟨f,st.op.toNat,x,s',by omega,hx,hp,hs',this⟩
       ·cases this
   obtain⟨f',k,x,s',hk1,hx,hpar,htx,hcl⟩:=hex;have hlt:k<b.els.length:=(List.getElem?_eq_some_iff.1 hx).1;have hnx:=hn k x hx;obtain⟨q,hq1,hq2,hq3,hq4⟩:∃q:Nat,x.hi=(q:Int)/\st.pl<=q/\q<=b.txt.length/\s'=⟨st.out++qBp tsp (qBL b st.pl q),q,st.op⟩:=by
    unfold qBz at htx;split at htx
    ·rename_i hc;exact⟨x.hi.toNat,by omega,by omega,by omega,(Option.some.inj htx).symm⟩
    ·cases htx
   subst hq4;have hmono:=qDd f' _ fin hcl;simp only[List.length_append]at hmono;have he':(st.op != around)=true:=by simp[he]
   rw[hk1]at hwr c4 he' hpar;obtain⟨g,cap,aoa,cpa,d0,e0,e1,e2,e3,e4,eo,hgs,hdbs⟩:=qWf hdr hx;rw[hq1]at e4;have HCL:=qAF hcl;have HK1:=qAF hk1;clear he hk1 hx htx hcl eo HQ;have hwbs:wb<wr.heap.size:=by obtain⟨sa,vb,a1,_⟩:=hwr;exact lt_of_block a1
   have hks:(k:Int)<(b.els.length:Int):=by omega
   go_wp2
   go_region_held3 (fun wx=>wx.cell? ⟨wb,0,none⟩=some (.pointer (some ⟨db,0,none⟩))/\wx.cell? ⟨wb,4,none⟩=some (.int .i64 (k:Int))/\wx.cell? ⟨db,0,none⟩=some (.slice (some ⟨g,0,none⟩) b.els.length cap)/\wx.cell? ⟨g,k*5,none⟩=some (.string x.name)/\wx.cell? ⟨g,k*5+1,none⟩=some (.int .i64 x.parent)/\wx.cell? ⟨g,k*5+1+1,none⟩=some (.slice aoa x.attrs.length cpa)/\wx.cell? ⟨g,k*5+1+1+1,none⟩=some (.int .i64 x.lo)/\wx.cell? ⟨g,k*5+1+1+1+1,none⟩=some (.int .i64 (q:Int))) (simp[go_sem,World.cell?_alloc_past, *]) (fail)
   go_wp2_with fail
   refine(qEY (Bd:=Bd) B wb db b st.out st.pl q (k:Int) _ ?_ ?_ hB ?_ hB0 hq2 hq3 h3 (by omega)).mono ?_
   ·exact hwr.kept ((Kp.refl 0 [] wr).alloc _).drew (by simp) (by simp)
   ·exact hdr.keptW ((Kp.refl 0 TW wr).alloc _).drew
   ·exact(hg.kept hk hB0).alloc _
   rintro e w1⟨rfl,hw1,hk1⟩;have bx1:=hk1.at (k:=wr.heap.size) (t:=139) (qAE wr _) (by decide);obtain⟨z0,z1,z2,z3,z4⟩:=qGF bx1;have K1:=(hk.alloc _).trans hk1.fromDrew;have hmono2:(qDE x.name).length<=1000000:=by omega
   cases hv:qEs x.name
   ·have HV:=qAF hv;have hcl:qDE x.name=[60,47]++x.name.data.toList++[62]:=by unfold qDE;rw[hv];rfl
    have HC2:=qAF hcl;clear hv hcl;go_wp2_with (go_at_call 111;refine(qFf x.name _ _ HV.out).mono ?_;rintro e w2 ⟨rfl,rfl⟩)
    have hstr:(({ data:=#[60,47] }:ByteArray)++x.name++{ data:=#[62] }).data.toList=qDE x.name:=by rw[HC2.out];simp[ByteArray.data_append]
    have HStr:=qAF hstr;have hss:(({ data:=#[60,47] }:ByteArray)++x.name++{ data:=#[62] }).size=(qDE x.name).length:=by rw[Lib.size_eq,hstr]
    have HSS:=qAF hss;clear hstr hss;go_region_with (go_at_call 112;refine(qBy B wb db _ q (k:Int) _ w2.drew hw1 hB ?_).mono ?_;(rw[HSS.out,List.length_append];omega);rintro e w3 ⟨rfl,hw3,hk3'⟩;have hk3:=hk3'.fromDrew;have bx3:=hk3.at bx1 (by decide))
    all_goals
     rw[HStr.out]at hw3;obtain⟨y0,y1,y2,y3,y4⟩:=qGF bx3;obtain⟨v0,v3,v4,vf3,vf4⟩:=qDt hw3;go_wp2
     go_roundw
     case rel =>
      have o:=qIX (o':=x.parent) hw3 hB;exact⟨f',⟨_,q,x.parent⟩,o.1,HCL,(K1.trans hk3).trans o.2⟩
     case measure =>
      rw[qF7 (qIX (o':=x.parent) hw3 hB).1,qF7 hwr];omega
   ·have HV:=qAF hv;have hcl:qDE x.name=[]:=by unfold qDE;rw[hv];rfl
    have HC2:=qAF hcl;clear hv hcl;obtain⟨v0,v3,v4,vf3,vf4⟩:=qDt hw1;go_wp2_with (go_at_call 111;refine(qFf x.name _ _ HV.out).mono ?_;rintro e w2 ⟨rfl,rfl⟩)
    go_roundw
    case rel =>
     have o:=qIX (o':=x.parent) hw1 hB;have hcl2:=HCL.out;rw[HC2.out,List.append_nil]at hcl2;exact⟨f',⟨_,q,x.parent⟩,o.1,hcl2,K1.trans o.2⟩
    case measure =>
     rw[qF7 (qIX (o':=x.parent) hw1 hB).1,qF7 hwr];omega
def qFR(a:ByteArray×ByteArray):List UInt8:=[32]++a.1.data.toList++[61,34]++qBp vsp a.2.data.toList++[34]
def qAh(l:List (ByteArray×ByteArray)):List UInt8:=l.flatMap qFR
def qCz(x:El):List UInt8:=[60]++x.name.data.toList++qAh x.attrs++[62]
theorem qHc(l:List (ByteArray×ByteArray))(a:ByteArray×ByteArray):qAh (l++[a])=qAh l++qFR a:=by simp[qAh]
theorem qPZ{Bd:Nat}(B wb db:Nat)(x:El)(av:Value)(out:List UInt8)(pl:Nat)(op:Int)(w:World)(h:Wr w B wb db out pl op)(hB:B<=wb)(hg:Gl w)(hB0:1<B)(ho:w.ownsRow Bd 169 2 av x.attrs.length (attrCells x.attrs))(hn:x.name.size<=16)(hl:x.attrs.length<=5000)
  (ha:∀a∈x.attrs,a.1.size<=16/\a.2.size<=100000) (hs:out.length+(qCz x).length<=1000000) :
  Calls prog 76 #[.pointer (some ⟨wb,0,none⟩),.agg #[.string x.name,.int .i64 x.parent,av,.int .i64 x.lo,.int .i64 x.hi]] w fun e w'=>e=.returned (.tuple #[])/\Wr w' B wb db (out++qCz x) pl op/\Kp B TW w w':=by
 obtain⟨ao,cp,hav⟩:=qBA ho;subst hav;have hlen:(qCz x).length=1+x.name.size+(qAh x.attrs).length+1:=by
  unfold qCz;have:x.name.data.toList.length=x.name.size:=by simp
  simp only[List.length_append,this,List.length_singleton]
 have hstr:(({ data:=#[60] }:ByteArray)++x.name).data.toList=[60]++x.name.data.toList:=by simp[ByteArray.data_append]
 have hss:(({ data:=#[60] }:ByteArray)++x.name).size=1+x.name.size:=by rw[Lib.size_eq,hstr,List.length_append];simp
 have HStr:=qAF hstr;have HSS:=qAF hss;clear hstr hss;have hK0:∀(w1:World),Kp B TW (w.alloc (.cells #[.string x.name,.int .i64 x.parent,.slice ao x.attrs.length cp,.int .i64 x.lo,.int .i64 x.hi] 139)) w1->Kp B TW w w1:=fun w1 k=>((Kp.refl B TW w).alloc _).trans k;rcases ho.2 with⟨hnil,h0⟩|⟨ga,capa,cur,hrow,hBa,hga,_⟩
 ·have hat:x.attrs=[]:=List.eq_nil_of_length_eq_zero h0;have hao:ao=none/\cp=0:=by simp only[Value.slice.injEq]at hnil;exact⟨hnil.1,hnil.2.2⟩
  obtain⟨rfl,rfl⟩:=hao;have HB:Hid (qCz x=[60]++x.name.data.toList++[62]):=by unfold qCz qAh;rw[hat];simp[Hid]
  have hl0:(x.attrs.length:Int)=0:=by omega
  clear hnil h0 hat;go_enter func76,ntmps76
  go_wp2
  go_region_with (go_at_call 112;refine(qBy B wb db out pl op _ _ ?_ hB ?_).mono ?_;(exact h.kept ((Kp.refl 0 [] w).alloc _).drew (by simp) (by simp));(rw[HSS.out];omega);rintro e w1 ⟨rfl,hw1,hk1'⟩;have hk1:=hk1'.fromDrew;have bx1:=hk1.at (k:=w.heap.size) (t:=139) (qAE w _) (by decide))
  all_goals
   obtain⟨z0,z1,z2,z3,z4⟩:=qGF bx1;go_wp2
   have hw62:(out++(({ data:=#[60] }:ByteArray)++x.name).data.toList).length+(⟨#[62]⟩:ByteArray).size<=1000000:=by
    have e1:x.name.data.toList.length=x.name.size:=by simp
    have e2:(⟨#[62]⟩:ByteArray).size=1:=rfl;rw[List.length_append,HStr.out,List.length_append,e1,e2,List.length_singleton];omega
   refine wp_loop_rounds 1 ?_;rw[rounds_succ];go_wp2_with fail
   refine(qBy B wb db _ pl op ⟨#[62]⟩ _ hw1 hB hw62).mono ?_;rintro e w2⟨rfl,hw2,hk2⟩;go_wp2
   go_end0
   refine⟨rfl,?_,(hK0 _ hk1).trans hk2⟩;rw[HB.out];rw[HStr.out]at hw2;simpa [List.append_assoc]using hw2
 ·have hao:ao=some ⟨ga,0,none⟩/\cp=capa:=by simp only[Value.slice.injEq]at hrow;exact⟨hrow.1,hrow.2.2⟩
  obtain⟨rfl,rfl⟩:=hao;have hgas:=lt_of_block hga;have HO:=qAF ho;clear hrow hga ho;go_enter func76,ntmps76
  go_wp2
  go_region_with (go_at_call 112;refine(qBy B wb db out pl op _ _ ?_ hB ?_).mono ?_;(exact h.kept ((Kp.refl 0 [] w).alloc _).drew (by simp) (by simp));(rw[HSS.out];omega);rintro e w1 ⟨rfl,hw1,hk1'⟩;have hk1:=hk1'.fromDrew;have bx1:=hk1.at (k:=w.heap.size) (t:=139) (qAE w _) (by decide))
  all_goals
   obtain⟨z0,z1,z2,z3,z4⟩:=qGF bx1;rw[HStr.out]at hw1;have K1:=hK0 _ hk1;go_wp2
   go_loopw [16] (fun i wr=>∃k:Nat,i=.int .i64 k/\k<=x.attrs.length/\Wr wr B wb db (out++([60]++x.name.data.toList)++qAh (x.attrs.take k)) pl op/\Kp B TW w wr) (fun i _=>x.attrs.length-(intOf i).toNat)
   case atStart=>exact⟨0,rfl,Nat.zero_le _,by simpa [qAh]using hw1,K1⟩
   case round =>
    clear hw1 hk1 hk1' bx1 z0 z1 z2 z3 z4 K1 hK0;obtain⟨k,rfl,hkl,hwr,hk⟩:=hrel;have hpre:∀j,j<=x.attrs.length->(qAh (x.attrs.take j)).length<=(qAh x.attrs).length:=fun j _=>by
     have:qAh x.attrs=qAh (x.attrs.take j)++qAh (x.attrs.drop j):=by simp only[qAh,<-List.flatMap_append,List.take_append_drop]
     rw[this,List.length_append];omega
    have hnl:x.name.data.toList.length=x.name.size:=by simp
    by_cases hlt:k<x.attrs.length
    ·obtain⟨y,hy⟩:∃y,x.attrs[k]? = some y:=⟨x.attrs[k],List.getElem?_eq_getElem hlt⟩;have hmem:y∈x.attrs:=List.mem_of_getElem? hy;obtain⟨hy1,hy2⟩:=ha y hmem;obtain⟨q1,q2⟩:=qDC x.attrs k y hy;have r1:wr.cell? ⟨ga,k*2,none⟩=some (.string y.1):=by rw[(hk.owns HO.out (by decide)).cellAt _ (by omega),q1]
     have r2:wr.cell? ⟨ga,k*2+1,none⟩=some (.string y.2):=by rw[(hk.owns HO.out (by decide)).cellAt _ (by omega),q2]
     have htk:x.attrs.take (k+1)=x.attrs.take k++[y]:=by
      rw[List.take_succ_eq_append_getElem hlt];rw[List.getElem?_eq_getElem hlt]at hy;rw[Option.some.inj hy]
     have hln:=hpre (k+1) hlt;rw[htk,qHc,List.length_append]at hln;have hy1l:y.1.data.toList.length=y.1.size:=by simp
     have hy2l:y.2.data.toList.length=y.2.size:=by simp
     have haw:(qFR y).length=1+y.1.size+2+(qBp vsp y.2.data.toList).length+1:=by
      unfold qFR;simp only[List.length_append,hy1l,List.length_cons,List.length_nil]
     have hstr2:(({ data:=#[32] }:ByteArray)++y.1++{ data:=#[61,34] }).data.toList=[32]++y.1.data.toList++[61,34]:=by simp[ByteArray.data_append]
     have hss2:(({ data:=#[32] }:ByteArray)++y.1++{ data:=#[61,34] }).size=1+y.1.size+2:=by rw[Lib.size_eq,hstr2];simp only[List.length_append,hy1l,List.length_cons,List.length_nil]
     have HStr2:=qAF hstr2;have HSS2:=qAF hss2;have HTK:=qAF htk;have hwl:(out++([60]++x.name.data.toList)++qAh (x.attrs.take k)).length=out.length+(1+x.name.size)+(qAh (x.attrs.take k)).length:=by simp only[List.length_append,hnl,List.length_singleton]
     have HWL:=qAF hwl;clear hstr2 hss2 htk q1 q2 hy hwl hmem hpre hnl hy1l;go_wp2
     go_region_with (go_at_call 112;refine(qBy B wb db (out++([60]++x.name.data.toList)++qAh (x.attrs.take k)) pl op _ _ ?_ hB ?_).mono ?_;(exact hwr.kept ((Kp.refl 0 [] wr).alloc _).drew (by simp) (by simp));(rw[HSS2.out,HWL.out];omega);rintro e w2 ⟨rfl,hw2,hk2'⟩;have hk2:=hk2'.fromDrew;have bx2:=hk2.at (k:=wr.heap.size) (t:=169) (qAE wr _) (by decide))
     all_goals
      have m0:=qAJ bx2;have m1:=qAS bx2;rw[HStr2.out]at hw2;have hwl2:(out++([60]++x.name.data.toList)++qAh (x.attrs.take k)++([32]++y.1.data.toList++[61,34])).length=out.length+(1+x.name.size)+(qAh (x.attrs.take k)).length+(1+y.1.size+2):=by
       have e3:y.1.data.toList.length=y.1.size:=by simp
       rw[List.length_append,HWL.out];simp only[List.length_append,e3,List.length_cons,List.length_nil]
      have hg2:=((hg.kept hk hB0).alloc (.cells #[.string y.1,.string y.2] 169)).kept hk2 hB0;go_wp2_with fail
      refine(qHp B wb db _ pl op y.2 ⟨#[38,60,34]⟩ _ hw2 hB hg2 hB0 rfl (by omega) ?_).mono ?_
      ·rw[hwl2];show _+(qBp vsp y.2.data.toList).length<=_;omega
      rintro e w3⟨rfl,hw3,hk3⟩;have hwl3:(out++([60]++x.name.data.toList)++qAh (x.attrs.take k)++([32]++y.1.data.toList++[61,34])++qBp vsp y.2.data.toList).length+(⟨#[34]⟩:ByteArray).size<=1000000:=by
       have e4:(⟨#[34]⟩:ByteArray).size=1:=rfl;rw[List.length_append,hwl2,e4];omega
      go_wp2_with fail
      refine(qBy B wb db _ pl op ⟨#[34]⟩ _ hw3 hB hwl3).mono ?_;rintro e w4⟨rfl,hw4,hk4⟩;go_wp2
      go_roundw
      case rel =>
       refine⟨k+1,by go_num,by omega,?_,(((hk.alloc _).trans hk2).trans hk3).trans hk4⟩;rw[HTK.out,qHc];have e5:qFR y=([32]++y.1.data.toList++[61,34])++qBp vsp y.2.data.toList++[34]:=by unfold qFR;simp[List.append_assoc]
       rw[e5];simpa [List.append_assoc,vsp]using hw4
      case measure=>simp[intOf];omega
    ·have hd:x.attrs.take k=x.attrs:=List.take_of_length_le (by omega);rw[hd]at hwr;have hwl4:(out++([60]++x.name.data.toList)++qAh x.attrs).length+(⟨#[62]⟩:ByteArray).size<=1000000:=by
      have e4:(⟨#[62]⟩:ByteArray).size=1:=rfl;rw[e4];simp only[List.length_append,hnl,List.length_singleton];omega
     clear hd;go_wp2_with fail
     refine(qBy B wb db _ pl op ⟨#[62]⟩ _ hwr hB hwl4).mono ?_;rintro e w4⟨rfl,hw4,hk4⟩;go_wp2
     go_end0
     refine⟨rfl,?_,hk.trans hk4⟩;unfold qCz;simpa [List.append_assoc]using hw4
theorem Kp.freeze{B:Nat}{T:List TypeId}{a w:World}(h:Kp B T a w){p:Addr}{c:Array Value}{t:TypeId}{fr:Nat×Nat}(hp:w.heap[p.block]? = some (.cells c t fr))(ht:t∈T)(hB:B<=p.block)(n:Nat):Kp B T a (w.freeze p n):=by
 by_cases hn:n=0
 ·subst hn;exact h
 refine h.trans ?_;unfold World.freeze;rw[if_neg hn];refine⟨rfl,rfl,rfl,by simp,fun k hk hc=>?_⟩;have hne:p.block≠k:=by
  rintro rfl;rcases hc with hc|hc
  ·omega
  ·exact hc _ _ _ hp ht
 simp[Array.getElem?_modify,hne]
theorem Tryz.cellsByte:prog.cellsOf 5=1:=by kernel_rfl
theorem qLv(B wb db:Nat)(out:List UInt8)(pl:Nat)(op:Int)(w:World)(h:Wr w B wb db out pl op)(h0:out≠[])(hs:out.length<=1000000) :
  Calls prog 77 #[.pointer (some ⟨wb,1,none⟩)] w fun e w'=>e=.returned (.string ⟨out.toArray⟩)/\Kp B TW w w':=by
 obtain⟨sa,vb,a1,a2,a3⟩:=h;obtain⟨c0,c1,c2,c3,c4⟩:=qGF a1;have hl0:out.length≠0:=by simpa using h0
 obtain⟨g,cap,cur,rfl,hbg,hg,hnc,hcm,hcs,htake⟩:∃g cap cur,vb=.slice (some ⟨g,0,none⟩) out.length cap/\B<=g/\w.heap[g]? = some (.cells cur 5 (0,0))/\out.length<=cap/\cap<=maxLen/\cur.size=cap*1/\cur.toList.take (out.length*1)=u8s out:=by
  rcases a3.2 with⟨_,hz⟩|⟨g,cap,cur,hv,r⟩
  ·exact absurd hz hl0
  ·exact⟨g,cap,cur,hv,r⟩
 have hSD:(Builtin.unsafeSliceData_ #[50] 201 #[.slice (some ⟨g,0,none⟩) out.length cap]).run prog w.drew=.ok (.pointer (some ⟨g,0,none⟩)) w.drew :=
  Lib.run_unsafeSliceData_row _ _ _ _ _ _ (by omega)
 have hUS:(Builtin.unsafeString_ #[201,3] 9 #[.pointer (some ⟨g,0,none⟩),.int .i64 out.length]).run prog w.drew=.ok (.string ⟨out.toArray⟩) (w.drew.freeze ⟨g,0,none⟩ out.length):=by
  refine Lib.run_unsafeString_row w.drew 201 3 9 5 underlying201 Tryz.cellsByte g cur.size (by have hg':w.drew.heap[g]? = some (.cells cur 5 (0,0)):=hg;simp[World.shape?,hg']) out h0 (by omega) (by unfold maxLen at hcm;omega) ?_;intro j x hx;have:=a3.cells (g:=g) rfl j (.int .u8 x.toNat) (by simp[u8s,hx]);exact this
 have HB:Hid (Kp B TW w (w.drew.freeze ⟨g,0,none⟩ out.length)):=Kp.freeze (p:=⟨g,0,none⟩) (Kp.refl B TW w).drew hg (by decide) hbg _;clear hg htake hcs hcm hnc a3 a1;go_enter func77,ntmps77
 go_wp2
 go_region
 all_goals go_wp2
 all_goals go_ret
 all_goals exact⟨rfl,HB.out⟩
theorem qLu(B wb db:Nat)(out:List UInt8)(pl:Nat)(op:Int)(w:World)(h:Wr w B wb db out pl op)(hs:out.length<=1000000) :
  Calls prog 77 #[.pointer (some ⟨wb,1,none⟩)] w fun e w'=>e=.returned (.string ⟨out.toArray⟩)/\Kp B TW w w':=by
 by_cases h0:out≠[]
 ·exact qLv B wb db out pl op w h h0 hs
 obtain rfl:out=[]:=Classical.not_not.1 h0;clear h0;obtain⟨sa,vb,a1,a2,a3⟩:=h;obtain⟨c0,c1,c2,c3,c4⟩:=qGF a1;have HK0:Hid (Kp B TW w w.drew):=(Kp.refl B TW w).drew;rcases a3.2 with⟨rfl,-⟩|⟨g,cap,cur,rfl,hbg,hg,-⟩
 ·have hSD:(Builtin.unsafeSliceData_ #[50] 201 #[.slice none 0 0]).run prog w.drew=.ok (.pointer none) w.drew:=rfl;have hUS:(Builtin.unsafeString_ #[201,3] 9 #[.pointer none,.int .i64 0]).run prog w.drew=.ok (.string ⟨#[]⟩) w.drew:=Lib.run_unsafeString_none _ _ _ _ _;clear a3 a1;go_enter func77,ntmps77
  go_wp2
  go_region
  all_goals go_wp2
  all_goals go_ret
  all_goals exact⟨rfl,HK0.out⟩
 ·by_cases hcap:cap=0
  ·subst hcap;have hSD:(Builtin.unsafeSliceData_ #[50] 201 #[.slice (some ⟨g,0,none⟩) 0 0]).run prog w.drew=.ok (.pointer (some ⟨w.heap.size,0,none⟩)) (w.alloc (.view ⟨g,0,none⟩ 5)).drew :=
    Lib.run_unsafeSliceData_zero _ _ _ _ underlying201 _ _ (5,cur.size) (by have hg':w.drew.heap[g]? = some (.cells cur 5 (0,0)):=hg;simp[World.shape?,hg'])
   have hUS:(Builtin.unsafeString_ #[201,3] 9 #[.pointer (some ⟨w.heap.size,0,none⟩),.int .i64 0]).run prog (w.alloc (.view ⟨g,0,none⟩ 5)).drew=.ok (.string ⟨#[]⟩) (w.alloc (.view ⟨g,0,none⟩ 5)).drew:=Lib.run_unsafeString_none _ _ _ _ _;have HK1:Hid (Kp B TW w (w.alloc (.view ⟨g,0,none⟩ 5)).drew):=HK0.out.alloc _;obtain⟨b0,b1,b2,b3,b4⟩:=qGF (qAG a1 (.view ⟨g,0,none⟩ 5));clear a3 a1 hg;go_enter func77,ntmps77
   go_wp2
   go_region
   all_goals go_wp2
   all_goals go_ret
   all_goals exact⟨rfl,HK1.out⟩
  ·have hSD:(Builtin.unsafeSliceData_ #[50] 201 #[.slice (some ⟨g,0,none⟩) 0 cap]).run prog w.drew=.ok (.pointer (some ⟨g,0,none⟩)) w.drew :=
    Lib.run_unsafeSliceData_row _ _ _ _ _ _ hcap
   have hUS:(Builtin.unsafeString_ #[201,3] 9 #[.pointer (some ⟨g,0,none⟩),.int .i64 0]).run prog w.drew=.ok (.string ⟨#[]⟩) w.drew:=Lib.run_unsafeString_none _ _ _ _ _;clear a3 a1 hg hcap;go_enter func77,ntmps77
   go_wp2
   go_region
   all_goals go_wp2
   all_goals go_ret
   all_goals exact⟨rfl,HK0.out⟩
def goP(b:BS):List El->Nat->WS->Option WS
 |[],_,s=>some s
 | x :: r, n, s =>
  match qBO b x.parent (b.els.length+1) s with
  |none=>none
  |some s1 =>
   match qBz b s1 x.lo with
   |none=>none
   |some s2=>goP b r (n+1) ⟨s2.out++qCz x,s2.pl,(n:Int)⟩
def qG0(b:BS):Option (List UInt8) :=
 match goP b b.els 0 ⟨[],0,-1⟩with
 |none=>none
 | some s =>
  match qBO b (-1) (b.els.length+1) s with
  |none=>none
  |some s1 =>
   match qBz b s1 (b.txt.length:Int)with
   |none=>none
   |some s2=>some s2.out
theorem qNR{b:BS}:∀(l:List El)(n:Nat)(s s':WS),goP b l n s=some s'->s.out.length<=s'.out.length
 |[],n,s,s',h=>by cases h;exact Nat.le_refl _
 | x :: r, n, s, s', h => by
  rw[goP]at h;split at h
  ·cases h
  ·rename_i s1 h1;split at h
   ·cases h
   ·rename_i s2 h2;have m1:=qDd _ _ _ h1;have m2:=(qDJ h2).1;have m3:=qNR r (n+1) _ s' h;simp only[List.length_append]at m3;omega
theorem qGy{b:BS}{s s':WS}{q:Int}(h:qBz b s q=some s'):∃k:Nat,q=(k:Int)/\s.pl<=k/\k<=b.txt.length/\s'=⟨s.out++qBp tsp (qBL b s.pl k),k,s.op⟩:=by
 unfold qBz at h;split at h
 ·exact⟨q.toNat,by omega,by omega,by omega,(Option.some.inj h).symm⟩
 ·cases h
theorem qO0{Bd:Nat}(B db:Nat)(b:BS)(out:List UInt8)(w:World)(hd:Dc w Bd db b)(hBw:B<=w.heap.size)(hg:Gl w)(hB0:1<B)(h3:b.txt.length<=5000)(h4:b.els.length<=5000)(hn:∀(i:Nat)(x:El),b.els[i]? = some x->x.name.size<=16)
  (ha:∀(i:Nat)(x:El),b.els[i]? = some x->x.attrs.length<=5000/\∀a∈x.attrs,a.1.size<=16/\a.2.size<=100000) (hf:qG0 b=some out) (hs:out.length<=1000000) :
  Calls prog 44 #[.pointer (some ⟨db,0,none⟩)] w fun e w'=>e=.returned (.string ⟨out.toArray⟩)/\Kp B TW w w':=by
 obtain⟨sf,s1,s2,hgo,hcl,htx,hout⟩:∃sf s1 s2,goP b b.els 0 ⟨[],0,-1⟩=some sf/\qBO b (-1) (b.els.length+1) sf=some s1/\qBz b s1 (b.txt.length:Int)=some s2/\s2.out=out:=by
  unfold qG0 at hf;split at hf
  ·cases hf
  ·rename_i sf h1;split at hf
   ·cases hf
   ·rename_i s1 h2;split at hf
    ·cases hf
    ·rename_i s2 h5;exact⟨sf,s1,s2,h1,h2,h5,Option.some.inj hf⟩
 have m1:=qDd _ _ _ hcl;have m2:=(qDJ htx).1;obtain⟨qe,hqe,hq1,hq2,hq3⟩:=qGy htx;have hqe':qe=b.txt.length:=by omega
 subst hqe';rw[hout]at m2;have HGO:=qAF hgo;have HCL:=qAF hcl;have HOUT:=qAF hout;have HQ3:=qAF hq3;obtain⟨ve,avs,a1,a2,a3,a5⟩:=hd;have c0:=qAJ a1;obtain⟨ao,cap,hve⟩:=qBA a3;subst hve;have hd:Dc w Bd db b:=⟨_,avs,a1,a2,a3,a5⟩;have hdbs:=lt_of_block a1;have A2:=qAF a2;have A3:=qAF a3;have A5:=qAF a5;clear hf hgo hcl htx hout hq3 a1 a2 a3 a5 hqe;have hWr:Wr (w.alloc (.cells #[.pointer (some ⟨db,0,none⟩),.pointer none,.slice none 0 0,.int .i64 0,.int .i64 (-1)] 145)) B w.heap.size db [] 0 (-1):=⟨_,_,qAE _ _,.inl rfl,World.ownsRow_nil _ _ _ _⟩;go_enter func44,ntmps44
 go_wp2
 go_loopw [14] (fun i wr=>∃(k:Nat)(st:WS),i=.int .i64 k/\k<=b.els.length/\Wr wr B w.heap.size db st.out st.pl st.op/\Hid (goP b (b.els.drop k) k st=some sf)/\Kp B TW w wr) (fun i _=>b.els.length-(intOf i).toNat)
 case atStart=>exact⟨0,⟨[],0,-1⟩,rfl,Nat.zero_le _,hWr,HGO,(Kp.refl _ _ _).alloc _⟩
 case round =>
  clear hWr HGO;obtain⟨k,st,rfl,hkl,hwr,HQ,hk⟩:=hrel;have hdr:=hd.keptW hk;have hgr:=hg.kept hk hB0;by_cases hlt:k<b.els.length
  ·obtain⟨x,hx⟩:∃x,b.els[k]? = some x:=⟨b.els[k],List.getElem?_eq_getElem hlt⟩;have hdrop:b.els.drop k=x::b.els.drop (k+1):=by
    rw[List.drop_eq_getElem_cons hlt];rw[List.getElem?_eq_getElem hlt]at hx;rw[Option.some.inj hx]
   obtain⟨t1,t2,hc1,hc2,hc3⟩:∃t1 t2,qBO b x.parent (b.els.length+1) st=some t1/\qBz b t1 x.lo=some t2/\goP b (b.els.drop (k+1)) (k+1) ⟨t2.out++qCz x,t2.pl,(k:Int)⟩=some sf:=by
    have:=HQ.out;rw[hdrop,goP]at this;split at this
    ·cases this
    ·rename_i t1 g1;split at this
     ·cases this
     ·rename_i t2 g2;exact⟨t1,t2,g1,g2,this⟩
   have n1:=qNR _ _ _ _ hc3;simp only[List.length_append]at n1;have n2:=(qDJ hc2).1;obtain⟨q,hq,hp1,hp2,ht2⟩:=qGy hc2;subst ht2;simp only[List.length_append]at n1 n2;obtain⟨hla,haa⟩:=ha k x hx;have hnx:=hn k x hx;obtain⟨g,hBg⟩:∃g,ao=some ⟨g,0,none⟩:=by
    obtain⟨g,cap',e,-⟩:=qHU A3.out (by omega);simp only[Value.slice.injEq]at e;exact⟨g,e.1⟩
   subst hBg;have ownr:=hk.owns A3.out (by decide);have hl2:=A2.out;have hav:avs[k]? = some (avs[k]'(by omega)):=List.getElem?_eq_getElem (by omega);generalize avs[k]'(by omega)=av at hav;obtain⟨i0,i1,i2,i3,i4⟩:=qCr b.els avs k x _ hx hav;have oa:=hk.owns (A5.out k x av hx hav) (by decide);obtain⟨aoa,cpa,hav2⟩:=qBA oa;subst hav2;rw[hq]at i3;have e0:wr.cell? ⟨g,k*5,none⟩=some (.string x.name):=by rw[ownr.cellAt _ (by omega),i0]
   have e1:wr.cell? ⟨g,k*5+1,none⟩=some (.int .i64 x.parent):=by rw[ownr.cellAt _ (by omega),i1]
   have e2:wr.cell? ⟨g,k*5+2,none⟩=some (.slice aoa x.attrs.length cpa):=by rw[ownr.cellAt _ (by omega),i2]
   have e3:wr.cell? ⟨g,k*5+3,none⟩=some (.int .i64 (q:Int)):=by rw[ownr.cellAt _ (by omega),i3]
   have e4:wr.cell? ⟨g,k*5+4,none⟩=some (.int .i64 x.hi):=by rw[ownr.cellAt _ (by omega),i4]
   have HC1:=qAF hc1;have HC3:=qAF hc3;have HQq:=qAF hq;clear i0 i1 i2 i3 i4 hl2 hav ownr hx hdrop HQ hc1 hc2 hc3 hq;go_wp2_with fail
   refine(qFY (Bd:=Bd) B w.heap.size db b x.parent (b.els.length+1) st t1 _ ?_ ?_ hBw ?_ hB0 h3 h4 hn HC1.out (by omega)).mono ?_
   ·exact hwr.kept ((Kp.refl 0 [] wr).alloc _) (by simp) (by simp)
   ·exact hdr.keptW ((Kp.refl 0 TW wr).alloc _)
   ·exact hgr.alloc _
   rintro e w1⟨rfl,hw1,hk1⟩;have bx1:=hk1.at (k:=wr.heap.size) (t:=139) (qAE wr _) (by decide);obtain⟨y0,y1,y2,y3,y4⟩:=qGF bx1;have K1:=(hk.alloc _).trans hk1;go_wp2_with fail
   refine(qEY (Bd:=Bd) B w.heap.size db b t1.out t1.pl q t1.op _ hw1 (hd.keptW K1) hBw (hg.kept K1 hB0) hB0 hp1 hp2 h3 (by omega)).mono ?_;rintro e w2⟨rfl,hw2,hk2⟩;have bx2:=hk2.at bx1 (by decide);obtain⟨x0,x1,x2,x3,x4⟩:=qGF bx2;have K2:=K1.trans hk2;rw[<-HQq.out]at x3;go_wp2_with fail
   refine(qPZ (Bd:=Bd) B w.heap.size db x _ _ q t1.op _ hw2 hBw (hg.kept K2 hB0) hB0 ((hk1.trans hk2).owns (oa.alloc _) (by decide)) hnx hla haa (by rw[List.length_append];omega)).mono ?_;rintro e w3⟨rfl,hw3,hk3⟩;obtain⟨v0,v3,v4,vf3,vf4⟩:=qDt hw3;go_wp2
   go_roundw
   case rel =>
    have o:=qIX (o':=(k:Int)) hw3 hBw;exact⟨k+1,⟨_,q,(k:Int)⟩,by go_num,by omega,o.1,HC3,(K2.trans hk3).trans o.2⟩
   case measure=>simp[intOf];omega
  ·have hst:st=sf:=by
    have:=HQ.out;rw[List.drop_eq_nil_of_le (by omega),goP]at this;exact Option.some.inj this
   subst hst;go_wp2_with fail
   refine(qFY (Bd:=Bd) B w.heap.size db b (-1) (b.els.length+1) st s1 _ hwr hdr hBw hgr hB0 h3 h4 hn HCL.out (by omega)).mono ?_;rintro e w1⟨rfl,hw1,hk1⟩;have K1:=hk.trans hk1;have d1:=qMJ (hd.keptW K1);have hlb:((⟨b.txt.toArray⟩:ByteArray).size)=b.txt.length:=by show b.txt.toArray.size=_;simp
   go_wp2_with fail
   refine(qEY (Bd:=Bd) B w.heap.size db b s1.out s1.pl b.txt.length s1.op _ hw1 (hd.keptW K1) hBw (hg.kept K1 hB0) hB0 hq1 (Nat.le_refl _) h3 ?_).mono ?_
   ·have e5:=HOUT.out;rw[HQ3.out]at e5;dsimp only at e5;rw[<-List.length_append,e5];exact hs
   rintro e w2⟨rfl,hw2,hk2⟩;have e5:=HOUT.out;rw[HQ3.out]at e5;dsimp only at e5;rw[e5]at hw2;clear e5;go_wp2_with fail
   refine(qLu B w.heap.size db out _ s1.op _ hw2 hs).mono ?_;rintro e w3⟨rfl,hk3⟩;go_wp2
   go_ret
   exact⟨rfl,(K1.trans hk2).trans hk3⟩
theorem qOf{Bd:Nat}(B db:Nat)(b:BS)(out:List UInt8)(w:World)(hd:Dc w Bd db b)(hBw:B<=w.heap.size)(hg:Gl w)(hB0:1<B)(h3:b.txt.length<=5000)(h4:b.els.length<=5000)(hn:∀(i:Nat)(x:El),b.els[i]? = some x->x.name.size<=16)
  (ha:∀(i:Nat)(x:El),b.els[i]? = some x->x.attrs.length<=5000/\∀a∈x.attrs,a.1.size<=16/\a.2.size<=100000) (hf:qG0 b=some out) (hs:out.length<=1000000) :
  Calls prog 15 #[.pointer (some ⟨db,0,none⟩)] w fun e w'=>e=.returned (.string ⟨out.toArray⟩)/\Kp B TW w w':=by
 have HF:=qAF hf;clear hf;go_enter func15,ntmps15
 go_wp2_with (go_at_call 44;refine(qO0 B db b out _ hd hBw hg hB0 h3 h4 hn ha HF.out hs).mono ?_;rintro e w1 ⟨rfl,hk1⟩)
 go_ret
 exact⟨rfl,hk1⟩
