/-
  Parts of the proof: W2, W3, W4, W5, W6, W7.
-/
import Derived.Test.YtclpcnignheijaaGreatDoorQ12
import Derived.Test.YtclpcnignheijaaGreatDoorI1
import Derived.Lib.AppendIntMem
set_option maxHeartbeats 8000000
set_option maxRecDepth 100000
namespace Go.Proofs.YtclpcnignheijaaGreatDoor
open Go.RowKit Go.Proofs.Tryz
theorem RepL.shapeW{L:Lay}{P:Nat->Prop}{w:World}{n:Nat}{v:Value}{l:qAg}(h:RepL L P w n v l):∃a m c,v=.slice a m c:=by
 cases n with
 |zero=>exact⟨_,_,_,h.1⟩
 |succ n =>
  obtain⟨xs,⟨⟨_,h2⟩,_⟩,_⟩:=h;rcases h2 with⟨hv,_⟩|⟨g,cap,cur,hv,_⟩
  ·exact⟨_,_,_,hv⟩
  ·exact⟨_,_,_,hv⟩
def Sw(w:World)(B wb:Nat)(out:List UInt8):Prop :=
 ∃sa vb,w.heap[wb]? = some (.cells #[sa,vb] 156 (0,0))/\(sa=.pointer none\/sa=.pointer (some ⟨wb,0,none⟩))/\w.ownsRow B 5 1 vb out.length (u8s out)
def TSw:List TypeId:=[156,5]
theorem qTp{w:World}{b:Nat}{x y u:Value}{t:TypeId}(h:w.heap[b]? = some (.cells #[x,y] t (0,0))):(w.setCell ⟨b,0,none⟩ u).heap[b]? = some (.cells #[u,y] t (0,0)):=qAZ h u
theorem Sw.kept{B B' wb:Nat}{T:List TypeId}{w w':World}{out:List UInt8}(h:Sw w B wb out)(k:Kp B' T w w')(h1:156 ∉ T)(h2:5 ∉ T):Sw w' B wb out:=by
 obtain⟨sa,vb,a1,a2,a3⟩:=h;exact⟨sa,vb,k.at a1 h1,a2,k.owns a3 h2⟩
theorem Sw.alloc{B wb:Nat}{w:World}{out:List UInt8}(h:Sw w B wb out)(o:Obj):Sw (w.alloc o) B wb out:=h.kept ((Kp.refl 0 [] w).alloc o) (by simp) (by simp)
theorem qH9{w:World}{base:Nat}{e:TypeId}{size:Nat}{v:Value}{n:Nat}{xs:List Value}{p:Addr}{c:Array Value}{t:TypeId}{fr:Nat×Nat}(ho:w.ownsRow base e size v n xs)(hp:w.heap[p.block]? = some (.cells c t fr))(ht:e≠t)(u:Value):(w.setCell p u).ownsRow base e size v n xs :=
 (Kp.setAny hp u).owns ho (by simpa using ht)
theorem Tryz.sizeSB2:(prog.info? 143).map (·.size)=some 2:=by kernel_rfl
theorem Tryz.liesSw:liesAt prog prog.depth 156 (2/prog.cellsOf 156) 0 143 1=true:=by kernel_rfl
theorem qEx(B wb:Nat)(out:List UInt8)(w:World)(h:Sw w B wb out)(hB:B<=wb) :
  Calls prog 138 #[.pointer (some ⟨wb,0,none⟩)] w fun e w'=>e=.returned (.tuple #[])/\Sw w' B wb out/\Kp B TSw w w':=by
 have h':=h;obtain⟨sa,vb,a1,a2,a3⟩:=h;have c0:=qAJ a1;have c1:=qAS a1;have f1:=qAd (o:=0) a1;obtain⟨j,hj,hjs⟩:=Option.map_eq_some_iff.1 Tryz.sizeSB2;have hsh:w.shape? wb=some (156,2):=by simp[World.shape?,a1]
 rcases a2 with rfl|rfl
 ·have A1:=qAF a1;have A3:=qAF a3;clear a1 a3;go_enter func138,ntmps138
  go_wp2
  rw[Lib.run_to_unsafe w ⟨wb,0,none⟩ underlying141 underlying184 hj (by rw[hjs];decide) hsh (show 0<2 by decide)];simp only[Result.andThen];rw[Oper.upon_value];go_wp2
  rw[run_callFunc_extern func177 (by kernel_rfl) (by kernel_rfl) (by kernel_rfl) (e:=Extern.AbiNoEscape.same) (by kernel_rfl)];rw[Lib.run_noEscape];simp only[Result.andThen];rw[Oper.upon_value];go_wp2
  rw[Lib.run_from_unsafe w ⟨wb,0,none⟩ underlying184 underlying141 hj hsh Tryz.liesSw];simp only[Result.andThen];rw[Oper.upon_value];go_wp2
  go_end0
  exact⟨rfl,⟨_,vb,qTp A1.out,.inr rfl,qH9 (p:=⟨wb,0,none⟩) A3.out A1.out (by decide) _⟩,(Kp.refl _ _ _).setCell (p:=⟨wb,0,none⟩) A1.out (by decide) hB _⟩
 ·go_enter func138,ntmps138
  go_wp2
  rw[Lib.run_neq_ptr_same w _ underlying141 hj];go_wp2
  go_end0
  exact⟨rfl,h',Kp.refl _ _ _⟩
theorem qBa(B wb:Nat)(out:List UInt8)(t:ByteArray)(w:World)(h:Sw w B wb out)(hB:B<=wb)(hs:out.length+t.size<=1000000) :
  Calls prog 112 #[.pointer (some ⟨wb,0,none⟩),.string t] w fun e w'=>e=.returned (.tuple #[.int .i64 (t.size:Int),.nilIface])/\Sw w' B wb (out++t.data.toList)/\Kp B TSw w w':=by
 obtain⟨i0,hi,hz0,hz1,hz2⟩:=info_parts Tryz.infoU8;go_enter func112,ntmps112
 go_wp2_with fail
 refine(qEx B wb out _ h hB).mono ?_;rintro e w1⟨rfl,h1,hk1⟩;obtain⟨sa,vb,a1,a2,a3⟩:=h1;have c0:=qAJ a1;have c1:=qAS a1;have hbs:=lt_of_block a1;have A1:=qAF a1;have A2:=qAF a2;clear a1 a2;go_wp2_with (at_builtin;refine Lib.wpList_append_own_string _ rfl _ _ 50 9 rfl B 5 i0 underlying50 underlying9 hi hz0 hz1 hz2 _ _ _ rfl a3 t rfl (by unfold maxLen;omega) (by omega) (by omega) ?_;intro v1 w2 own1 grow1 _;have e1:=qA1 a3 grow1 A1.out (by decide);have g0:=qAJ e1;have g1:=qAS e1;have f1:=qAd (o:=1) e1;obtain⟨ao1,cp1,hv1⟩:=qBA own1;subst hv1)
 go_ret2
 refine⟨rfl,⟨sa,_,qKY e1,A2.out,?_⟩,hk1.trans (((Kp.refl _ _ _).grownRow a3 grow1 (by decide)).setCell (p:=⟨wb,1,none⟩) e1 (by decide) hB _)⟩;have o2:=qH9 (p:=⟨wb,1,none⟩) own1 e1 (by decide) (.slice ao1 (out.length+t.size) cp1);rw[qEV]at o2;rw[List.length_append,show t.data.toList.length=t.size from by simp,show u8s (out++t.data.toList)=u8s out++u8s t.data.toList from by simp[u8s]];exact o2
theorem qJX(B wb:Nat)(out:List UInt8)(c:UInt8)(w:World)(h:Sw w B wb out)(hB:B<=wb)(hs:out.length+1<=1000000) :
  Calls prog 118 #[.pointer (some ⟨wb,0,none⟩),.int .u8 (c.toNat:Int)] w fun e w'=>e=.returned .nilIface/\Sw w' B wb (out++[c])/\Kp B TSw w w':=by
 obtain⟨i0,hi,hz0,hz1,hz2⟩:=info_parts Tryz.infoU8;go_enter func118,ntmps118
 go_wp2_with fail
 refine(qEx B wb out _ h hB).mono ?_;rintro e w1⟨rfl,h1,hk1⟩;obtain⟨sa,vb,a1,a2,a3⟩:=h1;have c0:=qAJ a1;have c1:=qAS a1;have hbs:=lt_of_block a1;have A1:=qAF a1;have A2:=qAF a2;clear a1 a2;go_wp2_with (at_builtin;refine wpList_append_lies _ rfl _ _ 50 rfl B 5 i0 (.int .u8 0) 1 1 underlying50 hi hz0 hz1 hz2 rfl (by decide) _ _ _ rfl (a3.alloc _) ⟨w1.heap.size,0,none⟩ 1 1 [.int .u8 (c.toNat:Int)] rfl rfl ?c1 ?c2 (by decide) ?c3 ?c4 ?c5 _ rfl ?_)
 case c1=>exact qCL #[.int .u8 (c.toNat:Int)] 5 rfl
 case c2=>intro u hu;simp at hu;subst hu;rfl
 case c3=>unfold maxLen;omega
 case c4=>omega
 case c5=>simp;omega
 intro g cap w2 own1 grow1 hat1 hlt1;have e1:=qA1 (a3.alloc _) grow1 (qAG A1.out _) (by decide);have g0:=qAJ e1;have g1:=qAS e1;have f1:=qAd (o:=1) e1;go_wp2
 go_ret
 refine⟨rfl,⟨sa,_,qKY e1,A2.out,?_⟩,hk1.trans ((((Kp.refl _ _ _).alloc _).grownRow (a3.alloc _) grow1 (by decide)).setCell (p:=⟨wb,1,none⟩) e1 (by decide) hB _)⟩;have o2:=qH9 (p:=⟨wb,1,none⟩) own1 e1 (by decide) (.slice (some ⟨g,0,none⟩) (out.length+1) cap);rw[List.length_append,show u8s (out++[c])=u8s out++[.int .u8 (c.toNat:Int)] from by simp[u8s]];exact o2
theorem Kp.freezeS{B:Nat}{T:List TypeId}{a w:World}(h:Kp B T a w){p:Addr}{c:Array Value}{t:TypeId}{fr:Nat×Nat}(hp:w.heap[p.block]? = some (.cells c t fr))(ht:t∈T)(hB:B<=p.block)(n:Nat):Kp B T a (w.freeze p n):=by
 by_cases hn:n=0
 ·subst hn;exact h
 refine h.trans ?_;unfold World.freeze;rw[if_neg hn];refine⟨rfl,rfl,rfl,by simp,fun k hk hc=>?_⟩;have hne:p.block≠k:=by
  rintro rfl;rcases hc with hc|hc
  ·omega
  ·exact hc _ _ _ hp ht
 simp[Array.getElem?_modify,hne]
theorem Tryz.cellsByteS:prog.cellsOf 5=1:=by kernel_rfl
theorem qRu(B wb:Nat)(out:List UInt8)(w:World)(h:Sw w B wb out)(h0:out≠[])(hs:out.length<=1000000) :
  Calls prog 77 #[.pointer (some ⟨wb,0,none⟩)] w fun e w'=>e=.returned (.string ⟨out.toArray⟩)/\Kp B TSw w w':=by
 obtain⟨sa,vb,a1,a2,a3⟩:=h;have c0:=qAJ a1;have c1:=qAS a1;have hl0:out.length≠0:=by simpa using h0
 obtain⟨g,cap,cur,rfl,hbg,hg,hnc,hcm,hcs,htake⟩:∃g cap cur,vb=.slice (some ⟨g,0,none⟩) out.length cap/\B<=g/\w.heap[g]? = some (.cells cur 5 (0,0))/\out.length<=cap/\cap<=maxLen/\cur.size=cap*1/\cur.toList.take (out.length*1)=u8s out:=by
  rcases a3.2 with⟨_,hz⟩|⟨g,cap,cur,hv,r⟩
  ·exact absurd hz hl0
  ·exact⟨g,cap,cur,hv,r⟩
 have hSD:(Builtin.unsafeSliceData_ #[50] 201 #[.slice (some ⟨g,0,none⟩) out.length cap]).run prog w.drew=.ok (.pointer (some ⟨g,0,none⟩)) w.drew :=
  Lib.run_unsafeSliceData_row _ _ _ _ _ _ (by omega)
 have hUS:(Builtin.unsafeString_ #[201,3] 9 #[.pointer (some ⟨g,0,none⟩),.int .i64 out.length]).run prog w.drew=.ok (.string ⟨out.toArray⟩) (w.drew.freeze ⟨g,0,none⟩ out.length):=by
  refine Lib.run_unsafeString_row w.drew 201 3 9 5 underlying201 Tryz.cellsByteS g cur.size (by have hg':w.drew.heap[g]? = some (.cells cur 5 (0,0)):=hg;simp[World.shape?,hg']) out h0 (by omega) (by unfold maxLen at hcm;omega) ?_;intro j x hx;have:=a3.cells (g:=g) rfl j (.int .u8 x.toNat) (by simp[u8s,hx]);exact this
 have HB:Hid (Kp B TSw w (w.drew.freeze ⟨g,0,none⟩ out.length)):=Kp.freezeS (p:=⟨g,0,none⟩) (Kp.refl B TSw w).drew hg (by decide) hbg _;clear hg htake hcs hcm hnc a3 a1;go_enter func77,ntmps77
 go_wp2
 go_region
 all_goals go_wp2
 all_goals go_ret
 all_goals exact⟨rfl,HB.out⟩
def Tb (w : World) : Prop := Lib.TabIs prog w "internal/strconv.uint64pow10" .u64 Lib.pow10Tab
theorem Tryz.gPow : prog.globalNamed "internal/strconv.uint64pow10" = some 5 := by kernel_rfl
theorem Tb.low{w w':World}(h:Tb w)(e:w'.heap[5]? = w.heap[5]?):Tb w':=by
 unfold Tb Lib.TabIs World.var? at *;rw[Tryz.gPow]at *;simp only[Option.bind_some]at *;rw[e];exact h
theorem Tb.lt{w:World}(h:Tb w):5<w.heap.size:=by
 unfold Tb Lib.TabIs World.var? at h;rw[Tryz.gPow]at h;simp only[Option.bind_some]at h;rcases Nat.lt_or_ge 5 w.heap.size with hl|hl
 ·exact hl
 ·rw[Array.getElem?_eq_none hl]at h;cases h
theorem Tb.kept{w w':World}{B:Nat}{T:List TypeId}(h:Tb w)(k:Kp B T w w')(hB:5<B):Tb w':=h.low (k.low h.lt hB)
theorem Tb.below{w w':World}{B:Nat}(h:Tb w)(k:Below B w w')(hB:5<B):Tb w':=h.low (k.block _ hB)
theorem qS0{n:Int}(h1:-100<n)(h2:n<100):Lib.itoa n=qFN n:=by
 have hd:∀u:Nat,u<100->Lib.decDigits u=qFa u:=fun u hu=>by
  unfold qFa qJw;rw[Lib.decDigits];by_cases h:u<10
  ·rw[dif_pos h,if_neg (by omega)]
  ·rw[dif_neg h,if_pos (by omega),Lib.decDigits,dif_pos (by omega)];rfl
 unfold Lib.itoa qFN;split
 ·rw[hd _ (by omega)]
 ·rw[hd _ (by omega),show n.toNat=n.natAbs from by omega]
theorem qSz(n:Int)(w:World)(h1:-100<n)(h2:n<100)(ht:Tb w) :
  Calls prog 217 #[.int .i64 n] w fun e w'=>e=.returned (.string (bytesOf (qFN n)))/\Below w.heap.size w w' :=
 (Tryz.strconv_Itoa n (by omega) (by omega) w ht).mono fun e w' ⟨he,k,os,hw⟩=>⟨by rw[he,qS0 h1 h2];rfl,by rw[hw];exact Lib.below_grow _ _ (Nat.le_refl _) _ _⟩
theorem qNc{x:ByteArray}(h:x.size=0):x=⟨#[]⟩:=by
 obtain⟨d⟩:=x;have h':d.size=0:=h;rw[Array.eq_empty_of_size_eq_zero h']
theorem qUK{x:ByteArray}(h:x.size≠0):x.toList.isEmpty=false:=by
 cases hx:x.toList with
 |nil =>
  exfalso
  apply h;have h1:=congrArg List.length hx;rw[Lib.toList_data,Array.length_toList]at h1;exact h1
 |cons a l=>rfl
theorem qSW{w w':World}{B k:Nat}{x:Obj}(hb:Below B w w')(h:w.heap[k]? = some x)(hk:k<B):w'.heap[k]? = some x:=(hb.block k hk).trans h
theorem qLP(n:Int)(w:World)(h1:-100<n)(h2:n<100)(ht:Tb w){R:Nat}{c:Array Value}{t:TypeId}(rs:w.heap[R]? = some (.cells c t (0,0))) :
  Calls prog 217 #[.int .i64 n] w fun e w'=>e=.returned (.string (bytesOf (qFN n)))/\Below w.heap.size w w'/\Tb w'/\w'.heap[R]? = some (.cells c t (0,0)) :=
 (qSz n w h1 h2 ht).mono fun _ _ ⟨he,hb⟩=>⟨he,hb,ht.below hb ht.lt,qSW hb rs (lt_of_block rs)⟩
theorem qFQ{w:World}{k:Nat}{o:Option Obj}(h:w.heap[k]? = o):w.drew.heap[k]? = o:=h
theorem Tb.dr{w:World}(h:Tb w):Tb w.drew:=h
theorem qI9(n:Int):(bytesOf (qFN n)).size<=3:=by
 show(qFN n).toArray.size<=3;simpa using qJ8 n
theorem qM7(z:NthQ)(w:World)(ha:-100<z.a/\z.a<100)(hb:-100<z.b/\z.b<100)(ht:Tb w) :
  Calls prog 183 #[.agg #[.string z.word,.bool z.hasN,.int .i64 z.a,.int .i64 z.b]] w fun e w'=>e=.returned (.string (bytesOf (qKh z)))/\Below w.heap.size w w':=by
 obtain⟨wd,hn,x,y⟩:=z;dsimp only at *;obtain⟨ha1,ha2⟩:=ha;obtain⟨hb1,hb2⟩:=hb;have rs0:=qAE w (.cells #[.string wd,.bool hn,.int .i64 x,.int .i64 y] 261);have ht0:Tb (w.alloc (.cells #[.string wd,.bool hn,.int .i64 x,.int .i64 y] 261)):=ht.low (Below.heap_alloc _ _ _ (by have:=ht.lt;omega));obtain⟨⟨c0,c1,c2,c3⟩,_⟩:=qAk rs0;have hsx:=qI9 x;have hsy:=qI9 y;go_enter func183,ntmps183
 go_wp2
 go_region_with (first|(go_at_call 217;refine(qLP x _ ha1 ha2 ht0.dr (qFQ rs0)).mono ?_;rintro e w1 ⟨rfl,hbl1,ht1,rs1⟩;obtain⟨⟨d0,d1,d2,d3⟩,_⟩:=qAk rs1)|(go_at_call 217;refine(qLP y _ hb1 hb2 ht1 rs1).mono ?_;rintro e w2 ⟨rfl,hbl2,ht2,rs2⟩;obtain⟨⟨e0,e1,e2,e3⟩,_⟩:=qAk rs2))
 all_goals
  have hbl:Below w.heap.size w w2:=by
   have h1:Below w.heap.size w w1:=((Below.refl w.heap.size w).alloc (Nat.le_refl _) _).trans ((show Below _ (w.alloc _) w1 from⟨hbl1.os,hbl1.tape,hbl1.output,hbl1.size,hbl1.block⟩).mono (by simp));exact h1.trans ((show Below _ w1 w2 from⟨hbl2.os,hbl2.tape,hbl2.output,hbl2.size,hbl2.block⟩).mono h1.size)
  clear hbl1 hbl2 ht1 ht2 rs1 rs2 ht0 rs0 c0 c1 c2 c3 d0 d1 d2 d3 ht;by_cases hwd:wd.size=0
  ·obtain rfl:=qNc hwd;clear hwd;cases hn
   ·go_wp2
    go_ret
    exact⟨rfl,hbl⟩
   ·rcases Int.lt_trichotomy y 0 with hy|hy|hy
    ·have hy0:(y==0)=false:=by simp;omega
     have HT:Hid (qKh ⟨⟨#[]⟩,true,x,y⟩=qFN x++[110]++qFN y):=by
      show qFN x++110::qG5 y=_;unfold qG5;rw[if_neg (by omega),if_pos hy];simp
     go_wp2
     go_ret
     refine⟨?_,hbl⟩;rw[HT.out,<-qD1,<-qD1];rfl
    ·subst hy;go_wp2
     go_ret
     refine⟨?_,hbl⟩;show _=Ending.returned (.string (bytesOf (qFN x++[110])));rw[<-qD1];rfl
    ·have hy0:(y==0)=false:=by simp;omega
     have hy1:¬y<0:=by omega
     have HT:Hid (qKh ⟨⟨#[]⟩,true,x,y⟩=qFN x++[110,43]++qFN y):=by
      show qFN x++110::qG5 y=_;unfold qG5;rw[if_pos hy];simp
     go_wp2
     go_ret
     refine⟨?_,hbl⟩;rw[HT.out,<-qD1,<-qD1];rfl
  ·have hne:=qUK hwd;have HT:Hid (bytesOf (qKh ⟨wd,hn,x,y⟩)=wd):=by
    unfold qKh;rw[if_neg hwd];rfl
   clear hwd;go_wp2
   go_ret
   rw[HT.out];exact⟨rfl,hbl⟩
theorem Sw.dr{B wb:Nat}{w:World}{out:List UInt8}(h:Sw w B wb out):Sw w.drew B wb out:=h
theorem qF6(B wb:Nat)(out:List UInt8)(t:ByteArray)(w:World)(h:Sw w B wb out)(hB:B<=wb)(hs:out.length+t.size<=1000000){R:Nat}{c:Array Value}{ty:TypeId}(rs:w.heap[R]? = some (.cells c ty (0,0)))(ht:ty ∉ TSw) :
  Calls prog 112 #[.pointer (some ⟨wb,0,none⟩),.string t] w fun e w'=>e=.returned (.tuple #[.int .i64 (t.size:Int),.nilIface])/\Sw w' B wb (out++t.data.toList)/\Kp B TSw w w'/\w'.heap[R]? = some (.cells c ty (0,0)) :=
 (qBa B wb out t w h hB hs).mono fun _ _ ⟨he,h1,hk⟩=>⟨he,h1,hk,hk.at rs ht⟩
theorem qE2(x:ByteArray):x.data.toList.length=x.size:=by rw[Array.length_toList];rfl
theorem qSK(x y:ByteArray):(x++y).size=x.size+y.size:=ByteArray.size_append
theorem qSJ(x y:ByteArray):(x++y).data.toList=x.data.toList++y.data.toList:=by simp[ByteArray.data_append]
theorem Kp.undr{B:Nat}{T:List TypeId}{a w:World}(h:Kp B T a.drew w):Kp B T a w:=⟨h.os,h.tape,h.output,h.size,h.block⟩
theorem qIs(B wb:Nat)(out:List UInt8)(a:AttrQ)(w:World)(h:Sw w B wb out)(hB:B<=wb)(hs:out.length+(qDQ a).length<=1000000) :
  Calls prog 182 #[.pointer (some ⟨wb,0,none⟩),.agg #[.string a.name,.string a.op,.string a.val,.bool a.any]] w fun e w'=>e=.returned (.tuple #[])/\Sw w' B wb (out++qDQ a)/\Kp B TSw w w':=by
 obtain⟨nm,op,va,any⟩:=a;dsimp only at *;have rs0:=qAE w (.cells #[.string nm,.string op,.string va,.bool any] 259);have h0:=h.alloc (.cells #[.string nm,.string op,.string va,.bool any] 259);have hk0:=(Kp.refl B TSw w).alloc (.cells #[.string nm,.string op,.string va,.bool any] 259);obtain⟨⟨c0,c1,c2,c3⟩,_⟩:=qAk rs0;have hl1:=qE2 nm;have hl2:=qE2 op;have hl3:=qE2 va;have hs1:out.length+nm.size<=1000000:=by unfold qDQ at hs;simp only[List.length_append]at hs;omega
 have HS:=qAF hs;clear hs hl1 hl2 hl3;go_enter func182,ntmps182
 go_wp2
 go_region_with (go_at_call 112;refine(qF6 B wb out nm _ h0.dr hB hs1 (qFQ rs0) (by decide)).mono ?_;rintro e w1 ⟨rfl,h1,hk1,rs1⟩;obtain⟨⟨d0,d1,d2,d3⟩,_⟩:=qAk rs1)
 all_goals
  have hkA:=hk0.trans hk1.undr;clear h0 hk0 hk1 c0 c1 c2 c3 rs0;by_cases hop:op.size=0
  ·obtain rfl:=qNc hop;have HT:Hid (qDQ ⟨nm,⟨#[]⟩,va,any⟩=nm.data.toList):=by unfold qDQ;simp;rfl
   go_wp2
   refine bodyPost_ret (results_none Tryz.results182 _ _ _) rfl ?_;rw[HT.out];exact⟨rfl,h1,hkA⟩
  ·have hne:=qUK hop;have HT:Hid (qDQ ⟨nm,op,va,any⟩=nm.data.toList++(op.data.toList++34::(va.data.toList++34::(if any=true then[32,105]else[])))):=by unfold qDQ;rw[if_neg hop];rfl
   have hlen:out.length+(nm.size+(op.size+(va.size+2+(if any=true then 2 else 0))))<=1000000:=by
    have:=HS.out;rw[HT.out]at this;cases any<;>simp only[List.length_append,List.length_cons,qE2]at this<;>simp at this ⊢<;>omega
   have hso:op.size<=1000000:=by omega
   have hsv:va.size<=1000000:=by omega
   have hsn:=qE2 nm;have hs2:(out++nm.data.toList).length+(op++⟨#[34]⟩++va++⟨#[34]⟩).size<=1000000:=by
    simp only[List.length_append,qSK,hsn];have e2:(⟨#[34]⟩:ByteArray).size=1:=rfl;rw[e2];omega
   clear hop hsn;go_wp2
   go_region_with (go_at_call 112;refine(qF6 B wb (out++nm.data.toList) _ _ ?_ hB ?_ (R:=w.heap.size) (c:=#[.string nm,.string op,.string va,.bool any]) (ty:=259) ?_ (by decide)).mono ?_;(exact h1.dr);(exact hs2);(exact qFQ rs1);rintro e w2 ⟨rfl,h2,hk2,rs2⟩;obtain⟨⟨f0,f1,f2,f3⟩,_⟩:=qAk rs2)
   all_goals
    have hkB:=hkA.trans hk2.undr;have HO:Hid (out++nm.data.toList++(op++⟨#[34]⟩++va++⟨#[34]⟩).data.toList=out++(nm.data.toList++(op.data.toList++34::(va.data.toList++[34])))):=by
     simp only[qSJ,List.append_assoc];rfl
    rw[HO.out]at h2;have hs3:(out++(nm.data.toList++(op.data.toList++34::(va.data.toList++[34])))).length+(if any=true then 2 else 0)<=1000000:=by
     simp only[List.length_append,List.length_cons,List.length_nil,qE2];omega
    cases any
    ·go_wp2
     go_end0
     rw[HT.out];exact⟨rfl,h2,hkB⟩
    ·go_wp2_with fail
     refine(qBa B wb _ ⟨#[32,105]⟩ _ h2 hB (by exact hs3)).mono ?_;rintro e w3⟨rfl,h3,hk3⟩;go_wp2
     go_end0
     rw[HT.out];refine⟨rfl,?_,hkB.trans hk3⟩;have e1:out++(nm.data.toList++(op.data.toList++34::(va.data.toList++[34])))++(⟨#[32,105]⟩:ByteArray).data.toList=out++(nm.data.toList++(op.data.toList++34::(va.data.toList++34::[32,105]))):=by simp
     rw[if_pos (by trivial),<-e1];exact h3
def qGA(n:Nat):Prop:=∀(B wb:Nat)(out:List UInt8)(lv:Value)(l:qAg)(w:World),Sw w B wb out->B<=wb->Tb w->5<B->RepL qAi (fun _=>True) w n lv l->wfL n l->out.length+(qAR n l).length<=1000000 ->
 Calls prog 82 #[.pointer (some ⟨wb,0,none⟩),lv] w fun e w'=>e=.returned (.tuple #[])/\Sw w' B wb (out++qAR n l)/\Kp B TSw w w'
section
variable{B wb:Nat}{out:List UInt8}{w:World}{R:Nat}{c:Array Value}
theorem qO7(k:Nat)(x:List UInt8)(hx:openW[k]? = some x)(h:Sw w B wb out)(ht:Tb w)(hg:5<B)(rs:w.heap[R]? = some (.cells c 263 (0,0))) :
  Calls prog 181 #[.int .i64 k] w fun e w'=>e=.returned (.string (bytesOf x))/\Sw w' B wb out/\Kp B TSw w w'/\Tb w'/\w'.heap[R]? = some (.cells c 263 (0,0)) :=
 (qH7 k x w hx).mono fun e w' ⟨he,hb⟩=>by
  have k1:Kp 0 [] w w':=Kp.ofBelow hb;have k2:Kp B TSw w w':=Kp.ofBelow hb;exact⟨he,h.kept k1 (by simp) (by simp),k2,ht.kept k2 hg,k1.at rs (by simp)⟩
theorem qFK(t:ByteArray)(h:Sw w B wb out)(hB:B<=wb)(hs:out.length+t.size<=1000000)(ht:Tb w)(hg:5<B)(rs:w.heap[R]? = some (.cells c 263 (0,0))) :
  Calls prog 112 #[.pointer (some ⟨wb,0,none⟩),.string t] w fun e w'=>e=.returned (.tuple #[.int .i64 (t.size:Int),.nilIface])/\Sw w' B wb (out++t.data.toList)/\Kp B TSw w w'/\Tb w'/\w'.heap[R]? = some (.cells c 263 (0,0)) :=
 (qBa B wb out t w h hB hs).mono fun _ _ ⟨he,h1,hk⟩=>⟨he,h1,hk,ht.kept hk hg,hk.at rs (by decide)⟩
theorem qDS(k:Nat)(hk:k<11)(h:Sw w B wb out)(rs:w.heap[R]? = some (.cells c 263 (0,0))) :
  Calls prog 184 #[.int .i64 k] w fun e w'=>e=.returned (.string (bytesOf (qAq k)))/\Sw w' B wb out/\Kp B TSw w w'/\w'.heap[R]? = some (.cells c 263 (0,0)) :=
 (qHe k w hk).mono fun e w' ⟨he,hw⟩=>by subst hw;exact⟨he,h,Kp.refl _ _ _,rs⟩
theorem qPe(z:NthQ)(ha:-100<z.a/\z.a<100)(hb:-100<z.b/\z.b<100)(h:Sw w B wb out)(ht:Tb w)(hg:5<B)(rs:w.heap[R]? = some (.cells c 263 (0,0))) :
  Calls prog 183 #[.agg #[.string z.word,.bool z.hasN,.int .i64 z.a,.int .i64 z.b]] w fun e w'=>e=.returned (.string (bytesOf (qKh z)))/\Sw w' B wb out/\Kp B TSw w w'/\Tb w'/\w'.heap[R]? = some (.cells c 263 (0,0)) :=
 (qM7 z w ha hb ht).mono fun e w' ⟨he,hbl⟩=>by
  have k1:Kp 0 [] w w':=Kp.ofBelow hbl;have k2:Kp B TSw w w':=Kp.ofBelow hbl;exact⟨he,h.kept k1 (by simp) (by simp),k2,ht.kept k2 hg,k1.at rs (by simp)⟩
theorem qBv(x:List UInt8):(bytesOf x).data.toList=x:=by simp[bytesOf]
theorem qBw(x:List UInt8):(bytesOf x).size=x.length:=by simp[bytesOf,ByteArray.size]
end
theorem qIY(n:Nat)(IH:qGA n)(B wb:Nat)(out:List UInt8)(k:Nat)(x:ByteArray)(y:AttrQ)(z:NthQ)(lv:Value)(l:qAg)(w:World)(h:Sw w B wb out)(hB:B<=wb)(ht:Tb w)(hg:5<B)(hr:RepL qAi (fun _=>True) w n lv l)(hwf:wfS (wfL n) (.mk k x y z l))(hs:out.length+(qG8 (qAR n) (.mk k x y z l)).length<=1000000) :
  Calls prog 142 #[.pointer (some ⟨wb,0,none⟩),.agg #[.int .i64 k,.string x,.string y.name,.string y.op,.string y.val,.bool y.any,.string z.word,.bool z.hasN,.int .i64 z.a,.int .i64 z.b,lv]] w fun e w'=>e=.returned (.tuple #[])/\Sw w' B wb (out++qG8 (qAR n) (.mk k x y z l))/\Kp B TSw w w':=by
 obtain⟨hk11,hwf8,hwf9,_⟩:=hwf;obtain⟨la,lm,lc,rfl⟩:∃la lm lc,lv=.slice la lm lc:=hr.shapeW;obtain⟨ow,how⟩:∃ow,openW[k]? = some ow:=⟨_,List.getElem?_eq_getElem (show k<openW.length from hk11)⟩;have HTx:Hid (qG8 (qAR n) (.mk k x y z l)=ow++(qCx (qAR n) k x y z l++qAq k)):=by
  show openW.getD k []++_=_;rw[List.getD_eq_getElem?_getD,how];rfl
 have hs0:=hs;rw[HTx.out]at hs0;simp only[List.length_append]at hs0;have HS:=qAF hs0;have hs1:out.length+(bytesOf ow).size<=1000000:=by rw[qBw];omega
 have HW:=qAF how;have HW8:=qAF hwf8;have HW9:=qAF hwf9;clear how hwf8 hwf9 hs hs0;have r0:=qAE w (.cells #[.int .i64 k,.string x,.string y.name,.string y.op,.string y.val,.bool y.any,.string z.word,.bool z.hasN,.int .i64 z.a,.int .i64 z.b,.slice la lm lc] 263);have h0:=h.alloc (.cells #[.int .i64 k,.string x,.string y.name,.string y.op,.string y.val,.bool y.any,.string z.word,.bool z.hasN,.int .i64 z.a,.int .i64 z.b,.slice la lm lc] 263);have k0:=(Kp.refl B TSw w).alloc (.cells #[.int .i64 k,.string x,.string y.name,.string y.op,.string y.val,.bool y.any,.string z.word,.bool z.hasN,.int .i64 z.a,.int .i64 z.b,.slice la lm lc] 263);have t0:Tb (w.alloc (.cells #[.int .i64 k,.string x,.string y.name,.string y.op,.string y.val,.bool y.any,.string z.word,.bool z.hasN,.int .i64 z.a,.int .i64 z.b,.slice la lm lc] 263)):=ht.kept k0 hg;have hr0:RepL qAi (fun _=>True) (w.alloc (.cells #[.int .i64 k,.string x,.string y.name,.string y.op,.string y.val,.bool y.any,.string z.word,.bool z.hasN,.int .i64 z.a,.int .i64 z.b,.slice la lm lc] 263)) n (.slice la lm lc) l:=hr.map (Fr.alloc _ fun _ h=>h);obtain⟨⟨u0,u1,u2,u3,u4,u5,u6,u7,u8,u9,u10⟩,_⟩:=qAY r0;go_enter func142,ntmps142
 go_wp2
 go_region_held3 (fun wx=>wx.cell? ⟨w.heap.size,0,none⟩=some (.int .i64 (k:Int))) (first|exact hS|simp[go_sem, *]) (first|(go_at_call 181;refine(qO7 (R:=w.heap.size) (c:=#[.int .i64 k,.string x,.string y.name,.string y.op,.string y.val,.bool y.any,.string z.word,.bool z.hasN,.int .i64 z.a,.int .i64 z.b,.slice la lm lc]) k ow HW.out h0.dr t0.dr hg (qFQ r0)).mono ?_;rintro e w1 ⟨rfl,h1,k1,t1,r1⟩;have hS:=(qAY r1).1.1)|(go_at_call 112;refine(qFK (R:=w.heap.size) (c:=#[.int .i64 k,.string x,.string y.name,.string y.op,.string y.val,.bool y.any,.string z.word,.bool z.hasN,.int .i64 z.a,.int .i64 z.b,.slice la lm lc]) _ h1 hB hs1 t1 hg r1).mono ?_;rintro e w2 ⟨rfl,h2,k2,t2,r2⟩;have hS:=(qAY r2).1.1))
 have kA:=(k0.trans k1.undr).trans k2;rw[qBv]at h2;have hr2:RepL qAi (fun _=>True) w2 n (.slice la lm lc) l:=(hr0.map (Fr.ofKp k1.undr (by decide) (by decide) (by decide) fun _ h=>h)).map (Fr.ofKp k2 (by decide) (by decide) (by decide) fun _ h=>h);obtain⟨⟨q0,q1,q2,q3,q4,q5,q6,q7,q8,q9,q10⟩,_⟩:=qAY r2;clear h0 k0 t0 hr0 r0 h1 k1 t1 r1 k2 u0 u1 u2 u3 u4 u5 u6 u7 u8 u9 u10 hr h ht;by_cases ck1:k<=1
 ·have HA:Hid (qCx (qAR n) k x y z l=x.data.toList):=by unfold qCx;rw[if_pos ck1];rfl
  have hsx:(out++ow).length+x.size<=1000000:=by
   have:=HS.out;rw[HA.out,qE2]at this;simp only[List.length_append];omega
  have b01:((k:Int)==0)=true\/((k:Int)==0)=false/\((k:Int)==1)=true:=by
   rcases Nat.le_one_iff_eq_zero_or_eq_one.1 ck1 with e|e<;>subst e
   ·exact .inl rfl
   ·exact .inr ⟨rfl,rfl⟩
  clear ck1;rcases b01 with b0|⟨b0,b1⟩
  all_goals
   go_wp2
   go_region_held3 (fun wx=>wx.cell? ⟨w.heap.size,1,none⟩=some (.string x)) (first|exact hS2|simp[go_sem, *]) (first|(go_at_call 112;refine(qFK (R:=w.heap.size) (c:=#[.int .i64 k,.string x,.string y.name,.string y.op,.string y.val,.bool y.any,.string z.word,.bool z.hasN,.int .i64 z.a,.int .i64 z.b,.slice la lm lc]) x h2.dr hB hsx t2.dr hg (qFQ r2)).mono ?_;rintro e w3 ⟨rfl,h3,k3,t3,rX⟩;have hS2:=(qAY rX).1.2.1))
   have kX:=kA.trans k3.undr;have hX:Sw w3 B wb (out++(ow++qCx (qAR n) k x y z l)):=by rw[HA.out,<-List.append_assoc];exact h3
   clear h3 k3 t3 r2 h2 t2 hr2 q0 q1 q2 q3 q4 q5 q6 q7 q8 q9 q10;obtain⟨⟨v0,v1,v2,v3,v4,v5,v6,v7,v8,v9,v10⟩,_⟩:=qAY rX;have hsE:(out++(ow++qCx (qAR n) k x y z l)).length+(bytesOf (qAq k)).size<=1000000:=by
    rw[qBw];simp only[List.length_append];have:=HS.out;omega
   go_wp2
   go_region_held3 (fun wx=>wx.cell? ⟨w.heap.size,0,none⟩=some (.int .i64 (k:Int))) (first|exact hS|simp[go_sem, *]) (first|(go_at_call 184;refine(qDS (R:=w.heap.size) (c:=#[.int .i64 k,.string x,.string y.name,.string y.op,.string y.val,.bool y.any,.string z.word,.bool z.hasN,.int .i64 z.a,.int .i64 z.b,.slice la lm lc]) k hk11 hX.dr (qFQ rX)).mono ?_;rintro e wF ⟨rfl,hF,kF,rF⟩;have hS:=(qAY rF).1.1)|(go_at_call 112;refine(qBa B wb (out++(ow++qCx (qAR n) k x y z l)) _ _ hF hB hsE).mono ?_;rintro e wG ⟨rfl,hG,kG⟩;have hS:=(qAY (kG.at rF (by decide))).1.1))
   go_wp2
   go_end0
   refine⟨rfl,?_,(kX.trans kF.undr).trans kG⟩;have e1:out++(ow++qCx (qAR n) k x y z l)++(bytesOf (qAq k)).data.toList=out++qG8 (qAR n) (.mk k x y z l):=by
    rw[qBv,HTx.out];simp
   rw[<-e1];exact hG
 by_cases ck2:k=2
 ·have HA:Hid (qCx (qAR n) k x y z l=qDQ y):=by unfold qCx;rw[if_neg ck1,if_pos ck2];rfl
  have hsx:(out++ow).length+(qDQ y).length<=1000000:=by
   have:=HS.out;rw[HA.out]at this;simp only[List.length_append];omega
  have b0:((k:Int)==0)=false:=by simp;omega
  have b1:((k:Int)==1)=false:=by simp;omega
  have b2:((k:Int)==2)=true:=by simp;omega
  clear ck1 ck2;go_wp2_with fail
  refine(qIs B wb (out++ow) y _ h2 hB hsx).mono ?_;rintro e w3⟨rfl,h3,k3⟩;have rX:=k3.at r2 (by decide);have kX:=kA.trans k3;have hX:Sw w3 B wb (out++(ow++qCx (qAR n) k x y z l)):=by rw[HA.out,<-List.append_assoc];exact h3
  clear h3 k3 r2 h2 t2 hr2 q0 q1 q2 q3 q4 q5 q6 q7 q8 q9 q10;obtain⟨⟨v0,v1,v2,v3,v4,v5,v6,v7,v8,v9,v10⟩,_⟩:=qAY rX;have hsE:(out++(ow++qCx (qAR n) k x y z l)).length+(bytesOf (qAq k)).size<=1000000:=by
   rw[qBw];simp only[List.length_append];have:=HS.out;omega
  go_wp2
  go_region_held3 (fun wx=>wx.cell? ⟨w.heap.size,0,none⟩=some (.int .i64 (k:Int))) (first|exact hS|simp[go_sem, *]) (first|(go_at_call 184;refine(qDS (R:=w.heap.size) (c:=#[.int .i64 k,.string x,.string y.name,.string y.op,.string y.val,.bool y.any,.string z.word,.bool z.hasN,.int .i64 z.a,.int .i64 z.b,.slice la lm lc]) k hk11 hX.dr (qFQ rX)).mono ?_;rintro e wF ⟨rfl,hF,kF,rF⟩;have hS:=(qAY rF).1.1)|(go_at_call 112;refine(qBa B wb (out++(ow++qCx (qAR n) k x y z l)) _ _ hF hB hsE).mono ?_;rintro e wG ⟨rfl,hG,kG⟩;have hS:=(qAY (kG.at rF (by decide))).1.1))
  go_wp2
  go_end0
  refine⟨rfl,?_,(kX.trans kF.undr).trans kG⟩;have e1:out++(ow++qCx (qAR n) k x y z l)++(bytesOf (qAq k)).data.toList=out++qG8 (qAR n) (.mk k x y z l):=by
   rw[qBv,HTx.out];simp
  rw[<-e1];exact hG
 by_cases ck8:k=8
 ·have HA:Hid (qCx (qAR n) k x y z l=qKh z):=by unfold qCx;rw[if_neg ck1,if_neg ck2,if_pos ck8];rfl
  have hsx:(out++ow).length+(bytesOf (qKh z)).size<=1000000:=by
   have:=HS.out;rw[HA.out]at this;rw[qBw];simp only[List.length_append];omega
  have b0:((k:Int)==0)=false:=by simp;omega
  have b1:((k:Int)==1)=false:=by simp;omega
  have b2:((k:Int)==2)=false:=by simp;omega
  have b8:((k:Int)==8)=true:=by simp;omega
  obtain⟨hza,hzb⟩:=HW8.out ck8;clear ck1 ck2 ck8;go_wp2
  go_region_held3 (fun wx=>wx.cell? ⟨w.heap.size,6,none⟩=some (.string z.word)/\wx.cell? ⟨w.heap.size,7,none⟩=some (.bool z.hasN)/\wx.cell? ⟨w.heap.size,8,none⟩=some (.int .i64 z.a)/\wx.cell? ⟨w.heap.size,9,none⟩=some (.int .i64 z.b)) (first|exact hS2|simp[go_sem, *]) (first|(go_at_call 183;refine(qPe (R:=w.heap.size) (c:=#[.int .i64 k,.string x,.string y.name,.string y.op,.string y.val,.bool y.any,.string z.word,.bool z.hasN,.int .i64 z.a,.int .i64 z.b,.slice la lm lc]) z hza hzb h2.dr t2.dr hg (qFQ r2)).mono ?_;rintro e w3 ⟨rfl,h3,k3,t3,r3⟩;obtain⟨⟨_,_,_,_,_,_,p6,p7,p8,p9,_⟩,_⟩:=qAY r3;have hS2:=And.intro p6 (And.intro p7 (And.intro p8 p9)))|(go_at_call 112;refine(qFK (R:=w.heap.size) (c:=#[.int .i64 k,.string x,.string y.name,.string y.op,.string y.val,.bool y.any,.string z.word,.bool z.hasN,.int .i64 z.a,.int .i64 z.b,.slice la lm lc]) _ h3 hB hsx t3 hg r3).mono ?_;rintro e w4 ⟨rfl,h4,k4,t4,rX⟩;obtain⟨⟨_,_,_,_,_,_,p6',p7',p8',p9',_⟩,_⟩:=qAY rX;have hS2:=And.intro p6' (And.intro p7' (And.intro p8' p9'))))
  have kX:=(kA.trans k3.undr).trans k4;have hX:Sw w4 B wb (out++(ow++qCx (qAR n) k x y z l)):=by rw[HA.out,<-List.append_assoc];rw[qBv]at h4;exact h4
  clear h4 k4 t4 h3 k3 t3 r3 r2 h2 t2 hr2 q0 q1 q2 q3 q4 q5 q6 q7 q8 q9 q10;obtain⟨⟨v0,v1,v2,v3,v4,v5,v6,v7,v8,v9,v10⟩,_⟩:=qAY rX;have hsE:(out++(ow++qCx (qAR n) k x y z l)).length+(bytesOf (qAq k)).size<=1000000:=by
   rw[qBw];simp only[List.length_append];have:=HS.out;omega
  go_wp2
  go_region_held3 (fun wx=>wx.cell? ⟨w.heap.size,0,none⟩=some (.int .i64 (k:Int))) (first|exact hS|simp[go_sem, *]) (first|(go_at_call 184;refine(qDS (R:=w.heap.size) (c:=#[.int .i64 k,.string x,.string y.name,.string y.op,.string y.val,.bool y.any,.string z.word,.bool z.hasN,.int .i64 z.a,.int .i64 z.b,.slice la lm lc]) k hk11 hX.dr (qFQ rX)).mono ?_;rintro e wF ⟨rfl,hF,kF,rF⟩;have hS:=(qAY rF).1.1)|(go_at_call 112;refine(qBa B wb (out++(ow++qCx (qAR n) k x y z l)) _ _ hF hB hsE).mono ?_;rintro e wG ⟨rfl,hG,kG⟩;have hS:=(qAY (kG.at rF (by decide))).1.1))
  go_wp2
  go_end0
  refine⟨rfl,?_,(kX.trans kF.undr).trans kG⟩;have e1:out++(ow++qCx (qAR n) k x y z l)++(bytesOf (qAq k)).data.toList=out++qG8 (qAR n) (.mk k x y z l):=by
   rw[qBv,HTx.out];simp
  rw[<-e1];exact hG
 by_cases ck9:9<=k
 ·have HA:Hid (qCx (qAR n) k x y z l=qAR n l):=by unfold qCx;rw[if_neg ck1,if_neg ck2,if_neg ck8,if_pos ck9];rfl
  have hsx:(out++ow).length+(qAR n l).length<=1000000:=by
   have:=HS.out;rw[HA.out]at this;simp only[List.length_append];omega
  have b0:((k:Int)==0)=false:=by simp;omega
  have b1:((k:Int)==1)=false:=by simp;omega
  have b2:((k:Int)==2)=false:=by simp;omega
  have b8:((k:Int)==8)=false:=by simp;omega
  have hwl:=(HW9.out ck9).2;have b9:((k:Int)==9)=true\/((k:Int)==9)=false/\((k:Int)==10)=true:=by
   rcases (show k=9\/k=10 from by omega)with e|e<;>subst e
   ·exact .inl rfl
   ·exact .inr ⟨rfl,rfl⟩
  clear ck1 ck2 ck8 ck9;rcases b9 with b9|⟨b9,b10⟩
  all_goals
   go_wp2_with fail
   refine(IH B wb (out++ow) _ l _ h2 hB t2 hg hr2 hwl hsx).mono ?_;rintro e w3⟨rfl,h3,k3⟩;have rX:=k3.at r2 (by decide);have kX:=kA.trans k3;have hX:Sw w3 B wb (out++(ow++qCx (qAR n) k x y z l)):=by rw[HA.out,<-List.append_assoc];exact h3
   clear h3 k3 r2 h2 t2 hr2 q0 q1 q2 q3 q4 q5 q6 q7 q8 q9 q10;obtain⟨⟨v0,v1,v2,v3,v4,v5,v6,v7,v8,v9,v10⟩,_⟩:=qAY rX;have hsE:(out++(ow++qCx (qAR n) k x y z l)).length+(bytesOf (qAq k)).size<=1000000:=by
    rw[qBw];simp only[List.length_append];have:=HS.out;omega
   go_wp2
   go_region_held3 (fun wx=>wx.cell? ⟨w.heap.size,0,none⟩=some (.int .i64 (k:Int))) (first|exact hS|simp[go_sem, *]) (first|(go_at_call 184;refine(qDS (R:=w.heap.size) (c:=#[.int .i64 k,.string x,.string y.name,.string y.op,.string y.val,.bool y.any,.string z.word,.bool z.hasN,.int .i64 z.a,.int .i64 z.b,.slice la lm lc]) k hk11 hX.dr (qFQ rX)).mono ?_;rintro e wF ⟨rfl,hF,kF,rF⟩;have hS:=(qAY rF).1.1)|(go_at_call 112;refine(qBa B wb (out++(ow++qCx (qAR n) k x y z l)) _ _ hF hB hsE).mono ?_;rintro e wG ⟨rfl,hG,kG⟩;have hS:=(qAY (kG.at rF (by decide))).1.1))
   go_wp2
   go_end0
   refine⟨rfl,?_,(kX.trans kF.undr).trans kG⟩;have e1:out++(ow++qCx (qAR n) k x y z l)++(bytesOf (qAq k)).data.toList=out++qG8 (qAR n) (.mk k x y z l):=by
    rw[qBv,HTx.out];simp
   rw[<-e1];exact hG
 ·have HA:Hid (qCx (qAR n) k x y z l=[]):=by unfold qCx;rw[if_neg ck1,if_neg ck2,if_neg ck8,if_neg ck9];rfl
  have b0:((k:Int)==0)=false:=by simp;omega
  have b1:((k:Int)==1)=false:=by simp;omega
  have b2:((k:Int)==2)=false:=by simp;omega
  have b8:((k:Int)==8)=false:=by simp;omega
  have b9:((k:Int)==9)=false:=by simp;omega
  have b10:((k:Int)==10)=false:=by simp;omega
  clear ck1 ck2 ck8 ck9;have rX:=r2;have kX:=kA;have hX:Sw w2 B wb (out++(ow++qCx (qAR n) k x y z l)):=by rw[HA.out,List.append_nil];exact h2
  clear r2 h2 t2 hr2 q0 q1 q2 q3 q4 q5 q6 q7 q8 q9 q10 kA;obtain⟨⟨v0,v1,v2,v3,v4,v5,v6,v7,v8,v9,v10⟩,_⟩:=qAY rX;have hsE:(out++(ow++qCx (qAR n) k x y z l)).length+(bytesOf (qAq k)).size<=1000000:=by
   rw[qBw];simp only[List.length_append];have:=HS.out;omega
  go_wp2
  go_region_held3 (fun wx=>wx.cell? ⟨w.heap.size,0,none⟩=some (.int .i64 (k:Int))) (first|exact hS|simp[go_sem, *]) (first|(go_at_call 184;refine(qDS (R:=w.heap.size) (c:=#[.int .i64 k,.string x,.string y.name,.string y.op,.string y.val,.bool y.any,.string z.word,.bool z.hasN,.int .i64 z.a,.int .i64 z.b,.slice la lm lc]) k hk11 hX.dr (qFQ rX)).mono ?_;rintro e wF ⟨rfl,hF,kF,rF⟩;have hS:=(qAY rF).1.1)|(go_at_call 112;refine(qBa B wb (out++(ow++qCx (qAR n) k x y z l)) _ _ hF hB hsE).mono ?_;rintro e wG ⟨rfl,hG,kG⟩;have hS:=(qAY (kG.at rF (by decide))).1.1))
  go_wp2
  go_end0
  refine⟨rfl,?_,(kX.trans kF.undr).trans kG⟩;have e1:out++(ow++qCx (qAR n) k x y z l)++(bytesOf (qAq k)).data.toList=out++qG8 (qAR n) (.mk k x y z l):=by
   rw[qBv,HTx.out];simp
  rw[<-e1];exact hG
theorem qIF{α:Type}{R:α->List Value->Prop}{m:Nat}(hm:∀a c,R a c->c.length=m){P:Nat->Prop}{w:World}{e:TypeId}{v:Value}{n:Nat}{xs:List Value}{l:List α}{k:Nat}{a:α}(own:Own P w e m v n xs)(row:Row R l xs)(hl:l.length=n)(hk:l[k]? = some a) :
  ∃g cap c,v=.slice (some ⟨g,0,none⟩) n cap/\n<=maxLen/\R a c/\∀j u,c[j]? = some u->w.cell? ⟨g,k*m+j,none⟩=some u:=by
 obtain⟨c,hc,hx⟩:=Row.get hm row hk;have hkl:k<n:=by rw[<-hl];exact(List.getElem?_eq_some_iff.1 hk).1
 obtain⟨o1,_⟩:=own;have hcells:=fun(g:Nat)(hg:v.ownBlock=some g)=>o1.cells hg;rcases o1.2 with⟨_,hz⟩|⟨g,cap,cur,hv,_,_,hnc,hcm,_⟩
 ·omega
 ·refine⟨g,cap,c,hv,by omega,hc,fun j u hj=>?_⟩;have hjm:j<m:=by rw[<-hm _ _ hc];exact(List.getElem?_eq_some_iff.1 hj).1
  have:=hcells g (by rw[hv];rfl) (k*m+j) u (by rw[hx j hjm];exact hj);have e:(⟨g,0,none⟩:Addr).add (k*m+j)=⟨g,k*m+j,none⟩:=by
   unfold Addr.add;split
   ·rename_i h0;rw[h0]
   ·simp
  rw[<-e];exact this
theorem qEk{P:Nat->Prop}{w:World}{e:TypeId}{m:Nat}{v:Value}{n:Nat}{xs:List Value}(own:Own P w e m v n xs):∃la lc,v=.slice la n lc:=qBA own.1
theorem qEo{α:Type}{l:List α}{k:Nat}{a:α}(h:l[k]? = some a):l.take (k+1)=l.take k++[a]:=by
 obtain⟨hlt,he⟩:=List.getElem?_eq_some_iff.1 h;rw[List.take_succ_eq_append_getElem hlt,he]
theorem qSi(tl:qAg->List UInt8)(l:Cpx)(st:Stp):qCD tl (l++[st])=qCD tl l++qTk tl st:=by unfold qCD;simp
theorem qL0(tl:qAg->List UInt8)(l:List Sim)(m:Sim):qBS tl (l++[m])=qBS tl l++qG8 tl m:=by unfold qBS;simp
theorem qS1(tl:qAg->List UInt8)(l:qAg)(c:Cpx):qDB tl (l++[c])=qDB tl l++((if l=[]then[]else[44])++qCD tl c):=by
 cases l with
 |nil=>simp[qDB]
 |cons a r=>simp[qDB,List.append_assoc]
theorem qCM{α:Type}(f:α->List UInt8)(l:List α)(k:Nat):((l.take k).flatMap f).length<=(l.flatMap f).length:=by
 conv=>rhs;rw[<-List.take_append_drop k l,List.flatMap_append,List.length_append]
 omega
theorem qGQ{RL:Value->qAg->Prop}:∀(m:Sim)(c:List Value),repS qAi RL m c->c.length=11:=fun _ _ h=>h.len
theorem qJI{P:Nat->Prop}{w:World}{RL:Value->qAg->Prop}:∀(st:Stp)(c:List Value),repT qAi P w RL st c->c.length=4:=fun _ _ h=>h.len
section
variable{B wb:Nat}{out:List UInt8}{w:World}{R:Nat}{c:Array Value}
theorem qIT(t:ByteArray)(h:Sw w B wb out)(hB:B<=wb)(hs:out.length+t.size<=1000000)(ht:Tb w)(hg:5<B)(rs:w.heap[R]? = some (.cells c 256 (0,0))) :
  Calls prog 112 #[.pointer (some ⟨wb,0,none⟩),.string t] w fun e w'=>e=.returned (.tuple #[.int .i64 (t.size:Int),.nilIface])/\Sw w' B wb (out++t.data.toList)/\Kp B TSw w w'/\Tb w'/\w'.heap[R]? = some (.cells c 256 (0,0)) :=
 (qBa B wb out t w h hB hs).mono fun _ _ ⟨he,h1,hk⟩=>⟨he,h1,hk,ht.kept hk hg,hk.at rs (by decide)⟩
theorem qRt(b:Int)(hb:0<b/\b<128)(h:Sw w B wb out)(hB:B<=wb)(hs:out.length+1<=1000000)(ht:Tb w)(hg:5<B)(rs:w.heap[R]? = some (.cells c 256 (0,0))) :
  Calls prog 118 #[.pointer (some ⟨wb,0,none⟩),.int .u8 b] w fun e w'=>e=.returned .nilIface/\Sw w' B wb (out++byT b)/\Kp B TSw w w'/\Tb w'/\w'.heap[R]? = some (.cells c 256 (0,0)):=by
 have e1:((UInt8.ofNat b.toNat).toNat:Int)=b:=by rw[UInt8.toNat_ofNat'];omega
 have e2:byT b=[UInt8.ofNat b.toNat]:=by unfold byT;rw[if_neg (by omega)]
 have:=qJX B wb out (UInt8.ofNat b.toNat) w h hB hs;rw[e1]at this;rw[e2];exact this.mono fun _ _ ⟨he,h1,hk⟩=>⟨he,h1,hk,ht.kept hk hg,hk.at rs (by decide)⟩
end
theorem qDl{B:Nat}{w w':World}{n:Nat}{cv:Value}{c:Cpx}(h:repC qAi (fun _=>True) w (RepL qAi (fun _=>True) w n) cv c)(k:Kp B TSw w w'):repC qAi (fun _=>True) w' (RepL qAi (fun _=>True) w' n) cv c:=h.mp (Fr.ofKp k (by decide) (by decide) (by decide) fun _ h=>h)
theorem qEL{B:Nat}{w w':World}{n:Nat}{sv:Value}{ms:List Sim}(h:repM qAi (fun _=>True) w (RepL qAi (fun _=>True) w n) sv ms)(k:Kp B TSw w w'):repM qAi (fun _=>True) w' (RepL qAi (fun _=>True) w' n) sv ms:=h.mp (Fr.ofKp k (by decide) (by decide) (by decide) fun _ h=>h)
theorem qGz(n:Nat)(IH:qGA n)(B wb:Nat)(out:List UInt8)(cv:Value)(c:Cpx)(w:World)(h:Sw w B wb out)(hB:B<=wb)(ht:Tb w)(hg:5<B)(hr:repC qAi (fun _=>True) w (RepL qAi (fun _=>True) w n) cv c)(hwf:wfC (wfL n) c)(hs:out.length+(qCD (qAR n) c).length<=1000000) :
  Calls prog 119 #[.pointer (some ⟨wb,0,none⟩),cv] w fun e w'=>e=.returned (.tuple #[])/\Sw w' B wb (out++qCD (qAR n) c)/\Kp B TSw w w':=by
 obtain⟨la,lc,rfl⟩:∃la lc,cv=.slice la c.length lc:=by obtain⟨xs,own,_⟩:=hr;exact qEk own
 have HWF:=qAF hwf;have hcm:c.length<=maxLen:=by
  obtain⟨xs,own,row⟩:=hr;rcases Nat.eq_zero_or_pos c.length with h0|h0
  ·rw[h0];exact Nat.zero_le _
  ·obtain⟨_,_,_,_,hm,_⟩:=qIF qJI own row rfl (List.getElem?_eq_getElem h0);exact hm
 unfold maxLen at hcm;clear hwf;go_enter func119,ntmps119
 go_wp2
 go_loopw [10] (fun iv wr=>∃k:Nat,iv=.int .i64 k/\k<=c.length/\Sw wr B wb (out++qCD (qAR n) (c.take k))/\Tb wr/\repC qAi (fun _=>True) wr (RepL qAi (fun _=>True) wr n) (.slice la c.length lc) c/\Kp B TSw w wr) (fun iv _=>c.length-(intOf iv).toNat)
 case atStart=>exact⟨0,rfl,Nat.zero_le _,by simpa [qCD]using h,ht,hr,Kp.refl _ _ _⟩
 case round =>
  obtain⟨k,rfl,hkc,hw,htr,hrr,hk⟩:=hrel;by_cases hlt:k<c.length
  ·obtain⟨st,hst⟩:∃st,c[k]? = some st:=⟨_,List.getElem?_eq_getElem hlt⟩;have hwfk:=HWF.out k st hst;obtain⟨xs,own,row⟩:=hrr;obtain⟨g,cap,vs,hv,_,hvs,hcell⟩:=qIF qJI own row rfl hst;obtain⟨rfl,rfl⟩:la=some ⟨g,0,none⟩/\lc=cap:=by simp only[Value.slice.injEq]at hv;exact⟨hv.1,hv.2.2⟩
   obtain⟨sv,pr,rfl,⟨kx,rfl⟩,hrm⟩:=hvs;obtain⟨bb,nm,ms⟩:=st;dsimp only at *;obtain⟨sa,sc,rfl⟩:∃sa sc,sv=.slice sa ms.length sc:=by obtain⟨ys,own2,_⟩:=hrm;exact qEk own2
   have c0:=hcell 0 _ rfl;have c1:=hcell 1 _ rfl;have c2:=hcell 2 _ rfl;have c3:=hcell 3 _ rfl;rw[Nat.add_zero]at c0;have htk:Hid (qCD (qAR n) (c.take (k+1))=qCD (qAR n) (c.take k)++(byT bb++(nm.data.toList++qBS (qAR n) ms))):=by
    rw[qEo hst,qSi];rfl
   have hle:=qCM (qTk (qAR n)) c (k+1);have hle2:out.length+((qCD (qAR n) (c.take k)).length+((byT bb).length+(nm.size+(qBS (qAR n) ms).length)))<=1000000:=by
    have h1:(qCD (qAR n) (c.take (k+1))).length<=(qCD (qAR n) c).length:=hle;rw[htk.out]at h1;simp only[List.length_append,qE2]at h1;omega
   have hrr:repC qAi (fun _=>True) wr (RepL qAi (fun _=>True) wr n) (.slice (some ⟨g,0,none⟩) c.length lc) c:=⟨xs,own,row⟩;clear hv hcell own row hle;have kS:=(Kp.refl B TSw wr).alloc (.cells #[.int .i64 kx,.int .u8 bb,.string nm,.slice sa ms.length sc] 256);have h0:=hw.alloc (.cells #[.int .i64 kx,.int .u8 bb,.string nm,.slice sa ms.length sc] 256);have t0:=htr.kept kS hg;have r0:=qAE wr (.cells #[.int .i64 kx,.int .u8 bb,.string nm,.slice sa ms.length sc] 256);have hkA:=hk.alloc (.cells #[.int .i64 kx,.int .u8 bb,.string nm,.slice sa ms.length sc] 256);have hrm0:=qEL hrm kS;have hrr0:=qDl hrr kS;obtain⟨⟨d0,d1,d2,d3⟩,_⟩:=qAk r0;have HSt:=qAF hst;have HLe:=qAF hle2;clear hw htr hk hrm hrr kS hst;obtain⟨hwt,hwz,hwp⟩:=hwfk;have HWT:=qAF hwt;clear hwt;have hsm:ms.length<=maxLen:=by
    obtain⟨ys,own2,row2⟩:=hrm0;rcases Nat.eq_zero_or_pos ms.length with h0|h0
    ·rw[h0];exact Nat.zero_le _
    ·obtain⟨_,_,_,_,hm,_⟩:=qIF qGQ own2 row2 rfl (List.getElem?_eq_getElem h0);exact hm
   unfold maxLen at hsm;by_cases hk0:k=0
   ·have hbb:=hwz hk0;have bk:¬(0:Int)<(k:Int):=by omega
    have HBB:=qAF hbb;clear hwz hwp hk0 hbb;go_wp2
    have hA:Sw (wr.alloc (.cells #[.int .i64 kx,.int .u8 bb,.string nm,.slice sa ms.length sc] 256)) B wb (out++qCD (qAR n) (c.take k)++byT bb):=by
     have e:byT bb=[]:=by rw[HBB.out];rfl
     rw[e,List.append_nil];exact h0
    clear h0 bk HBB;generalize wr.alloc (.cells #[.int .i64 kx,.int .u8 bb,.string nm,.slice sa ms.length sc] 256)=wA at *;have tA:=t0;have rA:=r0;have kA:=hkA;have hrmA:=hrm0;have hrrA:=hrr0;clear t0 r0 hkA hrm0 hrr0;have hsn:(out++qCD (qAR n) (c.take k)++byT bb).length+nm.size<=1000000:=by
     have:=HLe.out;simp only[List.length_append];omega
    go_region_held3 (fun wx=>wx.cell? ⟨wr.heap.size,2,none⟩=some (.string nm)) (first|exact hS2|simp[go_sem, *]) (first|(go_at_call 112;refine(qIT (R:=wr.heap.size) (c:=#[.int .i64 kx,.int .u8 bb,.string nm,.slice sa ms.length sc]) nm hA.dr hB hsn tA.dr hg (qFQ rA)).mono ?_;rintro e wC ⟨rfl,hC,kC,tC,rC⟩;have hS2:=(qAk rC).1.2.2.1))
    have kD:=kA.trans kC.undr;have hrmC:=qEL hrmA kC.undr;have hrrC:=qDl hrrA kC.undr;clear hA kA tA rA hrmA hrrA kC d0 d1 d2 d3 hsn;obtain⟨⟨d0,d1,d2,d3⟩,_⟩:=qAk rC;go_wp2
    clear d0 d1 d2 d3;go_loopw [34] (fun jv wj=>∃j:Nat,jv=.int .i64 j/\j<=ms.length/\Sw wj B wb (out++qCD (qAR n) (c.take k)++byT bb++nm.data.toList++qBS (qAR n) (ms.take j))/\Tb wj/\repM qAi (fun _=>True) wj (RepL qAi (fun _=>True) wj n) (.slice sa ms.length sc) ms/\repC qAi (fun _=>True) wj (RepL qAi (fun _=>True) wj n) (.slice (some ⟨g,0,none⟩) c.length lc) c/\Kp B TSw w wj) (fun jv _=>ms.length-(intOf jv).toNat)
    case atStart=>exact⟨0,rfl,Nat.zero_le _,by simpa [qBS]using hC,tC,hrmC,hrrC,kD⟩
    case round =>
     obtain⟨j,rfl,hjm,hj,tj,hrmj,hrrj,kj⟩:=hrel;clear hC tC hrmC hrrC kD rC;by_cases hjl:j<ms.length
     ·obtain⟨m,hm⟩:∃m,ms[j]? = some m:=⟨_,List.getElem?_eq_getElem hjl⟩;have hwm:=HWT.out m (List.mem_of_getElem? hm);obtain⟨ys,own2,row2⟩:=hrmj;obtain⟨g2,cap2,vs,hv,_,hvs,hcell⟩:=qIF qGQ own2 row2 rfl hm;obtain⟨rfl,rfl⟩:sa=some ⟨g2,0,none⟩/\sc=cap2:=by simp only[Value.slice.injEq]at hv;exact⟨hv.1,hv.2.2⟩
      have hrmj:repM qAi (fun _=>True) wr (RepL qAi (fun _=>True) wr n) (.slice (some ⟨g2,0,none⟩) ms.length sc) ms:=⟨ys,own2,row2⟩;obtain⟨kk,x,y,z,l⟩:=m;obtain⟨lv,rfl,hrl⟩:=hvs;obtain⟨va,vm,vc,rfl⟩:=hrl.shapeW;have e0:=hcell 0 _ rfl;have e1:=hcell 1 _ rfl;have e2:=hcell 2 _ rfl;have e3:=hcell 3 _ rfl;have e4:=hcell 4 _ rfl;have e5:=hcell 5 _ rfl;have e6:=hcell 6 _ rfl;have e7:=hcell 7 _ rfl;have e8:=hcell 8 _ rfl;have e9:=hcell 9 _ rfl;have e10:=hcell 10 _ rfl;rw[Nat.add_zero]at e0;have htj:Hid (qBS (qAR n) (ms.take (j+1))=qBS (qAR n) (ms.take j)++qG8 (qAR n) (.mk kk x y z l)):=by rw[qEo hm,qL0];rfl
      have hsj:(out++qCD (qAR n) (c.take k)++byT bb++nm.data.toList++qBS (qAR n) (ms.take j)).length+(qG8 (qAR n) (.mk kk x y z l)).length<=1000000:=by
       have h1:(qBS (qAR n) (ms.take (j+1))).length<=(qBS (qAR n) ms).length:=qCM _ _ _;rw[htj.out]at h1;have:=HLe.out;simp only[List.length_append,qE2]at h1 ⊢;omega
      have kS:=(Kp.refl B TSw wr).alloc (.cells #[.int .i64 kk,.string x,.string y.name,.string y.op,.string y.val,.bool y.any,.string z.word,.bool z.hasN,.int .i64 z.a,.int .i64 z.b,.slice va vm vc] 263);have hj0:=hj.alloc (.cells #[.int .i64 kk,.string x,.string y.name,.string y.op,.string y.val,.bool y.any,.string z.word,.bool z.hasN,.int .i64 z.a,.int .i64 z.b,.slice va vm vc] 263);have tj0:=tj.kept kS hg;have hrl0:RepL qAi (fun _=>True) (wr.alloc (.cells #[.int .i64 kk,.string x,.string y.name,.string y.op,.string y.val,.bool y.any,.string z.word,.bool z.hasN,.int .i64 z.a,.int .i64 z.b,.slice va vm vc] 263)) n (.slice va vm vc) l:=hrl.map (Fr.alloc _ fun _ h=>h);have hrm0:=qEL hrmj kS;have hrr0:=qDl hrrj kS;have kj0:=kj.alloc (.cells #[.int .i64 kk,.string x,.string y.name,.string y.op,.string y.val,.bool y.any,.string z.word,.bool z.hasN,.int .i64 z.a,.int .i64 z.b,.slice va vm vc] 263);have rj:=qAE wr (.cells #[.int .i64 kk,.string x,.string y.name,.string y.op,.string y.val,.bool y.any,.string z.word,.bool z.hasN,.int .i64 z.a,.int .i64 z.b,.slice va vm vc] 263);obtain⟨⟨p0,p1,p2,p3,p4,p5,p6,p7,p8,p9,p10⟩,_⟩:=qAY rj;clear hv hcell own2 row2 hrmj hrrj hj tj kj hrl kS hm;go_wp2_with fail
      clear p0 p1 p2 p3 p4 p5 p6 p7 p8 p9 p10 e0 e1 e2 e3 e4 e5 e6 e7 e8 e9 e10;generalize wr.alloc (.cells #[.int .i64 kk,.string x,.string y.name,.string y.op,.string y.val,.bool y.any,.string z.word,.bool z.hasN,.int .i64 z.a,.int .i64 z.b,.slice va vm vc] 263)=wk at *;refine(qIY n IH B wb _ kk x y z (.slice va vm vc) l _ hj0 hB tj0 hg hrl0 hwm hsj).mono ?_;rintro e wl⟨rfl,hl,kl⟩;have hrml:=qEL hrm0 kl;have hrrl:=qDl hrr0 kl;have tl:=tj0.kept kl hg;have kll:=kj0.trans kl;go_wp2
      go_roundw
      case rel=>exact⟨j+1,by go_num,by omega,by rw[htj.out,<-List.append_assoc];exact hl,tl,hrml,hrrl,kll⟩
      case measure=>simp[intOf];omega
     ·rw[List.take_of_length_le (l:=ms) (i:=j) (by omega)]at hj;go_wp2
      go_roundw
      case rel=>exact⟨k+1,by go_num,by omega,by rw[htk.out];simpa only[List.append_assoc]using hj,tj,hrrj,kj⟩
      case measure=>simp[intOf];omega
   ·have hbb:=hwp hk0;have bk:(0:Int)<(k:Int):=by omega
    have hsb:(out++qCD (qAR n) (c.take k)).length+1<=1000000:=by
     have e:byT bb=[UInt8.ofNat bb.toNat]:=by unfold byT;rw[if_neg (by omega)]
     have:=HLe.out;rw[e]at this;simp only[List.length_append,List.length_cons,List.length_nil]at this ⊢;omega
    clear hwz hwp hk0;go_wp2
    go_region_held3 (fun wx=>wx.cell? ⟨wr.heap.size,1,none⟩=some (.int .u8 bb)) (first|exact hS|simp[go_sem, *]) (first|(go_at_call 118;refine(qRt (R:=wr.heap.size) (c:=#[.int .i64 kx,.int .u8 bb,.string nm,.slice sa ms.length sc]) bb hbb h0.dr hB hsb t0.dr hg (qFQ r0)).mono ?_;rintro e wA ⟨rfl,hA,kB,tA,rA⟩;have hS:=(qAk rA).1.2.1))
    have kA:=hkA.trans kB.undr;have hrmA:=qEL hrm0 kB.undr;have hrrA:=qDl hrr0 kB.undr;clear h0 t0 r0 hkA hrm0 hrr0 d0 d1 d2 d3 kB hbb bk;obtain⟨⟨d0,d1,d2,d3⟩,_⟩:=qAk rA;have hsn:(out++qCD (qAR n) (c.take k)++byT bb).length+nm.size<=1000000:=by
     have:=HLe.out;simp only[List.length_append];omega
    go_wp2
    go_region_held3 (fun wx=>wx.cell? ⟨wr.heap.size,2,none⟩=some (.string nm)) (first|exact hS2|simp[go_sem, *]) (first|(go_at_call 112;refine(qIT (R:=wr.heap.size) (c:=#[.int .i64 kx,.int .u8 bb,.string nm,.slice sa ms.length sc]) nm hA.dr hB hsn tA.dr hg (qFQ rA)).mono ?_;rintro e wC ⟨rfl,hC,kC,tC,rC⟩;have hS2:=(qAk rC).1.2.2.1))
    have kD:=kA.trans kC.undr;have hrmC:=qEL hrmA kC.undr;have hrrC:=qDl hrrA kC.undr;clear hA kA tA rA hrmA hrrA kC d0 d1 d2 d3 hsn;obtain⟨⟨d0,d1,d2,d3⟩,_⟩:=qAk rC;go_wp2
    clear d0 d1 d2 d3;go_loopw [34] (fun jv wj=>∃j:Nat,jv=.int .i64 j/\j<=ms.length/\Sw wj B wb (out++qCD (qAR n) (c.take k)++byT bb++nm.data.toList++qBS (qAR n) (ms.take j))/\Tb wj/\repM qAi (fun _=>True) wj (RepL qAi (fun _=>True) wj n) (.slice sa ms.length sc) ms/\repC qAi (fun _=>True) wj (RepL qAi (fun _=>True) wj n) (.slice (some ⟨g,0,none⟩) c.length lc) c/\Kp B TSw w wj) (fun jv _=>ms.length-(intOf jv).toNat)
    case atStart=>exact⟨0,rfl,Nat.zero_le _,by simpa [qBS]using hC,tC,hrmC,hrrC,kD⟩
    case round =>
     obtain⟨j,rfl,hjm,hj,tj,hrmj,hrrj,kj⟩:=hrel;clear hC tC hrmC hrrC kD rC;by_cases hjl:j<ms.length
     ·obtain⟨m,hm⟩:∃m,ms[j]? = some m:=⟨_,List.getElem?_eq_getElem hjl⟩;have hwm:=HWT.out m (List.mem_of_getElem? hm);obtain⟨ys,own2,row2⟩:=hrmj;obtain⟨g2,cap2,vs,hv,_,hvs,hcell⟩:=qIF qGQ own2 row2 rfl hm;obtain⟨rfl,rfl⟩:sa=some ⟨g2,0,none⟩/\sc=cap2:=by simp only[Value.slice.injEq]at hv;exact⟨hv.1,hv.2.2⟩
      have hrmj:repM qAi (fun _=>True) wr (RepL qAi (fun _=>True) wr n) (.slice (some ⟨g2,0,none⟩) ms.length sc) ms:=⟨ys,own2,row2⟩;obtain⟨kk,x,y,z,l⟩:=m;obtain⟨lv,rfl,hrl⟩:=hvs;obtain⟨va,vm,vc,rfl⟩:=hrl.shapeW;have e0:=hcell 0 _ rfl;have e1:=hcell 1 _ rfl;have e2:=hcell 2 _ rfl;have e3:=hcell 3 _ rfl;have e4:=hcell 4 _ rfl;have e5:=hcell 5 _ rfl;have e6:=hcell 6 _ rfl;have e7:=hcell 7 _ rfl;have e8:=hcell 8 _ rfl;have e9:=hcell 9 _ rfl;have e10:=hcell 10 _ rfl;rw[Nat.add_zero]at e0;have htj:Hid (qBS (qAR n) (ms.take (j+1))=qBS (qAR n) (ms.take j)++qG8 (qAR n) (.mk kk x y z l)):=by rw[qEo hm,qL0];rfl
      have hsj:(out++qCD (qAR n) (c.take k)++byT bb++nm.data.toList++qBS (qAR n) (ms.take j)).length+(qG8 (qAR n) (.mk kk x y z l)).length<=1000000:=by
       have h1:(qBS (qAR n) (ms.take (j+1))).length<=(qBS (qAR n) ms).length:=qCM _ _ _;rw[htj.out]at h1;have:=HLe.out;simp only[List.length_append,qE2]at h1 ⊢;omega
      have kS:=(Kp.refl B TSw wr).alloc (.cells #[.int .i64 kk,.string x,.string y.name,.string y.op,.string y.val,.bool y.any,.string z.word,.bool z.hasN,.int .i64 z.a,.int .i64 z.b,.slice va vm vc] 263);have hj0:=hj.alloc (.cells #[.int .i64 kk,.string x,.string y.name,.string y.op,.string y.val,.bool y.any,.string z.word,.bool z.hasN,.int .i64 z.a,.int .i64 z.b,.slice va vm vc] 263);have tj0:=tj.kept kS hg;have hrl0:RepL qAi (fun _=>True) (wr.alloc (.cells #[.int .i64 kk,.string x,.string y.name,.string y.op,.string y.val,.bool y.any,.string z.word,.bool z.hasN,.int .i64 z.a,.int .i64 z.b,.slice va vm vc] 263)) n (.slice va vm vc) l:=hrl.map (Fr.alloc _ fun _ h=>h);have hrm0:=qEL hrmj kS;have hrr0:=qDl hrrj kS;have kj0:=kj.alloc (.cells #[.int .i64 kk,.string x,.string y.name,.string y.op,.string y.val,.bool y.any,.string z.word,.bool z.hasN,.int .i64 z.a,.int .i64 z.b,.slice va vm vc] 263);have rj:=qAE wr (.cells #[.int .i64 kk,.string x,.string y.name,.string y.op,.string y.val,.bool y.any,.string z.word,.bool z.hasN,.int .i64 z.a,.int .i64 z.b,.slice va vm vc] 263);obtain⟨⟨p0,p1,p2,p3,p4,p5,p6,p7,p8,p9,p10⟩,_⟩:=qAY rj;clear hv hcell own2 row2 hrmj hrrj hj tj kj hrl kS hm;go_wp2_with fail
      clear p0 p1 p2 p3 p4 p5 p6 p7 p8 p9 p10 e0 e1 e2 e3 e4 e5 e6 e7 e8 e9 e10;generalize wr.alloc (.cells #[.int .i64 kk,.string x,.string y.name,.string y.op,.string y.val,.bool y.any,.string z.word,.bool z.hasN,.int .i64 z.a,.int .i64 z.b,.slice va vm vc] 263)=wk at *;refine(qIY n IH B wb _ kk x y z (.slice va vm vc) l _ hj0 hB tj0 hg hrl0 hwm hsj).mono ?_;rintro e wl⟨rfl,hl,kl⟩;have hrml:=qEL hrm0 kl;have hrrl:=qDl hrr0 kl;have tl:=tj0.kept kl hg;have kll:=kj0.trans kl;go_wp2
      go_roundw
      case rel=>exact⟨j+1,by go_num,by omega,by rw[htj.out,<-List.append_assoc];exact hl,tl,hrml,hrrl,kll⟩
      case measure=>simp[intOf];omega
     ·rw[List.take_of_length_le (l:=ms) (i:=j) (by omega)]at hj;go_wp2
      go_roundw
      case rel=>exact⟨k+1,by go_num,by omega,by rw[htk.out];simpa only[List.append_assoc]using hj,tj,hrrj,kj⟩
      case measure=>simp[intOf];omega
  ·go_wp2
   go_end0
   rw[List.take_of_length_le (by omega)]at hw;exact⟨rfl,hw,hk⟩
theorem qJH{P:Nat->Prop}{w:World}{RL:Value->qAg->Prop}:∀(c:Cpx)(vs:List Value),(∃v',vs=[v']/\repC qAi P w RL v' c)->vs.length=1:=fun _ _ ⟨_,e,_⟩=>by rw[e];rfl
theorem qKG{B:Nat}{w w':World}{n:Nat}{lv:Value}{l:qAg}(h:RepL qAi (fun _=>True) w n lv l)(k:Kp B TSw w w'):RepL qAi (fun _=>True) w' n lv l:=h.map (Fr.ofKp k (by decide) (by decide) (by decide) fun _ h=>h)
theorem qLR(tl:qAg->List UInt8)(l:qAg)(k:Nat):(qDB tl (l.take k)).length<=(qDB tl l).length:=by
 cases l with
 |nil=>simp
 | cons a r =>
  cases k with
  |zero=>simp[qDB]
  |succ k =>
   have:=qCM (fun c=>44::qCD tl c) r k;simp only[List.take_succ_cons,qDB,List.length_append];omega
theorem qPb:qGA 0:=by
 intro B wb out lv l w h hB ht hg hr hwf hs;obtain⟨rfl,rfl⟩:=hr;go_enter func82,ntmps82
 go_wp2
 go_loopw [8] (fun iv wr=>iv=.int .i64 0/\wr=w) (fun _ _=>0)
 case atStart=>exact⟨rfl,rfl⟩
 case round =>
  obtain⟨rfl,rfl⟩:=hrel;go_wp2
  go_end0
  exact⟨rfl,by rw[show qAR 0 []=[] from rfl,List.append_nil];exact h,Kp.refl _ _ _⟩
theorem qPa(n:Nat)(IH:qGA n):qGA (n+1):=by
 intro B wb out lv l w h hB ht hg hr hwf hs;obtain⟨la,lc,rfl⟩:∃la lc,lv=.slice la l.length lc:=by obtain⟨xs,own,_⟩:=hr;exact qEk own
 have HWF:=qAF hwf;have hcm:l.length<=maxLen:=by
  obtain⟨xs,own,row⟩:=hr;rcases Nat.eq_zero_or_pos l.length with h0|h0
  ·rw[h0];exact Nat.zero_le _
  ·obtain⟨_,_,_,_,hm,_⟩:=qIF qJH own row rfl (List.getElem?_eq_getElem h0);exact hm
 unfold maxLen at hcm;have HS:Hid (out.length+(qDB (qAR n) l).length<=1000000):=hs;clear hwf hs;show Calls _ _ _ _ fun e w'=>e=.returned (.tuple #[])/\Sw w' B wb (out++qDB (qAR n) l)/\Kp B TSw w w';go_enter func82,ntmps82
 go_wp2
 go_loopw [8] (fun iv wr=>∃k:Nat,iv=.int .i64 k/\k<=l.length/\Sw wr B wb (out++qDB (qAR n) (l.take k))/\Tb wr/\RepL qAi (fun _=>True) wr (n+1) (.slice la l.length lc) l/\Kp B TSw w wr) (fun iv _=>l.length-(intOf iv).toNat)
 case atStart=>exact⟨0,rfl,Nat.zero_le _,by simpa [qDB]using h,ht,hr,Kp.refl _ _ _⟩
 case round =>
  obtain⟨k,rfl,hkc,hw,htr,hrr,hk⟩:=hrel;by_cases hlt:k<l.length
  ·obtain⟨c,hc⟩:∃c,l[k]? = some c:=⟨_,List.getElem?_eq_getElem hlt⟩;have hwc:=HWF.out c (List.mem_of_getElem? hc);obtain⟨g,cap,vs,hv,_,⟨cv,rfl,hrc⟩,hcell⟩:∃g cap vs,Value.slice la l.length lc=.slice (some ⟨g,0,none⟩) l.length cap/\l.length<=maxLen/\(∃v',vs=[v']/\repC qAi (fun _=>True) wr (RepL qAi (fun _=>True) wr n) v' c)/\∀j u,vs[j]? = some u->wr.cell? ⟨g,k*1+j,none⟩=some u:=by
    obtain⟨xs,own,row⟩:=hrr;exact qIF qJH own row rfl hc
   obtain⟨rfl,rfl⟩:la=some ⟨g,0,none⟩/\lc=cap:=by simp only[Value.slice.injEq]at hv;exact⟨hv.1,hv.2.2⟩
   obtain⟨ca,cc,rfl⟩:∃ca cc,cv=.slice ca c.length cc:=by obtain⟨ys,own2,_⟩:=hrc;exact qEk own2
   have c0:=hcell 0 _ rfl;rw[Nat.mul_one,Nat.add_zero]at c0;have htk:Hid (qDB (qAR n) (l.take (k+1))=qDB (qAR n) (l.take k)++((if k=0 then[]else[44])++qCD (qAR n) c)):=by
    rw[qEo hc,qS1];have e:(l.take k=[])↔k=0:=by
     rw[List.take_eq_nil_iff];constructor
     ·rintro(h|h)
      ·exact h
      ·rw[h]at hlt;simp at hlt
     ·exact .inl
    by_cases h0:k=0
    ·rw[if_pos (e.2 h0),if_pos h0];rfl
    ·rw[if_neg (fun h=>h0 (e.1 h)),if_neg h0];rfl
   have hle:out.length+((qDB (qAR n) (l.take k)).length+((if k=0 then([]:List UInt8)else[44]).length+(qCD (qAR n) c).length))<=1000000:=by
    have h1:=qLR (qAR n) l (k+1);rw[htk.out]at h1;simp only[List.length_append]at h1;have:=HS.out;omega
   have HLe:=qAF hle;clear hv hcell hle hc;by_cases hk0:k=0
   ·have bk:¬(0:Int)<(k:Int):=by omega
    have hsz:(out++qDB (qAR n) (l.take k)).length+(qCD (qAR n) c).length<=1000000:=by
     have:=HLe.out;simp only[List.length_append];omega
    have htk2:Hid (out++qDB (qAR n) (l.take k)++qCD (qAR n) c=out++qDB (qAR n) (l.take (k+1))):=by
     rw[htk.out,if_pos hk0];simp[Hid]
    clear hk0;go_wp2_with fail
    refine(qGz n IH B wb _ _ c _ hw hB htr hg hrc hwc hsz).mono ?_;rintro e w2⟨rfl,h2,k2⟩;have hr2:=qKG hrr k2;have t2:=htr.kept k2 hg;have kk:=hk.trans k2;go_wp2
    go_roundw
    case rel=>exact⟨k+1,by go_num,by omega,by rw[<-htk2.out];exact h2,t2,hr2,kk⟩
    case measure=>simp[intOf];omega
   ·have bk:(0:Int)<(k:Int):=by omega
    have hsz0:(out++qDB (qAR n) (l.take k)).length+1<=1000000:=by
     have:=HLe.out;rw[if_neg hk0]at this;simp only[List.length_append,List.length_cons,List.length_nil]at this ⊢;omega
    have hsz:(out++qDB (qAR n) (l.take k)++[44]).length+(qCD (qAR n) c).length<=1000000:=by
     have:=HLe.out;rw[if_neg hk0]at this;simp only[List.length_append,List.length_cons,List.length_nil]at this ⊢;omega
    have htk2:Hid (out++qDB (qAR n) (l.take k)++[44]++qCD (qAR n) c=out++qDB (qAR n) (l.take (k+1))):=by
     rw[htk.out,if_neg hk0];simp[Hid]
    clear hk0;go_wp2_with fail
    refine(qJX B wb _ 44 _ hw hB hsz0).mono ?_;rintro e w1⟨rfl,h1,k1⟩;have t1:=htr.kept k1 hg;have hr1:=qKG hrr k1;have hrc1:=qDl hrc k1;go_wp2_with fail
    refine(qGz n IH B wb _ _ c _ h1 hB t1 hg hrc1 hwc hsz).mono ?_;rintro e w2⟨rfl,h2,k2⟩;have hr2:=qKG hr1 k2;have t2:=t1.kept k2 hg;have kk:=(hk.trans k1).trans k2;go_wp2
    go_roundw
    case rel=>exact⟨k+1,by go_num,by omega,by rw[<-htk2.out];exact h2,t2,hr2,kk⟩
    case measure=>simp[intOf];omega
  ·go_wp2
   go_end0
   rw[List.take_of_length_le (by omega)]at hw;exact⟨rfl,hw,hk⟩
theorem qOC:∀n,qGA n
 |0=>qPb
 |n+1=>qPa n (qOC n)
theorem swrite_any(n:Nat)(lv:Value)(l:qAg)(w:World)(ht:Tb w)(hr:RepL qAi (fun _=>True) w n lv l)(hwf:wfL n l)(hs:(qAR n l).length<=1000000)(h0:qAR n l≠[]) :
  Calls prog 51 #[lv] w fun e w'=>e=.returned (.string (bytesOf (qAR n l)))/\Below w.heap.size w w':=by
 have hS:Sw (w.alloc (.cells #[.pointer none,.slice none 0 0] 156)) w.heap.size w.heap.size []:=⟨_,_,qAE _ _,.inl rfl,World.ownsRow_nil _ _ _ _⟩;have k0:=(Kp.refl w.heap.size TSw w).alloc (.cells #[.pointer none,.slice none 0 0] 156);have t0:=ht.kept k0 ht.lt;have hr0:=qKG hr k0;obtain⟨la,lm,lc,rfl⟩:∃la lm lc,lv=.slice la lm lc:=hr.shapeW;have hg:=ht.lt;go_enter func51,ntmps51
 go_wp2_with fail
 refine(qOC n w.heap.size w.heap.size [] _ l _ hS (Nat.le_refl _) t0 hg hr0 hwf (by simpa using hs)).mono ?_;rintro e w1⟨rfl,h1,k1⟩;rw[List.nil_append]at h1;go_wp2_with fail
 refine(qRu w.heap.size w.heap.size (qAR n l) _ h1 h0 hs).mono ?_;rintro e w2⟨rfl,k2⟩;go_wp2
 go_ret
 exact⟨rfl,((k0.trans k1).trans k2).below (Nat.le_refl _)⟩
theorem qLy(n sb:Nat)(lv:Value)(l:qAg)(w:World)(hb:w.heap[sb]? = some (.cells #[lv] 96 (0,0)))(ht:Tb w)(hr:RepL qAi (fun _=>True) w n lv l)(hwf:wfL n l)(hs:(qAR n l).length<=1000000)(h0:qAR n l≠[]) :
  Calls prog 18 #[.pointer (some ⟨sb,0,none⟩)] w fun e w'=>e=.returned (.string (bytesOf (qAR n l)))/\Below w.heap.size w w':=by
 have c0:w.cell? ⟨sb,0,none⟩=some lv:=by simp[World.cell?,hb]
 go_enter func18,ntmps18
 go_wp2_with fail
 refine(swrite_any n lv l _ ht hr hwf hs h0).mono ?_;rintro e w1⟨rfl,h1⟩;go_wp2
 go_ret
 exact⟨rfl,h1⟩
