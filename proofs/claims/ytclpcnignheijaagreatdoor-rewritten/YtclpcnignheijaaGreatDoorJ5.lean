/-
  Parts of the proof: J5.
-/
import Derived.Test.YtclpcnignheijaaGreatDoorQ24
import Derived.Test.YtclpcnignheijaaGreatDoorQ25
set_option maxHeartbeats 4000000
set_option maxRecDepth 100000
namespace Go.Proofs.YtclpcnignheijaaGreatDoor.Num
open Go.RowKit Go.Proofs.Tryz
theorem qQh(n:Nat)(t:NthQ)(w:World)(hn:n<=5000)(ha:-100<t.a/\t.a<100)(hb:-100<t.b/\t.b<100) :
  Calls prog 202 #[.int .i64 (n:Int),qVV t] w fun e w'=>e=.returned (.bool (qHZ n t))/\Below w.heap.size w w':=by
 obtain⟨tw,th,ta,tb⟩:=t;dsimp only at ha hb;unfold qVV;dsimp only;have hB:=(Below.refl w.heap.size w).alloc (Nat.le_refl _) (.cells #[.string tw,.bool th,.int .i64 ta,.int .i64 tb] 261);by_cases h0:ta=0
 ·have HE:Hid (qHZ n ⟨tw,th,ta,tb⟩=decide ((n:Int)-tb=0)):=by unfold qHZ;dsimp only;rw[if_pos h0];rfl
  subst h0;go_enter func202,ntmps202
  go_wp2
  go_ret
  rw[HE.out];exact⟨rfl,hB⟩
 ·have HE:Hid (qHZ n ⟨tw,th,ta,tb⟩=(decide (((n:Int)-tb).tmod ta=0)&&decide (0<=((n:Int)-tb).tdiv ta))):=by unfold qHZ;dsimp only;rw[if_neg h0];rfl
  have h1:(ta==0)=false:=by simp[h0]
  have hq:-9223372036854775808<=((n:Int)-tb).tdiv ta/\((n:Int)-tb).tdiv ta<=9223372036854775807:=by
   have e1:(((n:Int)-tb).tdiv ta).natAbs=((n:Int)-tb).natAbs/ta.natAbs:=Int.natAbs_tdiv _ _;have e2:=Nat.div_le_self ((n:Int)-tb).natAbs ta.natAbs
   revert e1 e2
   generalize ((n:Int)-tb).tdiv ta=q;generalize ((n:Int)-tb).natAbs/ta.natAbs=d;intro e1 e2;omega
  have hw:wrap64 (((n:Int)-tb).tdiv ta)=((n:Int)-tb).tdiv ta:=by
   revert hq
   generalize ((n:Int)-tb).tdiv ta=q;intro hq;unfold wrap64;omega
  by_cases hm:((n:Int)-tb).tmod ta=0
  ·have HM:=qAF hm;go_enter func202,ntmps202
   go_wp2
   go_ret
   rw[HE.out,HM.out];exact⟨rfl,hB⟩
  ·have HM:Hid (decide (((n:Int)-tb).tmod ta=0)=false):=qAF (by simp[hm]);go_enter func202,ntmps202
   go_wp2
   go_ret
   rw[HE.out,HM.out];exact⟨rfl,hB⟩
def GlF(w:World):Prop:=(∃t fr,w.heap[2]? = some (.cells (Lib.asciiSpaceTab.map fun z=>Value.int .u8 z).toArray t fr))/\∃m,w.cell? ⟨3,0,none⟩=some (.int .i64 m)
theorem Tryz.named_asciiSpace : prog.globalNamed "strings.asciiSpace" = some 2 := by kernel_rfl
theorem GlF.tab {w : World} (h : GlF w) : Lib.TabIs prog w "strings.asciiSpace" .u8 Lib.asciiSpaceTab := by
 obtain⟨⟨t,fr,h⟩,-⟩:=h;show World.var? _ _ _=_;unfold World.var?;rw[Tryz.named_asciiSpace];simp only[Option.bind_some,h]
theorem GlF.old{u w:World}(h:GlF u)(k:Old u w):GlF w:=by
 obtain⟨⟨t,fr,h1⟩,m,h2⟩:=h;exact⟨⟨t,fr,by rw[k.block _ (lt_of_block h1)];exact h1⟩,m,k.cells _ _ h2⟩
theorem qQB:∀(b:Bool)(l:List UInt8),Lib.cntF b l<=l.length
 |_,[]=>Nat.le_refl _
 |b,x::l=>by
  have:=qQB (Lib.isSp x) l;unfold Lib.cntF;simp only[List.length_cons];split<;>omega
theorem qHx(v x:ByteArray)(w:World)(hg:GlF w)(hs:v.size<=5000)(ha:∀(j:Nat) b,v.data.toList[j]? = some b->b.toNat<128) :
  Calls prog 197 #[.string v,.string x] w fun e w'=>e=.returned (.bool (qDg v x))/\Below w.heap.size w w':=by
 have hlen:(Lib.fields v.data.toList).length<=9223372036854775807:=by
  have h1:=qQB true v.data.toList;have h2:v.data.toList.length=v.size:=by rw[Array.length_toList];rfl
  rw[Lib.fields_length];omega
 have hB:=(Below.refl w.heap.size w).alloc (Nat.le_refl _) (.cells ((Lib.fields v.data.toList).map fun l=>Value.string ⟨l.toArray⟩).toArray 9);have al:=qAE w (.cells ((Lib.fields v.data.toList).map fun l=>Value.string ⟨l.toArray⟩).toArray 9);have HE:Hid (qDg v x=Lib.containsS (((Lib.fields v.data.toList).map fun l=>(⟨l.toArray⟩:ByteArray)).take (Lib.fields v.data.toList).length) x):=by
  unfold qDg;rw[List.take_of_length_le (by simp)];rfl
 go_enter func197,ntmps197
 go_wp2_with fail
 refine(Tryz.strings_Fields v _ (by omega) ha hg.tab).mono ?_;rintro e w1⟨rfl,rfl⟩;go_wp2_with fail
 refine(Tryz.slices_Contains_string w.heap.size 0 _ _ ((Lib.fields v.data.toList).map fun l=>(⟨l.toArray⟩:ByteArray)) x _ (by simp) hlen ?_).mono ?_
 ·intro j hj;rw[Nat.zero_add];generalize Lib.fields v.data.toList=fl at *;have hj':j<fl.length:=by simpa using hj
  unfold World.cell?;dsimp only;rw[al];simp[hj',List.getD]
 rintro e w2⟨rfl,rfl⟩;go_wp2
 go_ret
 rw[HE.out];exact⟨rfl,hB⟩
theorem qGx(any:Bool)(v:ByteArray):(qCl any v).size=v.size:=by
 unfold qCl;split
 ·show(qBV v.data.toList).toArray.size=v.data.size;simp[qBV]
 ·rfl
theorem qKR(any:Bool)(v:ByteArray)(ha:∀(j:Nat) b,v.data.toList[j]? = some b->b.toNat<128):∀(j:Nat) b,(qCl any v).data.toList[j]? = some b->b.toNat<128:=by
 unfold qCl;split
 ·intro j b h;have h':(qBV v.data.toList)[j]? = some b:=h;unfold qBV at h';rw[List.getElem?_map]at h';obtain⟨c,hc,rfl⟩:=Option.map_eq_some_iff.1 h';have:=ha j c hc;have h32:UInt8.toNat 32=32:=rfl;unfold qCS;split
  ·rw[UInt8.toNat_add,h32];omega
  ·exact this
 ·exact ha
theorem qA7(t y:ByteArray)(w:World)(ht:t.size<=140737488351232)(hy:Hid (y=⟨(qBV t.data.toList).toArray⟩)) :
  Calls prog 56 #[.string t] w fun e w'=>e=.returned (.string y)/\Below w.heap.size w w':=by
 rw[hy.out];exact qIQ t w ht
theorem qVa{op y x:ByteArray}(h:(op.toList==[61])=true):qEt op y x=(y.toList==x.toList):=by unfold qEt;rw[if_pos h]
theorem qVb{op y x:ByteArray}(h1:(op.toList==[61])=false)(h:(op.toList==[126,61])=true):qEt op y x=qDg y x:=by unfold qEt;rw[h1,if_neg (by simp),if_pos h]
theorem qVc{op y x:ByteArray}(h1:(op.toList==[61])=false)(h2:(op.toList==[126,61])=false)(h:(op.toList==[124,61])=true):qEt op y x=((y.toList==x.toList)||Lib.hasPrefix y.data.toList (x++(⟨#[45]⟩:ByteArray)).data.toList):=by unfold qEt;rw[h1,h2,if_neg (by simp),if_neg (by simp),if_pos h]
theorem qVd{op y x:ByteArray}(h1:(op.toList==[61])=false)(h2:(op.toList==[126,61])=false)(h3:(op.toList==[124,61])=false)(h:(op.toList==[94,61])=true):qEt op y x=(!x.toList.isEmpty&&Lib.hasPrefix y.data.toList x.data.toList):=by unfold qEt;rw[h1,h2,h3,if_neg (by simp),if_neg (by simp),if_neg (by simp),if_pos h]
theorem qVe{op y x:ByteArray}(h1:(op.toList==[61])=false)(h2:(op.toList==[126,61])=false)(h3:(op.toList==[124,61])=false)(h4:(op.toList==[94,61])=false)(h:(op.toList==[36,61])=true):qEt op y x=(!x.toList.isEmpty&&Lib.hasSuffix y.data.toList x.data.toList):=by unfold qEt;rw[h1,h2,h3,h4,if_neg (by simp),if_neg (by simp),if_neg (by simp),if_neg (by simp),if_pos h]
theorem qVf{op y x:ByteArray}(h1:(op.toList==[61])=false)(h2:(op.toList==[126,61])=false)(h3:(op.toList==[124,61])=false)(h4:(op.toList==[94,61])=false)(h5:(op.toList==[36,61])=false)(h:(op.toList==[42,61])=true):qEt op y x=(!x.toList.isEmpty&&Lib.contains y.data.toList x.data.toList):=by unfold qEt;rw[h1,h2,h3,h4,h5,if_neg (by simp),if_neg (by simp),if_neg (by simp),if_neg (by simp),if_neg (by simp),if_pos h]
theorem qVg{op y x:ByteArray}(h1:(op.toList==[61])=false)(h2:(op.toList==[126,61])=false)(h3:(op.toList==[124,61])=false)(h4:(op.toList==[94,61])=false)(h5:(op.toList==[36,61])=false)(h6:(op.toList==[42,61])=false):qEt op y x=true:=by unfold qEt;rw[h1,h2,h3,h4,h5,h6];simp
theorem qQi(v:ByteArray)(a:AttrQ)(w:World)(hg:GlF w)(hs:v.size<=5000)(hv:a.val.size<=2000)(ha:∀(j:Nat) b,v.data.toList[j]? = some b->b.toNat<128) :
  Calls prog 198 #[.string v,qSP a] w fun e w'=>e=.returned (.bool (qHN v a))/\Below w.heap.size w w':=by
 obtain⟨an,op,x,any⟩:=a;dsimp only at hv;unfold qSP;dsimp only;have hB:=(Below.refl w.heap.size w).alloc (Nat.le_refl _) (.cells #[.string an,.string op,.string x,.bool any] 259);have al:=qAE w (.cells #[.string an,.string op,.string x,.bool any] 259);have HE:Hid (qHN v ⟨an,op,x,any⟩=qEt op (qCl any v) (qCl any x)):=rfl;have hys:=qGx any v;have hxs:=qGx any x;have hya:=qKR any v ha;rw[HE.out];cases any with
 | false =>
  rw[show qCl false v=v from rfl,show qCl false x=x from rfl]at *;clear hys hxs hya;cases e1:(op.toList==[61])with
  |true =>
   have HR:=qAF (qVa (y:=v) (x:=x) e1);go_enter func198,ntmps198
   have hB2:=hB;have hgb:=hg.old ((Old.refl w).below hB (Nat.le_refl _));go_wp2
   go_ret
   rw[HR.out];exact⟨rfl,hB2⟩
  |false =>
  cases e2:(op.toList==[126,61])with
  |true =>
   have HR:=qAF (qVb (y:=v) (x:=x) e1 e2);go_enter func198,ntmps198
   have hB2:=hB;have hgb:=hg.old ((Old.refl w).below hB (Nat.le_refl _));go_wp2_with fail
   refine(qHx v x _ hgb (by exact hs) ha).mono ?_;rintro e w1⟨rfl,hb1⟩;go_wp2
   go_ret
   rw[HR.out];exact⟨rfl,hB2.trans (hb1.mono hB2.size)⟩
  |false =>
  cases e3:(op.toList==[124,61])with
  | true =>
   have HR:=qAF (qVc (y:=v) (x:=x) e1 e2 e3);cases eq:((v:ByteArray).toList==(x:ByteArray).toList)with
   |true =>
    have HR2:Hid (qEt op v x=true):=qAF (HR.out.trans (by rw[eq];rfl));go_enter func198,ntmps198
    have hB2:=hB;have hgb:=hg.old ((Old.refl w).below hB (Nat.le_refl _));go_wp2
    go_ret
    rw[HR2.out];exact⟨rfl,hB2⟩
   |false =>
    have HR2:Hid (qEt op v x=Lib.hasPrefix (v:ByteArray).data.toList ((x:ByteArray)++(⟨#[45]⟩:ByteArray)).data.toList):=qAF (HR.out.trans (by rw[eq];simp));go_enter func198,ntmps198
    have hB2:=hB;have hgb:=hg.old ((Old.refl w).below hB (Nat.le_refl _));go_wp2_with fail
    refine(Tryz.strings_HasPrefix _ _ _).mono ?_;rintro e w1⟨rfl,rfl⟩;go_wp2
    go_ret
    rw[HR2.out];exact⟨rfl,hB2⟩
  |false =>
  cases e4:(op.toList==[94,61])with
  | true =>
   have HR:=qAF (qVd (y:=v) (x:=x) e1 e2 e3 e4);cases eq:((x:ByteArray).toList.isEmpty)with
   |true =>
    have HR2:Hid (qEt op v x=false):=qAF (HR.out.trans (by rw[eq];rfl));go_enter func198,ntmps198
    have hB2:=hB;have hgb:=hg.old ((Old.refl w).below hB (Nat.le_refl _));go_wp2
    go_ret
    rw[HR2.out];exact⟨rfl,hB2⟩
   |false =>
    have HR2:Hid (qEt op v x=Lib.hasPrefix (v:ByteArray).data.toList (x:ByteArray).data.toList):=qAF (HR.out.trans (by rw[eq];simp));go_enter func198,ntmps198
    have hB2:=hB;have hgb:=hg.old ((Old.refl w).below hB (Nat.le_refl _));go_wp2_with fail
    refine(Tryz.strings_HasPrefix _ _ _).mono ?_;rintro e w1⟨rfl,rfl⟩;go_wp2
    go_ret
    rw[HR2.out];exact⟨rfl,hB2⟩
  |false =>
  cases e5:(op.toList==[36,61])with
  | true =>
   have HR:=qAF (qVe (y:=v) (x:=x) e1 e2 e3 e4 e5);cases eq:((x:ByteArray).toList.isEmpty)with
   |true =>
    have HR2:Hid (qEt op v x=false):=qAF (HR.out.trans (by rw[eq];rfl));go_enter func198,ntmps198
    have hB2:=hB;have hgb:=hg.old ((Old.refl w).below hB (Nat.le_refl _));go_wp2
    go_ret
    rw[HR2.out];exact⟨rfl,hB2⟩
   |false =>
    have HR2:Hid (qEt op v x=Lib.hasSuffix (v:ByteArray).data.toList (x:ByteArray).data.toList):=qAF (HR.out.trans (by rw[eq];simp));go_enter func198,ntmps198
    have hB2:=hB;have hgb:=hg.old ((Old.refl w).below hB (Nat.le_refl _));go_wp2_with fail
    refine(Tryz.strings_HasSuffix _ _ _ (by omega)).mono ?_;rintro e w1⟨rfl,rfl⟩;go_wp2
    go_ret
    rw[HR2.out];exact⟨rfl,hB2⟩
  |false =>
  cases e6:(op.toList==[42,61])with
  | true =>
   have HR:=qAF (qVf (y:=v) (x:=x) e1 e2 e3 e4 e5 e6);cases eq:((x:ByteArray).toList.isEmpty)with
   |true =>
    have HR2:Hid (qEt op v x=false):=qAF (HR.out.trans (by rw[eq];rfl));go_enter func198,ntmps198
    have hB2:=hB;have hgb:=hg.old ((Old.refl w).below hB (Nat.le_refl _));go_wp2
    go_ret
    rw[HR2.out];exact⟨rfl,hB2⟩
   |false =>
    have HR2:Hid (qEt op v x=Lib.contains (v:ByteArray).data.toList (x:ByteArray).data.toList):=qAF (HR.out.trans (by rw[eq];simp));go_enter func198,ntmps198
    have hB2:=hB;have hgb:=hg.old ((Old.refl w).below hB (Nat.le_refl _));go_wp2_with fail
    refine(Tryz.strings_Contains _ _ _ _ (by omega) hgb.2.choose_spec).mono ?_;rintro e w1⟨rfl,rfl⟩;go_wp2
    go_ret
    rw[HR2.out];exact⟨rfl,hB2⟩
  |false =>
  have HR:=qAF (qVg (y:=v) (x:=x) e1 e2 e3 e4 e5 e6);go_enter func198,ntmps198
  have hB2:=hB;have hgb:=hg.old ((Old.refl w).below hB (Nat.le_refl _));go_wp2
  go_ret
  rw[HR.out];exact⟨rfl,hB2⟩
 | true =>
  obtain⟨y,HY⟩:∃y:ByteArray,Hid (y=⟨(qBV v.data.toList).toArray⟩):=⟨_,rfl⟩;obtain⟨z,HZ⟩:∃y:ByteArray,Hid (y=⟨(qBV x.data.toList).toArray⟩):=⟨_,rfl⟩;rw[show qCl true v=y from HY.out.symm,show qCl true x=z from HZ.out.symm]at *;cases e1:(op.toList==[61])with
  | true =>
   have HR:=qAF (qVa (y:=y) (x:=z) e1);go_enter func198,ntmps198
   go_wp2_with fail
   refine(qA7 v y _ (by omega) HY).mono ?_;rintro e wa⟨rfl,hba⟩;go_wp2_with fail
   refine(qA7 x z _ (by omega) HZ).mono ?_;rintro e wb⟨rfl,hbb⟩;have hB2:Below w.heap.size w wb:=(hB.trans (hba.mono (by simp))).trans (hbb.mono (by have:=hba.size;simp at this;omega));have al2:wb.heap[w.heap.size]? = some (.cells #[.string an,.string op,.string x,.bool true] 259 (0,0)):=by
    rw[hbb.block _ (by have:=hba.size;simp at this;omega),hba.block _ (by simp)];exact al
   have k0:=qAk al2;obtain⟨⟨k0,k1,k2,k3⟩,-⟩:=k0;have hgb:=hg.old ((Old.refl w).below hB2 (Nat.le_refl _));go_wp2
   go_ret
   rw[HR.out];exact⟨rfl,hB2⟩
  |false =>
  cases e2:(op.toList==[126,61])with
  | true =>
   have HR:=qAF (qVb (y:=y) (x:=z) e1 e2);go_enter func198,ntmps198
   go_wp2_with fail
   refine(qA7 v y _ (by omega) HY).mono ?_;rintro e wa⟨rfl,hba⟩;go_wp2_with fail
   refine(qA7 x z _ (by omega) HZ).mono ?_;rintro e wb⟨rfl,hbb⟩;have hB2:Below w.heap.size w wb:=(hB.trans (hba.mono (by simp))).trans (hbb.mono (by have:=hba.size;simp at this;omega));have al2:wb.heap[w.heap.size]? = some (.cells #[.string an,.string op,.string x,.bool true] 259 (0,0)):=by
    rw[hbb.block _ (by have:=hba.size;simp at this;omega),hba.block _ (by simp)];exact al
   have k0:=qAk al2;obtain⟨⟨k0,k1,k2,k3⟩,-⟩:=k0;have hgb:=hg.old ((Old.refl w).below hB2 (Nat.le_refl _));go_wp2_with fail
   refine(qHx y z _ hgb (by exact hys▸hs) hya).mono ?_;rintro e w1⟨rfl,hb1⟩;go_wp2
   go_ret
   rw[HR.out];exact⟨rfl,hB2.trans (hb1.mono hB2.size)⟩
  |false =>
  cases e3:(op.toList==[124,61])with
  | true =>
   have HR:=qAF (qVc (y:=y) (x:=z) e1 e2 e3);cases eq:((y:ByteArray).toList==(z:ByteArray).toList)with
   | true =>
    have HR2:Hid (qEt op y z=true):=qAF (HR.out.trans (by rw[eq];rfl));go_enter func198,ntmps198
    go_wp2_with fail
    refine(qA7 v y _ (by omega) HY).mono ?_;rintro e wa⟨rfl,hba⟩;go_wp2_with fail
    refine(qA7 x z _ (by omega) HZ).mono ?_;rintro e wb⟨rfl,hbb⟩;have hB2:Below w.heap.size w wb:=(hB.trans (hba.mono (by simp))).trans (hbb.mono (by have:=hba.size;simp at this;omega));have al2:wb.heap[w.heap.size]? = some (.cells #[.string an,.string op,.string x,.bool true] 259 (0,0)):=by
     rw[hbb.block _ (by have:=hba.size;simp at this;omega),hba.block _ (by simp)];exact al
    have k0:=qAk al2;obtain⟨⟨k0,k1,k2,k3⟩,-⟩:=k0;have hgb:=hg.old ((Old.refl w).below hB2 (Nat.le_refl _));go_wp2
    go_ret
    rw[HR2.out];exact⟨rfl,hB2⟩
   | false =>
    have HR2:Hid (qEt op y z=Lib.hasPrefix (y:ByteArray).data.toList ((z:ByteArray)++(⟨#[45]⟩:ByteArray)).data.toList):=qAF (HR.out.trans (by rw[eq];simp));go_enter func198,ntmps198
    go_wp2_with fail
    refine(qA7 v y _ (by omega) HY).mono ?_;rintro e wa⟨rfl,hba⟩;go_wp2_with fail
    refine(qA7 x z _ (by omega) HZ).mono ?_;rintro e wb⟨rfl,hbb⟩;have hB2:Below w.heap.size w wb:=(hB.trans (hba.mono (by simp))).trans (hbb.mono (by have:=hba.size;simp at this;omega));have al2:wb.heap[w.heap.size]? = some (.cells #[.string an,.string op,.string x,.bool true] 259 (0,0)):=by
     rw[hbb.block _ (by have:=hba.size;simp at this;omega),hba.block _ (by simp)];exact al
    have k0:=qAk al2;obtain⟨⟨k0,k1,k2,k3⟩,-⟩:=k0;have hgb:=hg.old ((Old.refl w).below hB2 (Nat.le_refl _));go_wp2_with fail
    refine(Tryz.strings_HasPrefix _ _ _).mono ?_;rintro e w1⟨rfl,rfl⟩;go_wp2
    go_ret
    rw[HR2.out];exact⟨rfl,hB2⟩
  |false =>
  cases e4:(op.toList==[94,61])with
  | true =>
   have HR:=qAF (qVd (y:=y) (x:=z) e1 e2 e3 e4);cases eq:((z:ByteArray).toList.isEmpty)with
   | true =>
    have HR2:Hid (qEt op y z=false):=qAF (HR.out.trans (by rw[eq];rfl));go_enter func198,ntmps198
    go_wp2_with fail
    refine(qA7 v y _ (by omega) HY).mono ?_;rintro e wa⟨rfl,hba⟩;go_wp2_with fail
    refine(qA7 x z _ (by omega) HZ).mono ?_;rintro e wb⟨rfl,hbb⟩;have hB2:Below w.heap.size w wb:=(hB.trans (hba.mono (by simp))).trans (hbb.mono (by have:=hba.size;simp at this;omega));have al2:wb.heap[w.heap.size]? = some (.cells #[.string an,.string op,.string x,.bool true] 259 (0,0)):=by
     rw[hbb.block _ (by have:=hba.size;simp at this;omega),hba.block _ (by simp)];exact al
    have k0:=qAk al2;obtain⟨⟨k0,k1,k2,k3⟩,-⟩:=k0;have hgb:=hg.old ((Old.refl w).below hB2 (Nat.le_refl _));go_wp2
    go_ret
    rw[HR2.out];exact⟨rfl,hB2⟩
   | false =>
    have HR2:Hid (qEt op y z=Lib.hasPrefix (y:ByteArray).data.toList (z:ByteArray).data.toList):=qAF (HR.out.trans (by rw[eq];simp));go_enter func198,ntmps198
    go_wp2_with fail
    refine(qA7 v y _ (by omega) HY).mono ?_;rintro e wa⟨rfl,hba⟩;go_wp2_with fail
    refine(qA7 x z _ (by omega) HZ).mono ?_;rintro e wb⟨rfl,hbb⟩;have hB2:Below w.heap.size w wb:=(hB.trans (hba.mono (by simp))).trans (hbb.mono (by have:=hba.size;simp at this;omega));have al2:wb.heap[w.heap.size]? = some (.cells #[.string an,.string op,.string x,.bool true] 259 (0,0)):=by
     rw[hbb.block _ (by have:=hba.size;simp at this;omega),hba.block _ (by simp)];exact al
    have k0:=qAk al2;obtain⟨⟨k0,k1,k2,k3⟩,-⟩:=k0;have hgb:=hg.old ((Old.refl w).below hB2 (Nat.le_refl _));go_wp2_with fail
    refine(Tryz.strings_HasPrefix _ _ _).mono ?_;rintro e w1⟨rfl,rfl⟩;go_wp2
    go_ret
    rw[HR2.out];exact⟨rfl,hB2⟩
  |false =>
  cases e5:(op.toList==[36,61])with
  | true =>
   have HR:=qAF (qVe (y:=y) (x:=z) e1 e2 e3 e4 e5);cases eq:((z:ByteArray).toList.isEmpty)with
   | true =>
    have HR2:Hid (qEt op y z=false):=qAF (HR.out.trans (by rw[eq];rfl));go_enter func198,ntmps198
    go_wp2_with fail
    refine(qA7 v y _ (by omega) HY).mono ?_;rintro e wa⟨rfl,hba⟩;go_wp2_with fail
    refine(qA7 x z _ (by omega) HZ).mono ?_;rintro e wb⟨rfl,hbb⟩;have hB2:Below w.heap.size w wb:=(hB.trans (hba.mono (by simp))).trans (hbb.mono (by have:=hba.size;simp at this;omega));have al2:wb.heap[w.heap.size]? = some (.cells #[.string an,.string op,.string x,.bool true] 259 (0,0)):=by
     rw[hbb.block _ (by have:=hba.size;simp at this;omega),hba.block _ (by simp)];exact al
    have k0:=qAk al2;obtain⟨⟨k0,k1,k2,k3⟩,-⟩:=k0;have hgb:=hg.old ((Old.refl w).below hB2 (Nat.le_refl _));go_wp2
    go_ret
    rw[HR2.out];exact⟨rfl,hB2⟩
   | false =>
    have HR2:Hid (qEt op y z=Lib.hasSuffix (y:ByteArray).data.toList (z:ByteArray).data.toList):=qAF (HR.out.trans (by rw[eq];simp));go_enter func198,ntmps198
    go_wp2_with fail
    refine(qA7 v y _ (by omega) HY).mono ?_;rintro e wa⟨rfl,hba⟩;go_wp2_with fail
    refine(qA7 x z _ (by omega) HZ).mono ?_;rintro e wb⟨rfl,hbb⟩;have hB2:Below w.heap.size w wb:=(hB.trans (hba.mono (by simp))).trans (hbb.mono (by have:=hba.size;simp at this;omega));have al2:wb.heap[w.heap.size]? = some (.cells #[.string an,.string op,.string x,.bool true] 259 (0,0)):=by
     rw[hbb.block _ (by have:=hba.size;simp at this;omega),hba.block _ (by simp)];exact al
    have k0:=qAk al2;obtain⟨⟨k0,k1,k2,k3⟩,-⟩:=k0;have hgb:=hg.old ((Old.refl w).below hB2 (Nat.le_refl _));go_wp2_with fail
    refine(Tryz.strings_HasSuffix _ _ _ (by omega)).mono ?_;rintro e w1⟨rfl,rfl⟩;go_wp2
    go_ret
    rw[HR2.out];exact⟨rfl,hB2⟩
  |false =>
  cases e6:(op.toList==[42,61])with
  | true =>
   have HR:=qAF (qVf (y:=y) (x:=z) e1 e2 e3 e4 e5 e6);cases eq:((z:ByteArray).toList.isEmpty)with
   | true =>
    have HR2:Hid (qEt op y z=false):=qAF (HR.out.trans (by rw[eq];rfl));go_enter func198,ntmps198
    go_wp2_with fail
    refine(qA7 v y _ (by omega) HY).mono ?_;rintro e wa⟨rfl,hba⟩;go_wp2_with fail
    refine(qA7 x z _ (by omega) HZ).mono ?_;rintro e wb⟨rfl,hbb⟩;have hB2:Below w.heap.size w wb:=(hB.trans (hba.mono (by simp))).trans (hbb.mono (by have:=hba.size;simp at this;omega));have al2:wb.heap[w.heap.size]? = some (.cells #[.string an,.string op,.string x,.bool true] 259 (0,0)):=by
     rw[hbb.block _ (by have:=hba.size;simp at this;omega),hba.block _ (by simp)];exact al
    have k0:=qAk al2;obtain⟨⟨k0,k1,k2,k3⟩,-⟩:=k0;have hgb:=hg.old ((Old.refl w).below hB2 (Nat.le_refl _));go_wp2
    go_ret
    rw[HR2.out];exact⟨rfl,hB2⟩
   | false =>
    have HR2:Hid (qEt op y z=Lib.contains (y:ByteArray).data.toList (z:ByteArray).data.toList):=qAF (HR.out.trans (by rw[eq];simp));go_enter func198,ntmps198
    go_wp2_with fail
    refine(qA7 v y _ (by omega) HY).mono ?_;rintro e wa⟨rfl,hba⟩;go_wp2_with fail
    refine(qA7 x z _ (by omega) HZ).mono ?_;rintro e wb⟨rfl,hbb⟩;have hB2:Below w.heap.size w wb:=(hB.trans (hba.mono (by simp))).trans (hbb.mono (by have:=hba.size;simp at this;omega));have al2:wb.heap[w.heap.size]? = some (.cells #[.string an,.string op,.string x,.bool true] 259 (0,0)):=by
     rw[hbb.block _ (by have:=hba.size;simp at this;omega),hba.block _ (by simp)];exact al
    have k0:=qAk al2;obtain⟨⟨k0,k1,k2,k3⟩,-⟩:=k0;have hgb:=hg.old ((Old.refl w).below hB2 (Nat.le_refl _));go_wp2_with fail
    refine(Tryz.strings_Contains _ _ _ _ (by omega) hgb.2.choose_spec).mono ?_;rintro e w1⟨rfl,rfl⟩;go_wp2
    go_ret
    rw[HR2.out];exact⟨rfl,hB2⟩
  |false =>
  have HR:=qAF (qVg (y:=y) (x:=z) e1 e2 e3 e4 e5 e6);go_enter func198,ntmps198
  go_wp2_with fail
  refine(qA7 v y _ (by omega) HY).mono ?_;rintro e wa⟨rfl,hba⟩;go_wp2_with fail
  refine(qA7 x z _ (by omega) HZ).mono ?_;rintro e wb⟨rfl,hbb⟩;have hB2:Below w.heap.size w wb:=(hB.trans (hba.mono (by simp))).trans (hbb.mono (by have:=hba.size;simp at this;omega));have al2:wb.heap[w.heap.size]? = some (.cells #[.string an,.string op,.string x,.bool true] 259 (0,0)):=by
   rw[hbb.block _ (by have:=hba.size;simp at this;omega),hba.block _ (by simp)];exact al
  have k0:=qAk al2;obtain⟨⟨k0,k1,k2,k3⟩,-⟩:=k0;have hgb:=hg.old ((Old.refl w).below hB2 (Nat.le_refl _));go_wp2
  go_ret
  rw[HR.out];exact⟨rfl,hB2⟩
