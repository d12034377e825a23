/-
  Parts of the proof: C3, D1, D2, D3, D4, D5, D6.
-/
import Derived.Test.YtclpcnignheijaaGreatDoorC2
import Derived.Stop.Asserts
set_option maxHeartbeats 4000000
set_option maxRecDepth 100000
namespace Go.Proofs.YtclpcnignheijaaGreatDoor
open Go.RowKit Go.Proofs.Tryz
theorem qJg(B bb:Nat)(b:BS)(k:Nat)(x:El)(w:World)(h:Bd w B bb b)(hB:B<=bb)(ho:b.opn=(k:Int))(hx:b.els[k]? = some x)(hs:b.els.length<=5000)(hd:-5000<=b.dep/\b.dep<=b.els.length) :
  Calls prog 191 #[.pointer (some ⟨bb,0,none⟩)] w fun e w'=>e=.returned (.tuple #[])/\Bd w' B bb b.fin/\Kp B TB w w':=by
 obtain⟨ve,vt,avs,a1,a2,a3,a4,a5⟩:=h;have hlt:k<b.els.length:=(List.getElem?_eq_some_iff.1 hx).1;have hfin:b.fin={ els:=b.els.set k { x with hi:=(b.txt.length:Int) },txt:=b.txt,opn:=x.parent,dep:=b.dep-1 }:=by
  unfold BS.fin;rw[ho,Int.toNat_natCast,hx];dsimp only;rw[if_neg (by omega)]
 rw[ho]at a1;obtain⟨c0,c1,c2,c3⟩:=qIb a1;obtain⟨g,cap,hv,hBg,hgs⟩:=qHU a3 (by omega);subst hv;obtain⟨aot,cpt,hvt⟩:=qBA a4;subst hvt;have hav:avs[k]? = some (avs[k]'(by omega)):=List.getElem?_eq_getElem (by omega);obtain⟨e0,e1,e2,e3,e4⟩:=qCr b.els avs k x _ hx hav;have d1:w.cell? ⟨g,k*5+1,none⟩=some (.int .i64 x.parent):=by rw[a3.cellAt _ (by omega),e1]
 have d4:w.cell? ⟨g,k*5+4,none⟩=some (.int .i64 x.hi):=by rw[a3.cellAt _ (by omega),e4]
 have f4:=a3.frozenAt (k*5+4);have f2:=qAd (o:=2) a1;have f3:=qAd (o:=3) a1;have A3:=qAF a3;obtain⟨_,h2⟩:=a3;have hgb:∃cur,w.heap[g]? = some (.cells cur 139 (0,0)):=by
  rcases h2 with⟨h3,_⟩|⟨g',cap',cur,h3,_,h4,_⟩
  ·cases h3
  ·cases h3;exact⟨cur,h4⟩
 obtain⟨cur,hcur⟩:=hgb;have hne:bb≠g:=qFW a1 hcur (by decide);have hne':g≠bb:=fun e=>hne e.symm;have HFIN:=qAF hfin;have A1:=qAF a1;have A2:=qAF a2;have A4:=qAF a4;have A5:=qAF a5;have HX:=qAF hx;have HC:=qAF hcur;clear e0 e1 e2 e3 e4 hav a1 a2 a4 a5 hx hfin ho h2 hcur;have ho':(((k:Nat):Int) == -1)=false:=by simp
 go_enter func191,ntmps191
 go_wp2
 go_region_held3 (fun wx=>wx.cell? ⟨bb,0,none⟩=some (.slice (some ⟨g,0,none⟩) b.els.length cap)/\wx.cell? ⟨bb,1,none⟩=some (.slice aot b.txt.length cpt)/\wx.cell? ⟨bb,2,none⟩=some (.int .i64 k)) (simp[go_sem, *]) (fail)
 go_wp2
 go_region
 all_goals go_wp2
 all_goals go_end0
 all_goals
  have W1:Kp B TB w (w.setCell ⟨g,k*5+4,none⟩ (.int .i64 (b.txt.length:Int))):=(Kp.refl _ _ _).setCell (p:=⟨g,k*5+4,none⟩) HC.out (by decide) hBg _;have K1:Kp 0 [139] w (w.setCell ⟨g,k*5+4,none⟩ (.int .i64 (b.txt.length:Int))):=Kp.setAny (p:=⟨g,k*5+4,none⟩) HC.out _;have b1:=K1.at A1.out (by decide);have b2:=qLI (v:=.int .i64 x.parent) b1;have b3:=qLJ (v:=.int .i64 (b.dep-1)) b2;have W2:=(W1.setCell (p:=⟨bb,2,none⟩) b1 (by decide) hB (.int .i64 x.parent)).setCell (p:=⟨bb,3,none⟩) b2 (by decide) hB (.int .i64 (b.dep-1));have K2:=((Kp.refl 0 [212] _).setCell (p:=⟨bb,2,none⟩) b1 (by simp) (Nat.zero_le _) (.int .i64 x.parent)).setCell (p:=⟨bb,3,none⟩) b2 (by simp) (Nat.zero_le _) (.int .i64 (b.dep-1));refine⟨rfl,?_,W2.drew.drew⟩;rw[HFIN.out];refine⟨_,_,avs,b3,?_,?_,?_,?_⟩
  ·simp[A2.out]
  ·have o1:=K2.owns (A3.out.stored (k*5+4) (.int .i64 (b.txt.length:Int))).1 (by decide);rw[<-qHn b.els avs k x (b.txt.length:Int) HX.out A2.out]at o1;have o2:=(Kp.refl 0 [] _).drew.drew.owns o1 (by simp);simpa using o2
  ·exact K2.owns (K1.owns A4.out (by decide)) (by decide)
  ·intro i y a hy ha;refine K2.owns (K1.owns ?_ (by decide)) (by decide);by_cases e:i=k
   ·subst e;rw[List.getElem?_set_self hlt]at hy;cases hy;exact A5.out i x a HX.out ha
   ·rw[List.getElem?_set_ne (fun h=>e h.symm)]at hy;exact A5.out i y a hy ha
def Tr(w:World)(B tb:Nat)(b:BS):Prop :=
 ∃(ve:Value)(avs:List Value),w.heap[tb]? = some (.cells #[ve,.string ⟨b.txt.toArray⟩] 85 (0,0))/\avs.length=b.els.length /\
  w.ownsRow B 139 5 ve b.els.length (qBd b.els avs)/\∀(i:Nat)(x:El)(a:Value),b.els[i]? = some x->avs[i]? = some a->w.ownsRow B 169 2 a x.attrs.length (attrCells x.attrs)
theorem qP5(B bb:Nat)(b:BS)(w:World)(h:Bd w B bb b) :
  Calls prog 86 #[.pointer (some ⟨bb,0,none⟩)] w fun e w'=>∃tb,e=.returned (.pointer (some ⟨tb,0,none⟩))/\Tr w' B tb b/\w.heap.size<=tb/\Kp B [] w w':=by
 obtain⟨ve,vt,avs,a1,a2,a3,a4,a5⟩:=h;obtain⟨c0,c1,c2,c3⟩:=qIb a1;obtain⟨aoe,cpe,hve⟩:=qBA a3;subst hve;have hcv:∀n,(convert 50 9 vt).run prog (w.drewN n)=.ok (.string ⟨b.txt.toArray⟩) (w.drewN n):=fun n=>qJu a4;have hcv2:(convert 50 9 vt).run prog w.drew=.ok (.string ⟨b.txt.toArray⟩) w.drew:=hcv 1;clear hcv;have A1:=qAF a1;have A2:=qAF a2;have A3:=qAF a3;have A4:=qAF a4;have A5:=qAF a5;clear a1 a2 a3 a4 a5;go_enter func86,ntmps86
 go_wp2
 go_region
 all_goals go_wp2
 all_goals go_ret
 all_goals exact⟨_,rfl,⟨_,avs,qAE _ _,A2.out,A3.out.alloc _,fun i x a hx ha=>(A5.out i x a hx ha).alloc _⟩,Nat.le_refl _,((Kp.refl _ _ _).alloc _).drew⟩
def TP:List TypeId:=[210,212,139,5]
theorem kpR{B:Nat}{w w':World}(h:Kp B [210] w w'):Kp B TP w w':=h.mono (Nat.le_refl _) (by intro t ht;simp at ht;subst ht;decide)
theorem kpB{B:Nat}{w w':World}(h:Kp B TB w w'):Kp B TP w w':=h.mono (Nat.le_refl _) (by intro t ht;unfold TB at ht;unfold TP;simp at ht ⊢;rcases ht with h|h|h<;>simp[h])
theorem kp0{B:Nat}{w w':World}(h:Kp B [] w w'):Kp B TP w w':=h.mono (Nat.le_refl _) (by simp)
theorem Bd.keptR{B B' bb:Nat}{w w':World}{b:BS}(h:Bd w B bb b)(k:Kp B' [210] w w'):Bd w' B bb b:=h.kept k (by decide) (by decide) (by decide) (by decide)
theorem Bd.kept0{B B' bb:Nat}{w w':World}{b:BS}(h:Bd w B bb b)(k:Kp B' [] w w'):Bd w' B bb b:=h.kept k (by simp) (by simp) (by simp) (by simp)
theorem Rd.keptB{B rb:Nat}{s:ByteArray}{p:Nat}{w w':World}(h:Rd w rb s p)(k:Kp B TB w w'):Rd w' rb s p:=h.kept k (by decide)
structure BOk(b:BS)(p:Nat):Prop where
 opn:-1<=b.opn/\b.opn<b.els.length
 par:∀(i:Nat)(x:El),b.els[i]? = some x->-1<=x.parent/\x.parent<i/\x.name.size<=16
 dep:-(p:Int)<=b.dep/\b.dep<=b.els.length
 elen:b.els.length<=p
 tlen:b.txt.length<=p
theorem BOk.mono{b:BS}{p q:Nat}(h:BOk b p)(hq:p<=q):BOk b q:=⟨h.1,h.2,by have:=h.3;omega,by have:=h.4;omega,by have:=h.5;omega⟩
theorem BOk.at{b:BS}{p:Nat}(h:BOk b p)(ho:b.opn≠-1):∃(k:Nat)(x:El),b.opn=(k:Int)/\b.els[k]? = some x:=by
 have:=h.opn;refine⟨b.opn.toNat,b.els[b.opn.toNat]'(by omega),by omega,List.getElem?_eq_getElem (by omega)⟩
theorem BOk.begin{b:BS}{p q:Nat}(h:BOk b p)(hq:p<q)(n:ByteArray)(l:List (ByteArray×ByteArray))(hn:n.size<=16):BOk (b.begin n l) q:=by
 have h1:=h.opn;have h3:=h.dep;have h4:=h.elen;have h5:=h.tlen;refine⟨by simp[BS.begin];omega,fun i x hx=>?_,by simp[BS.begin];omega,by simp[BS.begin];omega,by simp[BS.begin];omega⟩;simp only[BS.begin]at hx;rcases Nat.lt_trichotomy i b.els.length with hi|hi|hi
 ·rw[List.getElem?_append_left hi]at hx;exact h.par i x hx
 ·subst hi;rw[List.getElem?_concat_length]at hx;cases hx;exact⟨h1.1,h1.2,hn⟩
 ·rw[List.getElem?_eq_none (by simp;omega)]at hx;cases hx
theorem BOk.fin{b:BS}{p q:Nat}(h:BOk b p)(hq:p<q)(ho:b.opn≠-1):BOk b.fin q:=by
 obtain⟨k,x,hk,hx⟩:=h.at ho;have hlt:k<b.els.length:=(List.getElem?_eq_some_iff.1 hx).1;have hp:=h.par k x hx;have h1:=h.opn;have h3:=h.dep;have h4:=h.elen;have h5:=h.tlen;have hfin:b.fin={ els:=b.els.set k { x with hi:=(b.txt.length:Int) },txt:=b.txt,opn:=x.parent,dep:=b.dep-1 }:=by
  unfold BS.fin;rw[hk,Int.toNat_natCast,hx];dsimp only;rw[if_neg (by omega)]
 rw[hfin];refine⟨by simp;omega,fun i y hy=>?_,by simp;omega,by simp;omega,by simp;omega⟩;by_cases e:i=k
 ·subst e;simp only[List.getElem?_set_self hlt]at hy;cases hy;exact hp
 ·simp only[List.getElem?_set_ne (fun h=>e h.symm)]at hy;exact h.par i y hy
theorem BOk.text{b:BS}{p q:Nat}(h:BOk b p)(l:List UInt8)(hq:p+l.length<=q):BOk (b.text l) q:=by
 have h1:=h.opn;have h3:=h.dep;have h4:=h.elen;have h5:=h.tlen;exact⟨h1,h.par,by simp[BS.text];omega,by simp[BS.text];omega,by simp[BS.text];omega⟩
theorem qD5(s:ByteArray)(ends:List UInt8):∀f p acc l,p<=s.size->(qB3 s ends f p acc).2=some l->p+l.length<=(qB3 s ends f p acc).1+acc.length
 |0,p,acc,l,_,h=>by simp[qB3]at h
 | f + 1, p, acc, l, hp, h => by
  rw[qB3]at h ⊢;split at h
  ·rename_i hc;rw[if_pos hc];cases h;exact Nat.le_refl _
  ·rename_i hc;rw[if_neg hc];have hlt:p<s.size:=qAX (fun e=>hc (.inl e));split at h
   ·rename_i hm;rw[if_pos hm];have h2:p+1<=(qFu s (p+1)).1/\(qFu s (p+1)).1<=s.size:=qKF s (p+1) hlt refsL;split at h
    ·rename_i m hm2;have:=qD5 s ends f (qFu s (p+1)).1 (acc++[m.toNat.toUInt8]) l h2.2 h;simp only[List.length_append,List.length_singleton]at this;omega
    ·cases h
   ·rename_i hm;rw[if_neg hm];have:=qD5 s ends f (p+1) (acc++[(qAC s p).toNat.toUInt8]) l hlt h;simp only[List.length_append,List.length_singleton]at this;omega
theorem qD7(s:ByteArray)(ends:List UInt8)(p:Nat)(l:List UInt8)(hp:p<=s.size)(h:(qAU s ends p).2=some l):p+l.length<=(qAU s ends p).1:=by
 have:=qD5 s ends (s.size+1) p [] l hp h;unfold qAU;simpa using this
def Ends(w w':World)(B rb bb:Nat)(s:ByteArray)(r:Nat×BS×Nat)(v:Value):Prop :=
 Rd w' rb s r.1/\Bd w' B bb r.2.1/\Kp B TP w w'/\((r.2.2=0/\v=.nilIface)\/(r.2.2=2/\∃n,Chain w' 2 r.1 n v)\/(r.2.2=3/\∃n,Chain w' 3 0 n v))
def qEX(s:ByteArray)(p:Nat)(b:BS):Nat×BS×Nat :=
 match (qAU s [60,62] p).2 with
 |none=>((qAU s [60,62] p).1,b,2)
 |some t=>if t=[]then((qAU s [60,62] p).1,b,2)else((qAU s [60,62] p).1,b.text t,0)
theorem qTn(B rb bb:Nat)(s:ByteArray)(p:Nat)(b:BS)(w:World)(h:Rd w rb s p)(hB:B<=rb)(hBb:B<=bb)(hg:Gl w)(hB0:1<B)(hbd:Bd w B bb b)(hok:BOk b p) :
  Calls prog 143 #[.agg #[.pointer (some ⟨rb,0,none⟩),.pointer (some ⟨bb,0,none⟩)]] w fun e w'=>∃v,e=.returned v/\Ends w w' B rb bb s (qEX s p b) v:=by
 have h5:=h.max;have h4:=h.le;cases h1:(qAU s [60,62] p).2 with
 |none =>
  have HE:Hid (qEX s p b=((qAU s [60,62] p).1,b,2)):=by unfold qEX;rw[h1];rfl
  have H1:=qAF h1;clear h1;go_enter func143,ntmps143
  go_wp2_with fail
  refine(qC0 B rb bb s ⟨#[60,62]⟩ p _ (h.alloc _) hB (hg.alloc _) hB0).mono ?_;rintro e w1⟨m,v,rfl,hr1,hk1,hor⟩;rcases hor with⟨ho,_⟩|⟨_,hc⟩
  ·exact absurd (ho.trans H1.out) (by simp)
  obtain⟨ty,kk,hv⟩:=hc.shape;rw[hv]at hc ⊢;go_wp2
  go_ret
  rw[HE.out];exact⟨_,rfl,hr1,(hbd.alloc _).keptR hk1,((Kp.refl _ _ _).alloc _).trans (kpR hk1),.inr (.inl ⟨rfl,1,hc⟩)⟩
 | some t =>
  have hlen:=qD7 s [60,62] p t h4 h1;have hle:=qDe s [60,62] p h4;by_cases h2:t=[]
  ·have HE:Hid (qEX s p b=((qAU s [60,62] p).1,b,2)):=by unfold qEX;rw[h1];dsimp only;rw[if_pos h2];rfl
   have H1:=qAF h1;have H2:=qAF h2;clear h1 h2;go_enter func143,ntmps143
   go_wp2_with fail
   refine(qC0 B rb bb s ⟨#[60,62]⟩ p _ (h.alloc _) hB (hg.alloc _) hB0).mono ?_;rintro e w1⟨m,v,rfl,hr1,hk1,hor⟩;rcases hor with⟨ho,rfl⟩|⟨ho,_⟩;rotate_left
   ·exact absurd (ho.symm.trans H1.out) (by simp)
   have hm:m.data.toList=[]:=(Option.some.inj (ho.trans H1.out)).trans H2.out;clear ho;have hm':m.toList.isEmpty=true:=by rw[Lib.toList_data];simp[hm]
   have bx1:=hk1.at (qAE w _) (by decide);have c0:=qAJ bx1;clear hm;go_wp2_with fail
   refine(qBB B rb s _ _ hr1).mono ?_;rintro e w2⟨v,rfl,hc,hr2,hk2⟩;go_wp2
   go_ret
   rw[HE.out];exact⟨_,rfl,hr2,((hbd.alloc _).keptR hk1).keptR hk2,(((Kp.refl _ _ _).alloc _).trans (kpR hk1)).trans (kpR hk2),.inr (.inl ⟨rfl,0,hc⟩)⟩
  ·have HE:Hid (qEX s p b=((qAU s [60,62] p).1,b.text t,0)):=by unfold qEX;rw[h1];dsimp only;rw[if_neg h2];rfl
   have H1:=qAF h1;have H2:=qAF h2;clear h1 h2;have hts:=hok.tlen;go_enter func143,ntmps143
   go_wp2_with fail
   refine(qC0 B rb bb s ⟨#[60,62]⟩ p _ (h.alloc _) hB (hg.alloc _) hB0).mono ?_;rintro e w1⟨m,v,rfl,hr1,hk1,hor⟩;rcases hor with⟨ho,rfl⟩|⟨ho,_⟩;rotate_left
   ·exact absurd (ho.symm.trans H1.out) (by simp)
   have hm:m.data.toList=t:=Option.some.inj (ho.trans H1.out);clear ho;have hm':m.toList.isEmpty=false:=by
    rw[Lib.toList_data,hm];cases t with
    |nil=>exact absurd rfl H2.out
    |cons _ _=>rfl
   have hms:m.size<=5000:=by
    have:m.data.toList.length=m.size:=by simp
    rw[hm]at this;omega
   have bx1:=hk1.at (qAE w _) (by decide);have c0:=qAJ bx1;have c1:=qAS bx1;have HM:=qAF hm;clear hm;go_wp2_with fail
   refine(qP4 B bb b m _ ((hbd.alloc _).keptR hk1) hBb (by omega) hms).mono ?_;rintro e w2⟨rfl,hb2,hk2⟩;rw[HM.out]at hb2;go_wp2
   go_ret
   rw[HE.out];exact⟨_,rfl,hr1.keptB hk2,hb2,(((Kp.refl _ _ _).alloc _).trans (kpR hk1)).trans (kpB hk2),.inl ⟨rfl,rfl⟩⟩
def endP(s:ByteArray)(p:Nat)(b:BS):Nat×BS×Nat :=
 match b.els[b.opn.toNat]? with
 |none=>(p,b,2)
 |some x =>
  if b.opn=-1 then(p,b,2)
  else if (qAo s [47] p).2=false then((qAo s [47] p).1,b,2)
  else if (qEh s x.name.data.toList (qAo s [47] p).1).2=false then((qEh s x.name.data.toList (qAo s [47] p).1).1,b,2)
  else if (qAo s [62] (qBM qAV s (qEh s x.name.data.toList (qAo s [47] p).1).1)).2=false then((qAo s [62] (qBM qAV s (qEh s x.name.data.toList (qAo s [47] p).1).1)).1,b,2)
  else((qAo s [62] (qBM qAV s (qEh s x.name.data.toList (qAo s [47] p).1).1)).1,b.fin,0)
theorem qMP{s:ByteArray}{p:Nat}{b:BS}(h:b.opn=-1):endP s p b=(p,b,2):=by
 unfold endP;split
 ·rfl
 ·rw[if_pos h]
theorem qHI{s:ByteArray}{p:Nat}{b:BS}{k:Nat}{x:El}(h:b.opn=(k:Int))(hx:b.els[k]? = some x):endP s p b =
  if (qAo s [47] p).2=false then((qAo s [47] p).1,b,2)
  else if (qEh s x.name.data.toList (qAo s [47] p).1).2=false then((qEh s x.name.data.toList (qAo s [47] p).1).1,b,2)
  else if (qAo s [62] (qBM qAV s (qEh s x.name.data.toList (qAo s [47] p).1).1)).2=false then((qAo s [62] (qBM qAV s (qEh s x.name.data.toList (qAo s [47] p).1).1)).1,b,2)
  else((qAo s [62] (qBM qAV s (qEh s x.name.data.toList (qAo s [47] p).1).1)).1,b.fin,0):=by
 unfold endP;rw[h,Int.toNat_natCast,hx];dsimp only;rw[if_neg (by omega)]
theorem qUe(B rb bb:Nat)(s:ByteArray)(p:Nat)(b:BS)(w:World)(h:Rd w rb s p)(hB:B<=rb)(hBb:B<=bb)(hbd:Bd w B bb b)(hok:BOk b p) :
  Calls prog 146 #[.agg #[.pointer (some ⟨rb,0,none⟩),.pointer (some ⟨bb,0,none⟩)]] w fun e w'=>∃v,e=.returned v/\Ends w w' B rb bb s (endP s p b) v:=by
 have h5:=h.max;have h4:=h.le;by_cases ho:b.opn=-1
 ·have HE:=qAF (qMP (s:=s) (p:=p) ho);have HO:=qAF ho;clear ho;go_enter func146,ntmps146
  go_wp2_with fail
  refine(qJj B bb b _ (hbd.alloc _) HO.out).mono ?_;rintro e w1⟨rfl,rfl⟩;go_wp2_with fail
  refine(qBB B rb s p _ (h.alloc _)).mono ?_;rintro e w2⟨v,rfl,hc,hr2,hk2⟩;go_wp2
  go_ret
  rw[HE.out];exact⟨_,rfl,hr2,(hbd.alloc _).keptR hk2,((Kp.refl _ _ _).alloc _).trans (kpR hk2),.inr (.inl ⟨rfl,0,hc⟩)⟩
 ·obtain⟨k,x,hk,hx⟩:=hok.at ho;have HE:=qAF (qHI (s:=s) (p:=p) hk hx);have hel:=hok.elen;have hdp:=hok.dep;have hnm:=(hok.par k x hx).2.2;have HK:=qAF hk;have HX:=qAF hx;have l1:=qBi s [47] p h4;clear ho hk hx;go_enter func146,ntmps146
  go_wp2_with fail
  refine(qKv B bb b k x _ (hbd.alloc _) HK.out HX.out (by omega)).mono ?_;rintro e w1⟨rfl,nq,rfl⟩;go_wp2_with fail
  refine(qAw B rb s ⟨#[47]⟩ p _ ((h.alloc _).drewN _) hB (by decide)).mono ?_;rintro e w2⟨v,rfl,hr2,hk2,hor⟩;have bx2:=hk2.at (qAE w _) (by decide);have bd2:=((hbd.alloc _).drewN nq).keptR hk2;have K2:=(((Kp.refl B TP w).alloc _).drewN nq).trans (kpR hk2);have c0:=qAJ bx2;rcases hor with⟨g2,rfl⟩|⟨g2,hc⟩;rotate_left
  ·have G2:=qAF g2;clear g2;obtain⟨ty,kk,hv⟩:=hc.shape;rw[hv]at hc ⊢;go_wp2
   go_ret
   rw[HE.out,if_pos G2.out];exact⟨_,rfl,hr2,bd2,K2,.inr (.inl ⟨rfl,0,hc⟩)⟩
  have G2:Hid (¬(qAo s [47] p).2=false):=by rw[g2];exact Bool.noConfusion
  clear g2;go_wp2_with fail
  refine(qId B rb s x.name _ _ hr2 hB (by omega)).mono ?_;rintro e w3⟨v,rfl,hr3,hk3,hor⟩;have bx3:=hk3.at bx2 (by decide);have bd3:=bd2.keptR hk3;have K3:=K2.trans (kpR hk3);have d0:=qAJ bx3;have d1:=qAS bx3;rcases hor with⟨g3,rfl⟩|⟨g3,hc⟩;rotate_left
  ·have G3:=qAF g3;clear g3;obtain⟨ty,kk,hv⟩:=hc.shape;rw[hv]at hc ⊢;go_wp2
   go_ret
   rw[HE.out,if_neg G2.out,if_pos G3.out];exact⟨_,rfl,hr3,bd3,K3,.inr (.inl ⟨rfl,0,hc⟩)⟩
  have G3:Hid (¬(qEh s x.name.data.toList (qAo s [47] p).1).2=false):=by rw[g3];exact Bool.noConfusion
  clear g3;have l2:=qJz s x.name.data.toList (qAo s [47] p).1 l1.2;go_wp2_with fail
  refine(qAt B rb s _ _ hr3 hB).mono ?_;rintro e w4⟨rfl,hr4,hk4⟩;have bx4:=hk4.at bx3 (by decide);have bd4:=bd3.keptR hk4;have K4:=K3.trans (kpR hk4);have e0:=qAJ bx4;have e1:=qAS bx4;go_wp2_with fail
  refine(qAw B rb s ⟨#[62]⟩ _ _ hr4 hB (by decide)).mono ?_;rintro e w5⟨v,rfl,hr5,hk5,hor⟩;have bx5:=hk5.at bx4 (by decide);have bd5:=bd4.keptR hk5;have K5:=K4.trans (kpR hk5);have i1:=qAS bx5;rcases hor with⟨g5,rfl⟩|⟨g5,hc⟩;rotate_left
  ·have G5:=qAF g5;clear g5;obtain⟨ty,kk,hv⟩:=hc.shape;rw[hv]at hc ⊢;go_wp2
   go_ret
   rw[HE.out,if_neg G2.out,if_neg G3.out,if_pos G5.out];exact⟨_,rfl,hr5,bd5,K5,.inr (.inl ⟨rfl,0,hc⟩)⟩
  have G5:Hid (¬(qAo s [62] (qBM qAV s (qEh s x.name.data.toList (qAo s [47] p).1).1)).2=false):=by rw[g5];exact Bool.noConfusion
  clear g5;go_wp2_with fail
  refine(qJg B bb b k x _ bd5 hBb HK.out HX.out (by omega) (by omega)).mono ?_;rintro e w6⟨rfl,bd6,hk6⟩;go_wp2
  go_ret
  rw[HE.out,if_neg G2.out,if_neg G3.out,if_neg G5.out];exact⟨_,rfl,hr5.keptB hk6,bd6,K5.trans (kpB hk6),.inl ⟨rfl,rfl⟩⟩
def qEs(n:ByteArray):Bool:=n.toList==[98,114]||n.toList==[104,114]||n.toList==[105,109,103]
theorem qOs(n:ByteArray)(w:World) :
  Calls prog 111 #[.string n] w fun e w'=>e=.returned (.bool (qEs n))/\w'=w:=by
 go_enter func111,ntmps111
 go_wp2
 all_goals (go_ret;exact⟨qBT (by simp[qEs, *]),rfl⟩)
theorem qFf(n:ByteArray)(w:World)(v:Bool)(h:qEs n=v) :
  Calls prog 111 #[.string n] w fun e w'=>e=.returned (.bool v)/\w'=w:=by
 subst h;exact qOs n w
theorem qVP(B rb:Nat)(s:ByteArray)(p:Nat)(b:Int)(w:World)(v:Bool)(h:Rd w rb s p)(hB:B<=rb)(hz:b≠0)(hb:(qAC s p==b)=v) :
  Calls prog 129 #[.pointer (some ⟨rb,0,none⟩),.int .u8 b] w fun e w'=>e=.returned (.bool v)/\Rd w' rb s (if v=true then p+1 else p)/\Kp B [210] w w':=by
 cases v
 ·exact qBm B rb s p b w h (.inr (by simpa using hb))
 ·exact qBU B rb s p b w h hB hz (by simpa using hb)
def qJY(s:ByteArray)(p:Nat):Bool:=qAC s p==47
def qCB(s:ByteArray)(p:Nat):Nat:=if qAC s p=47 then p+1 else p
def qEy(b:BS):Bool:=decide (100<=(b.els.length:Int))||decide (12<=b.dep)
def qBo(s:ByteArray)(p:Nat)(b:BS)(n:ByteArray):Nat×BS×Nat :=
 match (qAK s p).2 with
 |none=>((qAK s p).1,b,2)
 |some l =>
  if (qAo s [62] (qCB s (qAK s p).1)).2=false then((qAo s [62] (qCB s (qAK s p).1)).1,b,2)
  else((qAo s [62] (qCB s (qAK s p).1)).1,if (qJY s (qAK s p).1||qEs n)=true then(b.begin n l).fin else b.begin n l,if qEy b=true then 3 else 0)
theorem qKt(b:BS)(n:ByteArray)(l:List (ByteArray×ByteArray)):(b.begin n l).opn=(b.els.length:Int)/\(b.begin n l).els[b.els.length]? = some ⟨n,b.opn,l,(b.txt.length:Int),0⟩/\(b.begin n l).els.length=b.els.length+1/\(b.begin n l).dep=b.dep+1:=by
 refine⟨rfl,?_,?_,rfl⟩
 ·simp[BS.begin]
 ·simp[BS.begin]
theorem qMN(B rb bb:Nat)(s:ByteArray)(p:Nat)(b:BS)(n:ByteArray)(w:World)(h:Rd w rb s p)(hB:B<=rb)(hBb:B<=bb)(hg:Gl w)(hB0:1<B)(hbd:Bd w B bb b)(hok:BOk b p) :
  Calls prog 193 #[.agg #[.pointer (some ⟨rb,0,none⟩),.pointer (some ⟨bb,0,none⟩)],.string n] w fun e w'=>∃v,e=.returned v/\Ends w w' B rb bb s (qBo s p b n) v:=by
 have h5:=h.max;have h4:=h.le;have hsz:B<=w.heap.size:=by have:=lt_of_block h.1;omega
 have hel:=hok.elen;have hdp:=hok.dep;have l1:=qEu s p h4;cases h1:(qAK s p).2 with
 |none =>
  have HE:Hid (qBo s p b n=((qAK s p).1,b,2)):=by unfold qBo;rw[h1];rfl
  have H1:=qAF h1;clear h1;go_enter func193,ntmps193
  go_wp2_with fail
  refine(qEv B rb bb s p _ (h.alloc _) hB (hg.alloc _) hB0).mono ?_;rintro e w1⟨av,v,rfl,hr1,hk1,hor⟩;rcases hor with⟨l,ho,_⟩|⟨_,nn,hc⟩
  ·exact absurd (ho.symm.trans H1.out) (by simp)
  obtain⟨ty,kk,hv⟩:=hc.shape;rw[hv]at hc ⊢;go_wp2
  go_ret
  rw[HE.out];exact⟨_,rfl,hr1,(hbd.alloc _).keptR hk1,((Kp.refl _ _ _).alloc _).trans (kpR hk1),.inr (.inl ⟨rfl,nn,hc⟩)⟩
 | some l =>
  have H1:=qAF h1;obtain⟨wb,hwb⟩:∃wb,qJY s (qAK s p).1=wb:=⟨_,rfl⟩;have HWB:=qAF hwb;have HAf:Hid (qCB s (qAK s p).1=if wb=true then(qAK s p).1+1 else(qAK s p).1):=by
   rw[<-hwb];unfold qCB qJY;simp[Hid]
  have HE:Hid (qBo s p b n=if (qAo s [62] (qCB s (qAK s p).1)).2=false then((qAo s [62] (qCB s (qAK s p).1)).1,b,2)else((qAo s [62] (qCB s (qAK s p).1)).1,if (wb||qEs n)=true then(b.begin n l).fin else b.begin n l,if qEy b=true then 3 else 0)):=by unfold qBo;rw[h1,<-hwb];rfl
  clear h1 hwb;go_enter func193,ntmps193
  go_wp2_with fail
  refine(qEv B rb bb s p _ (h.alloc _) hB (hg.alloc _) hB0).mono ?_;rintro e w1⟨av,v,rfl,hr1,hk1,hor⟩;rcases hor with⟨l',ho,hl',hown,rfl⟩|⟨ho,_⟩;rotate_left
  ·exact absurd (ho.symm.trans H1.out) (by simp)
  have hll:=Option.some.inj (ho.symm.trans H1.out);subst hll;have bx1:=hk1.at (qAE w _) (by decide);have bd1:=(hbd.alloc _).keptR hk1;have K1:=((Kp.refl B TP w).alloc _).trans (kpR hk1);have own1:=qCg (B:=B) hown (by simp;omega);clear ho hown;have c0:=qAJ bx1;go_wp2_with fail
  refine(qVP B rb s _ 47 _ wb hr1 hB (by decide) HWB.out).mono ?_;rintro e w2⟨rfl,hr2,hk2⟩;rw[<-HAf.out]at hr2;have bx2:=hk2.at bx1 (by decide);have bd2:=bd1.keptR hk2;have K2:=K1.trans (kpR hk2);have own2:=hk2.owns own1 (by decide);have d0:=qAJ bx2;go_wp2_with fail
  refine(qAw B rb s ⟨#[62]⟩ _ _ hr2 hB (by decide)).mono ?_;rintro e w3⟨v,rfl,hr3,hk3,hor⟩;have bx3:=hk3.at bx2 (by decide);have bd3:=bd2.keptR hk3;have K3:=K2.trans (kpR hk3);have own3:=hk3.owns own2 (by decide);have e1:=qAS bx3;rcases hor with⟨g3,rfl⟩|⟨g3,hc⟩;rotate_left
  ·have G3:=qAF g3;clear g3;obtain⟨ty,kk,hv⟩:=hc.shape;rw[hv]at hc ⊢;go_wp2
   go_ret
   rw[HE.out,if_pos G3.out];exact⟨_,rfl,hr3,bd3,K3,.inr (.inl ⟨rfl,0,hc⟩)⟩
  have G3:Hid (¬(qAo s [62] (qCB s (qAK s p).1)).2=false):=by rw[g3];exact Bool.noConfusion
  clear g3;obtain⟨bo1,bo2,bo3,bo4⟩:=qKt b n l';have BO1:=qAF bo1;have BO2:=qAF bo2;have BO3:=qAF bo3;have BO4:=qAF bo4;clear bo1 bo2 bo3 bo4;obtain⟨vn,hvn⟩:∃vn,qEs n=vn:=⟨_,rfl⟩;have HVN:=qAF hvn;clear hvn;rcases (show 100<=(b.els.length:Int)\/((b.els.length:Int)<100/\12<=b.dep)\/((b.els.length:Int)<100/\b.dep<12) from by omega)with hL|⟨hL,hD⟩|⟨hL,hD⟩
  all_goals
   have HLg:Hid (qEy b=(decide (100<=(b.els.length:Int))||decide (12<=b.dep))):=rfl;cases wb
   ·cases vn
    ·go_wp2_with (first
      |(go_at_call 224;refine(qJh B bb b _ bd3).mono ?_;rintro e w4 ⟨rfl,rfl⟩)
      |(go_at_call 225;refine(qGC B bb b _ bd3).mono ?_;rintro e w4 ⟨rfl,rfl⟩)
      |(go_at_call 226;refine(qGB B bb b n l' av _ bd3 hBb (by omega) (by omega) own3).mono ?_;rintro e w5 ⟨rfl,bd5,hk5⟩;have bx5:=hk5.at bx3 (by decide);have i1:=qAS bx5;have rd5:=hr3.keptB hk5)
      |(go_at_call 111;refine(qFf n _ _ HVN.out).mono ?_;rintro e w6 ⟨rfl,rfl⟩))
     go_ret
     rw[HE.out,if_neg G3.out,HVN.out,HLg.out]
     first
      |(rw[decide_eq_false (by omega),decide_eq_false (by omega)];exact⟨_,rfl,rd5,bd5,K3.trans (kpB hk5),.inl ⟨rfl,rfl⟩⟩)
      |(rw[decide_eq_true (p:=100<=(b.els.length:Int)) (by omega)];exact⟨_,rfl,rd5.alloc _,bd5.alloc _,(K3.trans (kpB hk5)).alloc _,.inr (.inr ⟨rfl,0,_,rfl,qAE _ _⟩)⟩)
      |(rw[decide_eq_false (p:=100<=(b.els.length:Int)) (by omega),decide_eq_true (by omega)];exact⟨_,rfl,rd5.alloc _,bd5.alloc _,(K3.trans (kpB hk5)).alloc _,.inr (.inr ⟨rfl,0,_,rfl,qAE _ _⟩)⟩)
    ·go_wp2_with (first
      |(go_at_call 224;refine(qJh B bb b _ bd3).mono ?_;rintro e w4 ⟨rfl,rfl⟩)
      |(go_at_call 225;refine(qGC B bb b _ bd3).mono ?_;rintro e w4 ⟨rfl,rfl⟩)
      |(go_at_call 226;refine(qGB B bb b n l' av _ bd3 hBb (by omega) (by omega) own3).mono ?_;rintro e w5 ⟨rfl,bd5,hk5⟩;have bx5:=hk5.at bx3 (by decide);have i1:=qAS bx5;have rd5:=hr3.keptB hk5)
      |(go_at_call 111;refine(qFf n _ _ HVN.out).mono ?_;rintro e w6 ⟨rfl,rfl⟩)
      |(go_at_call 191;refine(qJg B bb _ b.els.length _ _ bd5 hBb BO1.out BO2.out (by rw[BO3.out];omega) (by rw[BO3.out,BO4.out];omega)).mono ?_;rintro e w7 ⟨rfl,bd7,hk7⟩;have rd7:=rd5.keptB hk7))
     go_ret
     rw[HE.out,if_neg G3.out,HVN.out,HLg.out]
     first
      |(rw[decide_eq_false (by omega),decide_eq_false (by omega)];exact⟨_,rfl,rd7,bd7,(K3.trans (kpB hk5)).trans (kpB hk7),.inl ⟨rfl,rfl⟩⟩)
      |(rw[decide_eq_true (p:=100<=(b.els.length:Int)) (by omega)];exact⟨_,rfl,rd7.alloc _,bd7.alloc _,((K3.trans (kpB hk5)).trans (kpB hk7)).alloc _,.inr (.inr ⟨rfl,0,_,rfl,qAE _ _⟩)⟩)
      |(rw[decide_eq_false (p:=100<=(b.els.length:Int)) (by omega),decide_eq_true (by omega)];exact⟨_,rfl,rd7.alloc _,bd7.alloc _,((K3.trans (kpB hk5)).trans (kpB hk7)).alloc _,.inr (.inr ⟨rfl,0,_,rfl,qAE _ _⟩)⟩)
   ·go_wp2_with (first
     |(go_at_call 224;refine(qJh B bb b _ bd3).mono ?_;rintro e w4 ⟨rfl,rfl⟩)
     |(go_at_call 225;refine(qGC B bb b _ bd3).mono ?_;rintro e w4 ⟨rfl,rfl⟩)
     |(go_at_call 226;refine(qGB B bb b n l' av _ bd3 hBb (by omega) (by omega) own3).mono ?_;rintro e w5 ⟨rfl,bd5,hk5⟩;have bx5:=hk5.at bx3 (by decide);have i1:=qAS bx5;have rd5:=hr3.keptB hk5)
     |(go_at_call 191;refine(qJg B bb _ b.els.length _ _ bd5 hBb BO1.out BO2.out (by rw[BO3.out];omega) (by rw[BO3.out,BO4.out];omega)).mono ?_;rintro e w7 ⟨rfl,bd7,hk7⟩;have rd7:=rd5.keptB hk7))
    go_ret
    rw[HE.out,if_neg G3.out,HLg.out]
    first
     |(rw[decide_eq_false (by omega),decide_eq_false (by omega)];exact⟨_,rfl,rd7,bd7,(K3.trans (kpB hk5)).trans (kpB hk7),.inl ⟨rfl,rfl⟩⟩)
     |(rw[decide_eq_true (p:=100<=(b.els.length:Int)) (by omega)];exact⟨_,rfl,rd7.alloc _,bd7.alloc _,((K3.trans (kpB hk5)).trans (kpB hk7)).alloc _,.inr (.inr ⟨rfl,0,_,rfl,qAE _ _⟩)⟩)
     |(rw[decide_eq_false (p:=100<=(b.els.length:Int)) (by omega),decide_eq_true (by omega)];exact⟨_,rfl,rd7.alloc _,bd7.alloc _,((K3.trans (kpB hk5)).trans (kpB hk7)).alloc _,.inr (.inr ⟨rfl,0,_,rfl,qAE _ _⟩)⟩)
theorem qNa(B rb:Nat)(s:ByteArray)(p:Nat)(w:World)(h:Rd w rb s p)(hB:B<=rb) :
  Calls prog 192 #[.pointer (some ⟨rb,0,none⟩)] w fun e w'=>∃n v,e=.returned (.tuple #[.string n,v])/\Rd w' rb s (qBQ s p qAI).1/\Kp B [210] w w' /\
   ((some n=(qBQ s p qAI).2/\v=.nilIface)\/((qBQ s p qAI).2=none/\Chain w' 2 (qBQ s p qAI).1 0 v)):=by
 go_enter func192,ntmps192
 go_wp2_with fail
 refine(qI8 B rb s p _ h hB).mono ?_;rintro e w1⟨n,v,rfl,hr1,hk1,hor⟩;have hs:∃v',v=v':=⟨v,rfl⟩;go_wp2
 go_ret2
 exact⟨_,_,rfl,hr1,hk1,hor⟩
def qCn(s:ByteArray)(p:Nat)(b:BS):Nat×BS×Nat :=
 match (qBQ s p qAI).2 with
 |none=>((qBQ s p qAI).1,b,2)
 |some n=>qBo s (qBQ s p qAI).1 b n
theorem Ends.from{w w1 w':World}{B rb bb:Nat}{s:ByteArray}{r:Nat×BS×Nat}{v:Value}(h:Ends w1 w' B rb bb s r v)(k:Kp B TP w w1):Ends w w' B rb bb s r v:=⟨h.1,h.2.1,k.trans h.2.2.1,h.2.2.2⟩
theorem qCt(t:ByteArray)(B rb bb:Nat)(s:ByteArray)(r:Nat×BS×Nat)(v:Value)(w w1:World)(h:Ends w w1 B rb bb s r v) :
  Calls prog 54 #[.string t,v] w1 fun e w'=>∃u,e=.returned u/\Ends w w' B rb bb s r u:=by
 obtain⟨h1,h2,h3,h4⟩:=h;rcases h4 with⟨h4,rfl⟩|⟨h4,n,hc⟩|⟨h4,n,hc⟩
 ·exact(while_nil t w1).mono fun e w' ⟨he,hw⟩=>⟨_,he,by rw[hw];exact⟨h1,h2,h3,.inl ⟨h4,rfl⟩⟩⟩
 ·exact(qA9 B [] t _ _ n v w1 hc).mono fun e w' ⟨u,he,hc',hk⟩=>⟨u,he,h1.kept hk (by simp),h2.kept0 hk,h3.trans (kp0 hk),.inr (.inl ⟨h4,_,hc'⟩)⟩
 ·exact(qA9 B [] t _ _ n v w1 hc).mono fun e w' ⟨u,he,hc',hk⟩=>⟨u,he,h1.kept hk (by simp),h2.kept0 hk,h3.trans (kp0 hk),.inr (.inr ⟨h4,_,hc'⟩)⟩
theorem Ends.shape{w w':World}{B rb bb:Nat}{s:ByteArray}{r:Nat×BS×Nat}{v:Value}(h:Ends w w' B rb bb s r v):v=.nilIface\/∃ty k,v=.iface ty (.pointer (some ⟨k,0,none⟩)):=by
 rcases h.2.2.2 with⟨_,h⟩|⟨_,n,h⟩|⟨_,n,h⟩
 ·exact .inl h
 ·exact .inr h.shape
 ·exact .inr h.shape
theorem qP0(B rb bb:Nat)(s:ByteArray)(p:Nat)(b:BS)(w:World)(h:Rd w rb s p)(hB:B<=rb)(hBb:B<=bb)(hg:Gl w)(hB0:1<B)(hbd:Bd w B bb b)(hok:BOk b p) :
  Calls prog 147 #[.agg #[.pointer (some ⟨rb,0,none⟩),.pointer (some ⟨bb,0,none⟩)]] w fun e w'=>∃v,e=.returned v/\Ends w w' B rb bb s (qCn s p b) v:=by
 have h5:=h.max;have h4:=h.le;have l1:=qCX s p qAI h4;cases h1:(qBQ s p qAI).2 with
 |none =>
  have HE:Hid (qCn s p b=((qBQ s p qAI).1,b,2)):=by unfold qCn;rw[h1];rfl
  have H1:=qAF h1;clear h1;go_enter func147,ntmps147
  go_wp2_with fail
  refine(qNa B rb s p _ (h.alloc _) hB).mono ?_;rintro e w1⟨n1,v,rfl,hr1,hk1,hor⟩;rcases hor with⟨ho,_⟩|⟨_,hc⟩
  ·exact absurd (ho.trans H1.out) (by simp)
  obtain⟨ty,kk,hv⟩:=hc.shape;rw[hv]at hc ⊢;have E1:Ends w w1 B rb bb s ((qBQ s p qAI).1,b,2) (.iface ty (.pointer (some ⟨kk,0,none⟩))):=⟨hr1,(hbd.alloc _).keptR hk1,((Kp.refl _ _ _).alloc _).trans (kpR hk1),.inr (.inl ⟨rfl,0,hc⟩)⟩;go_wp2_with fail
  refine(qCt _ B rb bb s _ _ w _ E1).mono ?_;rintro e w2⟨u,rfl,E2⟩;go_wp2
  go_ret
  rw[HE.out];exact⟨_,rfl,E2⟩
 | some n =>
  have HE:Hid (qCn s p b=qBo s (qBQ s p qAI).1 b n):=by unfold qCn;rw[h1];rfl
  have hn16:=qFl h4 h1;have H1:=qAF h1;clear h1;go_enter func147,ntmps147
  go_wp2_with fail
  refine(qNa B rb s p _ (h.alloc _) hB).mono ?_;rintro e w1⟨n1,v,rfl,hr1,hk1,hor⟩;rcases hor with⟨ho,rfl⟩|⟨ho,_⟩;rotate_left
  ·exact absurd (ho.symm.trans H1.out) (by simp)
  have hx2:=Option.some.inj (ho.trans H1.out);clear ho;subst hx2;have bx1:=hk1.at (qAE w _) (by decide);have c0:=qAJ bx1;have c1:=qAS bx1;go_wp2_with fail
  refine(qMN B rb bb s _ b n1 _ hr1 hB hBb ((hg.alloc _).kept hk1 hB0) hB0 ((hbd.alloc _).keptR hk1) (hok.mono l1.1)).mono ?_;rintro e w2⟨v,rfl,E2⟩;have E3:=E2.from (((Kp.refl B TP w).alloc _).trans (kpR hk1))
  rw[<-HE.out]at E3;rcases E3.shape with rfl|⟨ty,kk,rfl⟩
  all_goals
   go_wp2_with fail
   refine(qCt _ B rb bb s _ _ w _ E3).mono ?_;rintro e w3⟨u,rfl,E4⟩;go_wp2
   go_ret
   exact⟨_,rfl,E4⟩
def qAW(s:ByteArray)(p:Nat)(b:BS):Nat×BS×Nat :=
 if qAC s p=60 then
  if qAC s (p+1)=33 then((qA6 s (p+1)).1,b,if (qA6 s (p+1)).2=true then 0 else 2)
  else if qAC s (p+1)=47 then endP s (p+1) b
  else qCn s (p+1) b
 else qEX s p b
theorem qLg(B rb bb:Nat)(s:ByteArray)(p:Nat)(b:BS)(w:World)(h:Rd w rb s p)(hB:B<=rb)(hBb:B<=bb)(hg:Gl w)(hB0:1<B)(hbd:Bd w B bb b)(hok:BOk b p) :
  Calls prog 120 #[.agg #[.pointer (some ⟨rb,0,none⟩),.pointer (some ⟨bb,0,none⟩)]] w fun e w'=>∃v,e=.returned v/\Ends w w' B rb bb s (qAW s p b) v:=by
 have h5:=h.max;have h4:=h.le;by_cases h1:qAC s p=60
 ·have H1:=qAF h1;by_cases h2:qAC s (p+1)=33
  ·have HE:Hid (qAW s p b=((qA6 s (p+1)).1,b,if (qA6 s (p+1)).2=true then 0 else 2)):=by unfold qAW;rw[if_pos h1,if_pos h2];rfl
   have h2':(qAC s (p+1)==33)=true:=by simp[h2]
   clear h1 h2;go_enter func120,ntmps120
   go_wp2_with fail
   refine(qBU B rb s p 60 _ (h.alloc _) hB (by decide) H1.out).mono ?_;rintro e w1⟨rfl,hr1,hk1⟩;have bx1:=hk1.at (qAE w _) (by decide);have c0:=qAJ bx1;have c1:=qAS bx1;go_wp2_with fail
   refine(qAL rb s (p+1) _ hr1).mono ?_;rintro e w2⟨rfl,nq,rfl⟩;go_wp2_with fail
   refine(qMF B rb bb s (p+1) _ (hr1.drewN _) hB).mono ?_;rintro e w3⟨v,rfl,hr3,hk3,hor⟩;have E3:Ends w w3 B rb bb s (qAW s p b) v:=by
    rw[HE.out];refine⟨hr3,(((hbd.alloc _).keptR hk1).drewN _).keptR hk3,((((Kp.refl _ _ _).alloc _).trans (kpR hk1)).drewN _).trans (kpR hk3),?_⟩;rcases hor with⟨ho,rfl⟩|⟨ho,hc⟩
    ·exact .inl ⟨by simp[ho],rfl⟩
    ·exact .inr (.inl ⟨by simp[ho],hc⟩)
   clear hor;rcases E3.shape with rfl|⟨ty,kk,rfl⟩
   all_goals
    go_wp2_with fail
    refine(qCt _ B rb bb s _ _ w _ E3).mono ?_;rintro e w4⟨u,rfl,E4⟩;go_wp2
    go_ret
    exact⟨_,rfl,E4⟩
  ·have h2':(qAC s (p+1)==33)=false:=by simp[h2]
   by_cases h3:qAC s (p+1)=47
   ·have HE:Hid (qAW s p b=endP s (p+1) b):=by unfold qAW;rw[if_pos h1,if_neg h2,if_pos h3];rfl
    have h3':(qAC s (p+1)==47)=true:=by simp[h3]
    clear h1 h2 h3;go_enter func120,ntmps120
    go_wp2_with fail
    refine(qBU B rb s p 60 _ (h.alloc _) hB (by decide) H1.out).mono ?_;rintro e w1⟨rfl,hr1,hk1⟩;have bx1:=hk1.at (qAE w _) (by decide);have c0:=qAJ bx1;have c1:=qAS bx1;go_wp2_with fail
    refine(qAL rb s (p+1) _ hr1).mono ?_;rintro e w2⟨rfl,nq,rfl⟩;go_wp2_with fail
    refine(qUe B rb bb s (p+1) b _ (hr1.drewN _) hB hBb (((hbd.alloc _).keptR hk1).drewN _) (hok.mono (by omega))).mono ?_;rintro e w3⟨v,rfl,E2⟩;have E3:=E2.from ((((Kp.refl B TP w).alloc _).trans (kpR hk1)).drewN _)
    rw[<-HE.out]at E3;rcases E3.shape with rfl|⟨ty,kk,rfl⟩
    all_goals
     go_wp2_with fail
     refine(qCt _ B rb bb s _ _ w _ E3).mono ?_;rintro e w4⟨u,rfl,E4⟩;go_wp2
     go_ret
     exact⟨_,rfl,E4⟩
   ·have HE:Hid (qAW s p b=qCn s (p+1) b):=by unfold qAW;rw[if_pos h1,if_neg h2,if_neg h3];rfl
    have h3':(qAC s (p+1)==47)=false:=by simp[h3]
    clear h1 h2 h3;go_enter func120,ntmps120
    go_wp2_with fail
    refine(qBU B rb s p 60 _ (h.alloc _) hB (by decide) H1.out).mono ?_;rintro e w1⟨rfl,hr1,hk1⟩;have bx1:=hk1.at (qAE w _) (by decide);have c0:=qAJ bx1;have c1:=qAS bx1;go_wp2_with fail
    refine(qAL rb s (p+1) _ hr1).mono ?_;rintro e w2⟨rfl,nq,rfl⟩;go_wp2_with fail
    refine(qP0 B rb bb s (p+1) b _ (hr1.drewN _) hB hBb (((hg.alloc _).kept hk1 hB0).drewN _) hB0 (((hbd.alloc _).keptR hk1).drewN _) (hok.mono (by omega))).mono ?_;rintro e w3⟨v,rfl,E2⟩;have E3:=E2.from ((((Kp.refl B TP w).alloc _).trans (kpR hk1)).drewN _)
    rw[<-HE.out]at E3;rcases E3.shape with rfl|⟨ty,kk,rfl⟩
    all_goals
     go_wp2
     go_ret
     exact⟨_,rfl,E3⟩
 ·have HE:Hid (qAW s p b=qEX s p b):=by unfold qAW;rw[if_neg h1];rfl
  have H1:=qAF h1;clear h1;go_enter func120,ntmps120
  go_wp2_with fail
  refine(qBm B rb s p 60 _ (h.alloc _) (.inr H1.out)).mono ?_;rintro e w1⟨rfl,hr1,hk1⟩;have bx1:=hk1.at (qAE w _) (by decide);have c0:=qAJ bx1;have c1:=qAS bx1;go_wp2_with fail
  refine(qTn B rb bb s p b _ hr1 hB hBb ((hg.alloc _).kept hk1 hB0) hB0 ((hbd.alloc _).keptR hk1) hok).mono ?_;rintro e w3⟨v,rfl,E2⟩;have E3:=E2.from (((Kp.refl B TP w).alloc _).trans (kpR hk1))
  rw[<-HE.out]at E3;rcases E3.shape with rfl|⟨ty,kk,rfl⟩
  all_goals
   go_wp2_with fail
   refine(qCt _ B rb bb s _ _ w _ E3).mono ?_;rintro e w4⟨u,rfl,E4⟩;go_wp2
   go_ret
   exact⟨_,rfl,E4⟩
end Go.Proofs.YtclpcnignheijaaGreatDoor
namespace Go
section
variable{P:Program}(w:World)
theorem qEM(d:Nat){ti tn:TypeId}{ms:Array (String×TypeId)}{i:TypeInfo}{k:IntKind}(a b:Int)
  (hi:P.underlying ti=some (.interface ms)) (hn:P.underlying tn=some (.int k)) (hinfo:P.info? tn=some i) (hcomp:i.comparable=true) :
  (Op.equalIn (d+2) ti (.iface tn (.int k a)) (.iface tn (.int k b))).run P w=.ok (a==b) w:=by
 simp[Op.equalIn,run_underlying hi,run_underlying hn,typeInfo,hinfo,hcomp]
theorem qGS{ti tn:TypeId}{ms:Array (String×TypeId)}{i:TypeInfo}{k:IntKind}(a b:Int)
  (hi:P.underlying ti=some (.interface ms)) (hn:P.underlying tn=some (.int k)) (hinfo:P.info? tn=some i) (hcomp:i.comparable=true) :
  (binOp .eql ti (.iface tn (.int k a)) (.iface tn (.int k b))).run P w=.ok (.bool (a==b)) w:=by
 simp only[binOp];simp[Op.equal,Op.maxDepth,qEM w 9998 a b hi hn hinfo hcomp]
end
end Go
namespace Go.Proofs.YtclpcnignheijaaGreatDoor
open Go.RowKit Go.Extern Go.Proofs.Tryz
theorem qVs(n:Int)(w:World) :
  Calls prog 72 #[.nilIface,.iface 132 (.int .i64 n)] w fun e w'=>e=.returned (.bool false)/\w'=w:=by
 have hn:=run_eql_iface_nil_left (P:=prog) w 132 (.int .i64 n) underlying52;go_enter func72,ntmps72
 go_wp2
 go_ret
 exact⟨rfl,rfl⟩
theorem Tryz.isTypeOf(v:Value)(w:World):(Extern.ReflectliteType.typeOf #[.iface 132 v]).run prog w=.ok (.iface 236 (.agg #[.pointer (some ⟨9,132,none⟩)])) w:=by kernel_rfl
def qT2:Array Value->Sem Value:=match Extern.ReflectliteType.rows with
 |_::_::r::_=>r.2
 |_=>fun _=>pure .nilIface
theorem Tryz.isComparable(w:World):(qT2 #[.agg #[.pointer (some ⟨9,132,none⟩)]]).run prog w=.ok (.bool true) w:=by kernel_rfl
theorem Tryz.isComp:(prog.info? 132).map (·.comparable)=some true:=by kernel_rfl
theorem Tryz.noIsTr(v:Value)(xT:TypeId)(w:World):(Instr.typeAssert (.iface 166 v) xT 247 true).run prog w=.ok (.tuple #[.nilIface,.bool false]) w:=run_typeAssert_lacksB underlying247 (by kernel_rfl) (by kernel_rfl) v xT w
theorem Tryz.noIsFa(v:Value)(xT:TypeId)(w:World):(Instr.typeAssert (.iface 128 v) xT 247 true).run prog w=.ok (.tuple #[.nilIface,.bool false]) w:=run_typeAssert_lacksB underlying247 (by kernel_rfl) (by kernel_rfl) v xT w
theorem Tryz.noIsEr(v:Value)(xT:TypeId)(w:World):(Instr.typeAssert (.iface 132 v) xT 247 true).run prog w=.ok (.tuple #[.nilIface,.bool false]) w:=run_typeAssert_lacksB underlying247 (by kernel_rfl) (by kernel_rfl) v xT w
theorem Tryz.unTr(v:Value)(xT:TypeId)(w:World):(Instr.typeAssert (.iface 166 v) xT 243 true).run prog w=.ok (.tuple #[.iface 166 v,.bool true]) w:=run_typeAssert_hasB underlying243 (by kernel_rfl) v xT w
theorem Tryz.unFa(v:Value)(xT:TypeId)(w:World):(Instr.typeAssert (.iface 128 v) xT 243 true).run prog w=.ok (.tuple #[.iface 128 v,.bool true]) w:=run_typeAssert_hasB underlying243 (by kernel_rfl) v xT w
theorem Tryz.unEr(v:Value)(xT:TypeId)(w:World):(Instr.typeAssert (.iface 132 v) xT 243 true).run prog w=.ok (.tuple #[.nilIface,.bool false]) w:=run_typeAssert_lacksB underlying243 (by kernel_rfl) (by kernel_rfl) v xT w
theorem Tryz.unsEr(v:Value)(xT:TypeId)(w:World):(Instr.typeAssert (.iface 132 v) xT 244 true).run prog w=.ok (.tuple #[.nilIface,.bool false]) w:=run_typeAssert_lacksB underlying244 (by kernel_rfl) (by kernel_rfl) v xT w
theorem Tryz.mTr (v : Value) (w : World) : (Go.method 506 166 v "Unwrap").run prog w = .ok (315, v) w := by kernel_rfl
theorem Tryz.mFa (v : Value) (w : World) : (Go.method 506 128 v "Unwrap").run prog w = .ok (311, v) w := by kernel_rfl
theorem Tryz.mCo (v : Value) (w : World) : (Go.method 506 236 v "Comparable").run prog w = .ok (321, v) w := by kernel_rfl
def qHk(w:World):Nat->Value->Nat
 |0,_=>0
 |f+1,.iface t (.pointer (some a))=>if t=166 then(match w.cell? ⟨a.block,1,none⟩with|some u=>qHk w f u+1|none=>0)else 1
 |_,_=>0
theorem qDf{w:World}{c pl:Int}:∀(m f:Nat)(v:Value),Chain w c pl m v->m<f->qHk w f v=m+1
 |0,f+1,v,⟨k,hv,_⟩,_=>by rw[hv];rfl
 |m+1,f+1,v,⟨k,t,u,hv,hb,hc⟩,h=>by
  rw[hv];show(match w.cell? ⟨k,1,none⟩with|some u=>qHk w f u+1|none=>0)=_;rw[qAS hb];show qHk w f u+1=_;rw[qDf m f u hc (by omega)]
theorem qHt(kk:Nat)(c pl:Int)(w:World)(h:w.heap[kk]? = some (.cells #[.int .i64 c,.int .i64 pl] 134 (0,0))) :
  Calls prog 311 #[.pointer (some ⟨kk,0,none⟩)] w fun e w'=>e=.returned (.iface 132 (.int .i64 c))/\w'=w:=by
 have c0:=qAJ h;go_enter func311,ntmps311
 go_wp2
 go_ret
 exact⟨rfl,rfl⟩
theorem qGY(kk:Nat)(t:ByteArray)(ty:TypeId)(x:Value)(w:World)(h:w.heap[kk]? = some (.cells #[.string t,.iface ty x] 168 (0,0))) :
  Calls prog 315 #[.pointer (some ⟨kk,0,none⟩)] w fun e w'=>e=.returned (.iface ty x)/\w'=w:=by
 have c0:=qAS h;go_enter func315,ntmps315
 go_wp2
 go_ret
 exact⟨rfl,rfl⟩
theorem qWm(n:Nat)(c pl k:Int)(v:Value)(w:World)(h:Chain w c pl n v) :
  Calls prog 110 #[v,.iface 132 (.int .i64 k),.bool true] w fun e w'=>e=.returned (.bool (c==k))/\w'=w:=by
 obtain⟨i,hi,hcmp⟩:=Option.map_eq_some_iff.1 Tryz.isComp;go_enter func110,ntmps110
 go_wp2
 go_loop [0] (fun u=>(∃m,m<=n/\Chain w c pl m u)\/u=.iface 132 (.int .i64 c)) (fun u=>qHk w (n+2) u)
 case atStart=>exact .inl ⟨n,Nat.le_refl _,h⟩
 case round =>
  have heq:=qGS (P:=prog) w c k underlying52 underlying132 hi hcmp;have hn1:=Tryz.noIsTr;have hn2:=Tryz.noIsFa;have hn3:=Tryz.noIsEr;have hu1:=Tryz.unTr;have hu2:=Tryz.unFa;have hu3:=Tryz.unEr;have hu4:=Tryz.unsEr;have hm1:=Tryz.mTr;have hm2:=Tryz.mFa;rcases hrel with⟨m,hmn,hc⟩|rfl
  ·cases m with
   |zero =>
    have hd:=qAF (qDf 0 (n+2) _ hc (by omega));obtain⟨kk,rfl,hb⟩:=hc;have hty:=run_eql_iface_types (P:=prog) 128 132 (.pointer (some ⟨kk,0,none⟩)) (.int .i64 k) underlying52 (by decide) w;go_wp2_with (go_at_call 311;refine(qHt kk c pl _ hb).mono ?_;rintro e w' ⟨rfl,rfl⟩)
    go_round
    case rel=>exact .inr rfl
    case measure=>rw[hd.out];exact Nat.succ_pos _
   |succ m =>
    have hd:=qAF (qDf (m+1) (n+2) _ hc (by omega));obtain⟨kk,t,u,rfl,hb,hc⟩:=hc;have hd2:=qAF (qDf m (n+2) _ hc (by omega));obtain⟨ty,k2,rfl⟩:=hc.shape;have hty:=run_eql_iface_types (P:=prog) 166 132 (.pointer (some ⟨kk,0,none⟩)) (.int .i64 k) underlying52 (by decide) w;go_wp2_with (go_at_call 315;refine(qGY kk t ty _ _ hb).mono ?_;rintro e w' ⟨rfl,rfl⟩)
    go_round
    case rel=>exact .inl ⟨m,by omega,hc⟩
    case measure=>rw[hd.out,hd2.out];omega
  ·cases hk:(c==k)
   ·go_wp2
    go_ret
    exact⟨rfl,rfl⟩
   ·go_wp2
    go_ret
    exact⟨rfl,rfl⟩
theorem qNU(n:Nat)(c pl k:Int)(v:Value)(w:World)(h:Chain w c pl n v) :
  Calls prog 72 #[v,.iface 132 (.int .i64 k)] w fun e w'=>e=.returned (.bool (c==k))/\w'=w:=by
 obtain⟨ty,kk,rfl⟩:=h.shape;have h8:=@run_callFunc_extern prog 109 _ Extern.ReflectliteType.typeOf func109 (by kernel_rfl) (by kernel_rfl) (by kernel_rfl) (by kernel_rfl);have h32:=@run_callFunc_extern prog 321 _ qT2 func321 (by kernel_rfl) (by kernel_rfl) (by kernel_rfl) (by kernel_rfl);have tT:=Tryz.isTypeOf;have cT:=Tryz.isComparable;have mR:=Tryz.mCo;go_enter func72,ntmps72
 go_wp2_with (go_at_call 110;refine(qWm n c pl k _ _ h).mono ?_;rintro e w' ⟨rfl,rfl⟩)
 go_ret
 exact⟨rfl,rfl⟩
open Go.RowKit
theorem BOk.fin2{b:BS}{p q:Nat}(h:BOk b p)(hq:p<=q)(hd:-(q:Int)<=b.dep-1)(ho:b.opn≠-1):BOk b.fin q:=by
 obtain⟨k,x,hk,hx⟩:=h.at ho;have hlt:k<b.els.length:=(List.getElem?_eq_some_iff.1 hx).1;have hp:=h.par k x hx;have h1:=h.opn;have h3:=h.dep;have h4:=h.elen;have h5:=h.tlen;have hfin:b.fin={ els:=b.els.set k { x with hi:=(b.txt.length:Int) },txt:=b.txt,opn:=x.parent,dep:=b.dep-1 }:=by
  unfold BS.fin;rw[hk,Int.toNat_natCast,hx];dsimp only;rw[if_neg (by omega)]
 rw[hfin];refine⟨by simp;omega,fun i y hy=>?_,by simp;omega,by simp;omega,by simp;omega⟩;by_cases e:i=k
 ·subst e;simp only[List.getElem?_set_self hlt]at hy;cases hy;exact hp
 ·simp only[List.getElem?_set_ne (fun h=>e h.symm)]at hy;exact h.par i y hy
theorem qHr(s:ByteArray):∀(l:List UInt8)(p:Nat),(qAo s l p).2=true->(qAo s l p).1=p+l.length
 |[],p,_=>rfl
 | c :: cs, p, h => by
  rw[qAo]at h ⊢;split at h
  ·rename_i hc;rw[if_pos hc,qHr s cs (p+1) h,List.length_cons];omega
  ·cases h
structure PieceOk(s:ByteArray)(p:Nat)(r:Nat×BS×Nat):Prop where
 le:p<=r.1/\r.1<=s.size
 ok:BOk r.2.1 r.1
 code:r.2.2=2\/((r.2.2=0\/r.2.2=3)/\p<r.1)
theorem qTm{s:ByteArray}{p:Nat}{b:BS}(hp:p<=s.size)(h:BOk b p):PieceOk s p (qEX s p b):=by
 have hl:=qDe s [60,62] p hp;unfold qEX;split
 ·exact⟨hl,h.mono hl.1,.inl rfl⟩
 ·rename_i t ht;have hn:=qD7 s [60,62] p t hp ht;split
  ·exact⟨hl,h.mono hl.1,.inl rfl⟩
  ·rename_i he;have:0<t.length:=by
    cases t with
    |nil=>exact absurd rfl he
    |cons _ _=>simp
   exact⟨hl,h.text t hn,.inr ⟨.inl rfl,by dsimp only;omega⟩⟩
theorem qUd{s:ByteArray}{p:Nat}{b:BS}(hp:p<=s.size)(h:BOk b p):PieceOk s p (endP s p b):=by
 by_cases ho:b.opn=-1
 ·rw[qMP ho];exact⟨⟨Nat.le_refl _,hp⟩,h,.inl rfl⟩
 ·obtain⟨k,x,hk,hx⟩:=h.at ho;rw[qHI hk hx];have l1:=qBi s [47] p hp;have l2:=qJz s x.name.data.toList (qAo s [47] p).1 l1.2;have l3:=qEn (f:=qAV) (by decide) l2.2;have l4:=qBi s [62] _ l3.2;have hd:=h.dep;split
  ·exact⟨l1,h.mono l1.1,.inl rfl⟩
  ·rename_i g1;have t1:=qHr s [47] p (by simpa using g1);simp only[List.length_singleton]at t1;split
   ·exact⟨⟨by dsimp only;omega,l2.2⟩,h.mono (by dsimp only;omega),.inl rfl⟩
   ·split
    ·exact⟨⟨by dsimp only;omega,l4.2⟩,h.mono (by dsimp only;omega),.inl rfl⟩
    ·exact⟨⟨by dsimp only;omega,l4.2⟩,h.fin2 (by dsimp only;omega) (by dsimp only;omega) ho,.inr ⟨.inl rfl,by dsimp only;omega⟩⟩
theorem qPk{s:ByteArray}{p:Nat}(h:p<=s.size):p<=qCB s p/\qCB s p<=s.size:=by
 unfold qCB;split
 ·rename_i e;have:=qAX (s:=s) (p:=p) (by omega);omega
 ·omega
theorem qMM{s:ByteArray}{p:Nat}{b:BS}{n:ByteArray}(hp:p<=s.size)(h:BOk b p)(hn:n.size<=16):PieceOk s p (qBo s p b n):=by
 have l1:=qEu s p hp;have l2:=qPk l1.2;have l3:=qBi s [62] _ l2.2;have hd:=h.dep;unfold qBo;split
 ·exact⟨l1,h.mono l1.1,.inl rfl⟩
 ·rename_i l hl;split
  ·exact⟨⟨by dsimp only;omega,l3.2⟩,h.mono (by dsimp only;omega),.inl rfl⟩
  ·rename_i g;have t1:=qHr s [62] (qCB s (qAK s p).1) (by simpa using g);simp only[List.length_singleton]at t1;have hb:=h.begin (q:=(qAo s [62] (qCB s (qAK s p).1)).1) (by omega) n l hn;refine⟨⟨by dsimp only;omega,l3.2⟩,?_,.inr ⟨by dsimp only;split<;>simp,by dsimp only;omega⟩⟩;dsimp only;split
   ·refine hb.fin2 (Nat.le_refl _) ?_ ?_
    ·show _<=b.dep+1-1;omega
    ·show(b.els.length:Int)≠-1;omega
   ·exact hb
theorem qPz{s:ByteArray}{p:Nat}{b:BS}(hp:p<=s.size)(h:BOk b p):PieceOk s p (qCn s p b):=by
 have l1:=qCX s p qAI hp;unfold qCn;split
 ·exact⟨l1,h.mono l1.1,.inl rfl⟩
 ·rename_i n hn;have:=qMM (n:=n) l1.2 (h.mono l1.1) (qFl hp hn);exact⟨⟨by have:=this.le;omega,this.le.2⟩,this.ok,by have:=this.code;omega⟩
theorem qLf{s:ByteArray}{p:Nat}{b:BS}(hp:p<=s.size)(h:BOk b p):PieceOk s p (qAW s p b):=by
 unfold qAW;split
 ·rename_i e;have hlt:p<s.size:=qAX (by omega);have lift:∀{r:Nat×BS×Nat},PieceOk s (p+1) r->PieceOk s p r:=fun k=>⟨by have:=k.le;omega,k.ok,by have:=k.code;omega⟩;split
  ·have hc:=qHf s (p+1) hlt;exact⟨⟨by dsimp only;omega,hc.2⟩,h.mono (by dsimp only;omega),by
    dsimp only;split
    ·exact .inr ⟨.inl rfl,by omega⟩
    ·exact .inl rfl⟩
  ·split
   ·exact lift (qUd hlt (h.mono (by omega)))
   ·exact lift (qPz hlt (h.mono (by omega)))
 ·exact qTm hp h
def qAr(s:ByteArray):Nat->Nat->BS->Bool->Nat×BS×Nat
 |0,p,b,_=>(p,b,2)
 |f+1,p,b,lim =>
  if p=s.size then(if b.opn=-1 then(p,b,if lim=true then 3 else 0)else(p,b,2))
  else if (qAW s p b).2.2=2 then qAW s p b
  else qAr s f (qAW s p b).1 (qAW s p b).2.1 (lim||(qAW s p b).2.2==3)
def Lim(w:World)(lim:Bool)(v:Value):Prop:=(lim=false/\v=.nilIface)\/(lim=true/\∃n,Chain w 3 0 n v)
theorem qPG(B rb bb:Nat)(s:ByteArray)(p:Nat)(b:BS)(w:World)(h:Rd w rb s p)(hB:B<=rb)(hBb:B<=bb)(hg:Gl w)(hB0:1<B)(hbd:Bd w B bb b)(hok:BOk b p) :
  Calls prog 85 #[.agg #[.pointer (some ⟨rb,0,none⟩),.pointer (some ⟨bb,0,none⟩)]] w fun e w'=>∃v,e=.returned v/\Ends w w' B rb bb s (qAr s (s.size+1) p b false) v:=by
 have h5:=h.max;have h4:=h.le;go_enter func85,ntmps85
 go_wp2
 go_loopw [3] (fun v wr=>∃(q f:Nat)(c:BS)(lim:Bool),Rd wr rb s q/\s.size<q+f/\Bd wr B bb c/\BOk c q/\Lim wr lim v/\wr.heap[w.heap.size]? = some (.cells #[.pointer (some ⟨rb,0,none⟩),.pointer (some ⟨bb,0,none⟩)] 163 (0,0))/\Hid (qAr s f q c lim=qAr s (s.size+1) p b false)/\Kp B TP w wr) (fun _ wr=>s.size-placeOf wr rb)
 case atStart=>exact⟨p,s.size+1,b,false,h.alloc _,by omega,hbd.alloc _,hok,.inl ⟨rfl,rfl⟩,qAE _ _,rfl,(Kp.refl _ _ _).alloc _⟩
 case round =>
  obtain⟨q,f,c,lim,hr,hf,hbc,hokc,hlim,hbx,HQ,hk⟩:=hrel;have b0:=qAJ hbx;have b1:=qAS hbx;have hgr:=hg.kept hk hB0;have g4:=hr.le;obtain⟨f,rfl⟩:∃f',f=f'+1:=⟨f-1,by omega⟩;by_cases he:q=s.size
  ·have HEq:=qAF he;by_cases ho:c.opn=-1
   ·have HE:Hid (qAr s (s.size+1) p b false=(q,c,if lim=true then 3 else 0)):=by rw[<-HQ.out,qAr,if_pos he,if_pos ho];rfl
    have HO:=qAF ho;clear he ho;rcases hlim with⟨rfl,rfl⟩|⟨rfl,n,hc⟩
    ·go_wp2_with (first
      |(go_at_call 94;refine(qFb rb s q _ hr HEq.out).mono ?_;rintro e w1 ⟨rfl,nq,rfl⟩)
      |(go_at_call 121;refine(qJj B bb c _ (hbc.drewN _) HO.out).mono ?_;rintro e w2 ⟨rfl,rfl⟩))
     go_ret
     rw[HE.out];exact⟨_,rfl,hr.drewN _,hbc.drewN _,hk.drewN _,.inl ⟨rfl,rfl⟩⟩
    ·obtain⟨ty,kk,rfl⟩:=hc.shape;go_wp2_with (first
      |(go_at_call 94;refine(qFb rb s q _ hr HEq.out).mono ?_;rintro e w1 ⟨rfl,nq,rfl⟩)
      |(go_at_call 121;refine(qJj B bb c _ (hbc.drewN _) HO.out).mono ?_;rintro e w2 ⟨rfl,rfl⟩))
     go_ret
     rw[HE.out];exact⟨_,rfl,hr.drewN _,hbc.drewN _,hk.drewN _,.inr (.inr ⟨rfl,n,hc.drewN _⟩)⟩
   ·have HE:Hid (qAr s (s.size+1) p b false=(q,c,2)):=by rw[<-HQ.out,qAr,if_pos he,if_neg ho];rfl
    obtain⟨k,x,hk1,hx⟩:=hokc.at ho;have hnm:=(hokc.par k x hx).2.2;have hel:=hokc.elen;have HK:=qAF hk1;have HX:=qAF hx;clear he ho hk1 hx;go_wp2_with fail
    refine(qFb rb s q _ hr HEq.out).mono ?_;rintro e w1⟨rfl,nq,rfl⟩;go_wp2_with fail
    refine(qKv B bb c k x _ (hbc.drewN _) HK.out HX.out (by omega)).mono ?_;rintro e w2⟨rfl,nq2,rfl⟩;go_wp2_with fail
    refine(qBB B rb s q _ (hr.drewN _)).mono ?_;rintro e w3⟨v,rfl,hc,hr3,hk3⟩;have E3:Ends w w3 B rb bb s (qAr s (s.size+1) p b false) v:=by
     rw[HE.out];exact⟨hr3,(hbc.drewN _).keptR hk3,(hk.drewN _).trans (kpR hk3),.inr (.inl ⟨rfl,0,hc⟩)⟩
    obtain⟨ty,kk,rfl⟩:=hc.shape;go_wp2_with fail
    refine(qCt _ B rb bb s _ _ w _ E3).mono ?_;rintro e w4⟨u,rfl,E4⟩;go_wp2
    go_ret
    exact⟨_,rfl,E4⟩
  ·have hlt:q<s.size:=by omega
   have hpo:=qLf g4 hokc;have hle:=hpo.le;have hcode:=hpo.code;have hokp:=hpo.ok;clear hpo;by_cases h2:(qAW s q c).2.2=2
   ·have HE:Hid (qAr s (s.size+1) p b false=qAW s q c):=by rw[<-HQ.out,qAr,if_neg he,if_pos h2];rfl
    have H2:=qAF h2;clear he h2 hcode;go_wp2_with fail
    refine(qHm rb s q _ hr hlt).mono ?_;rintro e w1⟨rfl,nq,rfl⟩;go_wp2_with fail
    refine(qLg B rb bb s q c _ (hr.drewN _) hB hBb (hgr.drewN _) hB0 (hbc.drewN _) hokc).mono ?_;rintro e w2⟨v,rfl,E2⟩;have E3:=E2.from (hk.drewN nq)
    rw[<-HE.out]at E3;have hch:∃n,Chain w2 2 (qAW s q c).1 n v:=by
     rcases E2.2.2.2 with⟨g,_⟩|⟨_,g⟩|⟨g,_⟩
     ·exact absurd (g.symm.trans H2.out) (by decide)
     ·exact g
     ·exact absurd (g.symm.trans H2.out) (by decide)
    obtain⟨n,hc⟩:=hch;obtain⟨ty,kk,rfl⟩:=hc.shape;clear E2;go_wp2_with fail
    refine(qNU n 2 _ 3 _ _ hc).mono ?_;rintro e w4⟨rfl,rfl⟩;go_wp2
    go_ret
    exact⟨_,rfl,E3⟩
   ·have HE:Hid (qAr s (s.size+1) p b false=qAr s f (qAW s q c).1 (qAW s q c).2.1 (lim||(qAW s q c).2.2==3)):=by rw[<-HQ.out,qAr,if_neg he,if_neg h2];rfl
    have hadv:q<(qAW s q c).1:=by omega
    have H2:=qAF h2;clear he h2 hcode;go_wp2_with fail
    refine(qHm rb s q _ hr hlt).mono ?_;rintro e w1⟨rfl,nq,rfl⟩;go_wp2_with fail
    refine(qLg B rb bb s q c _ (hr.drewN _) hB hBb (hgr.drewN _) hB0 (hbc.drewN _) hokc).mono ?_;rintro e w2⟨v,rfl,E2⟩;obtain⟨er,eb,ek,ee⟩:=E2;have K2:=(hk.drewN nq).trans ek;have bx2:=ek.at hbx (by decide);have lim2:Lim w2 lim u3:=by
     rcases hlim with⟨a,b⟩|⟨a,n,hc⟩
     ·exact .inl ⟨a,b⟩
     ·exact .inr ⟨a,n,(hc.drewN nq).kept ek (by decide) (by decide)⟩
    rcases ee with⟨g,rfl⟩|⟨g,_⟩|⟨g,n,hc⟩
    ·have G:=qAF g;clear g;go_wp2_with fail
     refine(qVs 3 _).mono ?_;rintro e w4⟨rfl,rfl⟩;go_wp2
     go_roundw
     case rel =>
      refine⟨_,f,_,lim,er,by omega,eb,hokp,lim2,bx2,qAF ?_,K2⟩;rw[HE.out,G.out];simp
     case measure=>rw[er.placeOf,hr.placeOf];omega
    ·exact absurd g H2.out
    ·have G:=qAF g;clear g;obtain⟨ty,kk,rfl⟩:=hc.shape;go_wp2_with fail
     refine(qNU n 3 0 3 _ _ hc).mono ?_;rintro e w4⟨rfl,rfl⟩;go_wp2
     go_roundw
     case rel =>
      refine⟨_,f,_,true,er,by omega,eb,hokp,.inr ⟨rfl,n,hc⟩,bx2,qAF ?_,K2⟩;rw[HE.out,G.out];simp
     case measure=>rw[er.placeOf,hr.placeOf];omega
def b0:BS:=⟨[],[],-1,0⟩
def qAs(s:ByteArray):Nat×BS×Nat:=qAr s (s.size+1) 0 b0 false
theorem qUa:BOk b0 0:=⟨by simp[b0],by intro i x h;simp[b0]at h,by simp[b0],by simp[b0],by simp[b0]⟩
def Dc(w:World)(B db:Nat)(b:BS):Prop :=
 ∃(ve:Value)(avs:List Value),w.heap[db]? = some (.cells #[ve,.string ⟨b.txt.toArray⟩] 87 (0,0))/\avs.length=b.els.length /\
  w.ownsRow B 139 5 ve b.els.length (qBd b.els avs)/\∀(i:Nat)(x:El)(a:Value),b.els[i]? = some x->avs[i]? = some a->w.ownsRow B 169 2 a x.attrs.length (attrCells x.attrs)
theorem qTI(s:ByteArray)(w:World)(hs:s.size<=2000)(hg:Gl w) :
  Calls prog 53 #[.string s] w fun e w'=>∃(tv v:Value),e=.returned (.tuple #[tv,v])/\Below w.heap.size w w' /\
   (((qAs s).2.2=0/\v=.nilIface/\∃tb,tv=.pointer (some ⟨tb,0,none⟩)/\Tr w' w.heap.size tb (qAs s).2.1) \/
    ((qAs s).2.2=2/\tv=.pointer none/\∃n,Chain w' 2 (qAs s).1 n v)\/((qAs s).2.2=3/\tv=.pointer none/\∃n,Chain w' 3 0 n v)):=by
 have h0:1<w.heap.size:=by obtain⟨t,fr,h⟩:=hg;exact lt_of_block h
 have h1:Rd (w.alloc (.cells #[.string s,.int .i64 0] 210)) w.heap.size s 0:=⟨qAE _ _,Nat.zero_le _,hs⟩;have h2:Bd ((w.alloc (.cells #[.string s,.int .i64 0] 210)).alloc (.cells #[.slice none 0 0,.slice none 0 0,.int .i64 (-1),.int .i64 0] 212)) w.heap.size (w.heap.size+1) b0 :=
  ⟨_,_,[],qAm _ (by simp),rfl,World.ownsRow_nil _ _ _ _,World.ownsRow_nil _ _ _ _,by intro i x a hx;simp[b0]at hx⟩
 have HS:=qAF hs;go_enter func53,ntmps53
 go_wp2_with fail
 refine(qFm s _).mono ?_;rintro e w1⟨rfl,rfl⟩;go_wp2_with fail
 refine(qIk _).mono ?_;rintro e w2⟨rfl,rfl⟩;go_wp2_with fail
 refine(qPG w.heap.size w.heap.size (w.heap.size+1) s 0 b0 _ ((h1.alloc _).alloc _) (Nat.le_refl _) (by omega) (((hg.alloc _).alloc _).alloc _) h0 (h2.alloc _) qUa).mono ?_;rintro e w3⟨v,rfl,E3⟩;obtain⟨er,eb,ek,ee⟩:=E3;have K3:=((((Kp.refl w.heap.size TP w).alloc _).alloc _).alloc _).trans ek;have bx3:=ek.at (qAm (n:=w.heap.size+1+1) _ (by simp)) (by decide);have c1:=qAS bx3;rcases ee with⟨g,rfl⟩|⟨g,n,hc⟩|⟨g,n,hc⟩
 ·have G:=qAF g;clear g;go_wp2_with fail
  refine(qP5 w.heap.size (w.heap.size+1) _ _ eb).mono ?_;rintro e w4⟨tb,rfl,htr,hle,hk4⟩;go_wp2
  go_ret2
  exact⟨_,_,rfl,(K3.trans (kp0 hk4)).below (Nat.le_refl _),.inl ⟨G.out,rfl,tb,rfl,htr⟩⟩
 ·have G:=qAF g;clear g;obtain⟨ty,kk,rfl⟩:=hc.shape;go_wp2
  go_ret2
  exact⟨_,_,rfl,K3.below (Nat.le_refl _),.inr (.inl ⟨G.out,rfl,n,hc⟩)⟩
 ·have G:=qAF g;clear g;obtain⟨ty,kk,rfl⟩:=hc.shape;go_wp2
  go_ret2
  exact⟨_,_,rfl,K3.below (Nat.le_refl _),.inr (.inr ⟨G.out,rfl,n,hc⟩)⟩
theorem qRK(s:ByteArray)(w:World)(hs:2000<s.size)(hm:s.size<=140737488351232) :
  Calls prog 53 #[.string s] w fun e w'=>∃v,e=.returned (.tuple #[.pointer none,v])/\Below w.heap.size w w'/\Chain w' 1 0 0 v:=by
 go_enter func53,ntmps53
 go_wp2
 go_ret2
 exact⟨_,rfl,(Below.refl _ _).alloc (Nat.le_refl _) _,_,rfl,qAE _ _⟩
def qPi(w:World)(c pl:Int)(v:Value):Prop:=∃k u n,v=.iface 107 (.pointer (some ⟨k,0,none⟩))/\w.heap[k]? = some (.cells #[u] 110 (0,0))/\Chain w c pl n u
def qD4(s:ByteArray):Nat:=if 2000<s.size then 1 else(qAs s).2.2
def qLh(s:ByteArray):Nat:=if 2000<s.size then 0 else if (qAs s).2.2=2 then(qAs s).1 else 0
theorem qRC(s:ByteArray)(w:World)(hm:s.size<=140737488351232)(hg:Gl w) :
  Calls prog 21 #[.string s] w fun e w'=>Below w.heap.size w w' /\
   ((qD4 s=0/\∃db,e=.returned (.tuple #[.pointer (some ⟨db,0,none⟩),.nilIface])/\w.heap.size<=db/\Dc w' w.heap.size db (qAs s).2.1) \/
    (qD4 s≠0/\∃v,e=.returned (.tuple #[.pointer none,v])/\qPi w' (qD4 s:Int) (qLh s:Int) v)):=by
 by_cases hs:2000<s.size
 ·have hcp:qD4 s=1:=by unfold qD4;rw[if_pos hs]
  have hpp:qLh s=0:=by unfold qLh;rw[if_pos hs]
  have HC:=qAF hcp;have HP:=qAF hpp;clear hcp hpp;go_enter func21,ntmps21
  go_wp2_with fail
  refine(qRK s _ hs hm).mono ?_;rintro e w1⟨v,rfl,hb1,hc⟩;obtain⟨ty,kk,rfl⟩:=hc.shape;go_wp2_with fail
  refine(qA9 w.heap.size [] _ _ _ _ _ _ hc).mono ?_;rintro e w2⟨u,rfl,hc2,hk2⟩;have hb2:=hb1.trans (hk2.below (by have:=hb1.size;exact this));obtain⟨ty2,kk2,rfl⟩:=hc2.shape;go_wp2
  go_ret2
  refine⟨hb2.alloc (by have:=hb2.size;exact this) _,.inr ⟨by rw[HC.out];decide,_,rfl,?_⟩⟩;rw[HC.out,HP.out];exact⟨_,_,_,rfl,qAE _ _,hc2.alloc _⟩
 ·have hcp:qD4 s=(qAs s).2.2:=by unfold qD4;rw[if_neg hs]
  have hpp:qLh s=if (qAs s).2.2=2 then(qAs s).1 else 0:=by unfold qLh;rw[if_neg hs]
  have HC:=qAF hcp;have HP:=qAF hpp;clear hcp hpp;go_enter func21,ntmps21
  go_wp2_with fail
  refine(qTI s _ (by omega) hg).mono ?_;rintro e w1⟨tv,v,rfl,hb1,hor⟩;have hsz:=hb1.size;rcases hor with⟨g,rfl,tb,rfl,ve,avs,a1,a2,a3,a5⟩|⟨g,rfl,n,hc⟩|⟨g,rfl,n,hc⟩
  ·have G:=qAF g;clear g;have c0:=qAJ a1;have c1:=qAS a1;obtain⟨aoe,cpe,hve⟩:=qBA a3;subst hve;have A2:=qAF a2;have A3:=qAF a3;have A5:=qAF a5;clear a1 a2 a3 a5;go_wp2
   go_ret2
   refine⟨hb1.alloc hsz _,.inl ⟨by rw[HC.out];exact G.out,_,rfl,hsz,_,avs,qAE _ _,A2.out,A3.out.alloc _,fun i x a hx ha=>(A5.out i x a hx ha).alloc _⟩⟩
  ·have G:=qAF g;clear g;obtain⟨ty,kk,rfl⟩:=hc.shape;go_wp2_with fail
   refine(qA9 w.heap.size [] _ _ _ _ _ _ hc).mono ?_;rintro e w2⟨u,rfl,hc2,hk2⟩;have hb2:=hb1.trans (hk2.below hsz);obtain⟨ty2,kk2,rfl⟩:=hc2.shape;go_wp2
   go_ret2
   refine⟨hb2.alloc (by have:=hb2.size;exact this) _,.inr ⟨by rw[HC.out,G.out];decide,_,rfl,?_⟩⟩;rw[HC.out,HP.out,if_pos G.out,G.out];exact⟨_,_,_,rfl,qAE _ _,hc2.alloc _⟩
  ·have G:=qAF g;clear g;obtain⟨ty,kk,rfl⟩:=hc.shape;go_wp2_with fail
   refine(qA9 w.heap.size [] _ _ _ _ _ _ hc).mono ?_;rintro e w2⟨u,rfl,hc2,hk2⟩;have hb2:=hb1.trans (hk2.below hsz);obtain⟨ty2,kk2,rfl⟩:=hc2.shape;go_wp2
   go_ret2
   refine⟨hb2.alloc (by have:=hb2.size;exact this) _,.inr ⟨by rw[HC.out,G.out];decide,_,rfl,?_⟩⟩;rw[HC.out,HP.out,if_neg (by rw[G.out];decide),G.out];exact⟨_,_,_,rfl,qAE _ _,hc2.alloc _⟩
