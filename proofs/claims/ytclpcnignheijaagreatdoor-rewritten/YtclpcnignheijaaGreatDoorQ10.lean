/-
  Parts of the proof: F1, F2, F3, F4, F5, DA, DB, DC, DD, DE.
-/
import Derived.Test.YtclpcnignheijaaGreatDoorQ9
namespace Go.Proofs.YtclpcnignheijaaGreatDoor
open Go.RowKit
def At(s:ByteArray)(p:Nat)(l:List UInt8):Prop:=s.data.toList.drop p=l/\p+l.length=s.size
def okU(c:UInt8):Bool:=qCK (c.toNat:Int)
theorem At.peek{s:ByteArray}{p:Nat}{c:UInt8}{r:List UInt8}(h:At s p (c::r))(hc:okU c=true):qAC s p=(c.toNat:Int):=by
 have hlt:p<s.size:=by have:=h.2;simp at this;omega
 have hb:qE7 s p=(c.toNat:Int):=by
  rw[qHd s p hlt];have:=qFc hlt;rw[h.1]at this;rw[(List.cons.inj this).1]
 unfold qAC;rw[hb,if_pos ⟨hlt,hc⟩]
theorem At.step{s:ByteArray}{p:Nat}{c:UInt8}{r:List UInt8}(h:At s p (c::r)):At s (p+1) r:=by
 refine⟨?_,by have:=h.2;simp at this;omega⟩;rw[<-List.drop_drop,h.1];rfl
theorem At.skip{s:ByteArray}:∀{l r:List UInt8}{p:Nat},At s p (l++r)->At s (p+l.length) r
 |[],r,p,h=>h
 |c::l,r,p,h=>by
  have:=At.skip (l:=l) (At.step h);rw[List.length_cons,show p+(l.length+1)=p+1+l.length from by omega];exact this
theorem At.end_{s:ByteArray}{p:Nat}(h:At s p []):p=s.size:=by have:=h.2;simpa using this
theorem At.endPeek{s:ByteArray}{p:Nat}(h:At s p []):qAC s p=0:=by
 unfold qAC;rw[if_neg];have:=h.end_;omega
theorem qEA{s:ByteArray}:∀{l r:List UInt8}{p:Nat},At s p (l++r)->(∀c∈l,okU c=true/\(c.toNat:Int)≠0)->qAo s l p=(p+l.length,true)
 |[],r,p,_,_=>rfl
 |c::l,r,p,h,hc=>by
  have h1:=hc c (List.mem_cons_self ..);rw[qAo,if_pos ⟨h1.2,At.peek h h1.1⟩,qEA (l:=l) (At.step h) (fun d hd=>hc d (List.mem_cons_of_mem _ hd)),List.length_cons];congr 1;omega
def qXF(ends:List UInt8)(c:UInt8)(e:List UInt8):Prop:=(e=[c]/\okU c=true/\inB ends (c.toNat:Int)=false/\c≠38)\/(e=refW c/\(c=38\/c=60\/c=62\/c=34))
def qTx(ends:List UInt8):List UInt8->List UInt8->Prop
 |[],e=>e=[]
 |c::l,e=>∃e1 e2,e=e1++e2/\qXF ends c e1/\qTx ends l e2
theorem qH6{c:UInt8}(h:okU c=true):(c.toNat:Int)≠0:=by
 intro e;unfold okU at h;rw[e]at h
 revert h;decide
theorem qUG{s:ByteArray}{p:Nat}{r:List UInt8}(c:UInt8)(hc:c=38\/c=60\/c=62\/c=34)(h:At s p (refW c++r)) :
  qAC s p=38/\qFu s (p+1)=(p+(refW c).length,some (c.toNat:Int))/\At s (p+(refW c).length) r:=by
 have hs:=At.skip h;rcases hc with rfl|rfl|rfl|rfl
 ·have h1:At s p (38::([97,109,112,59]++r)):=h;have h2:=At.step h1;refine⟨At.peek h1 (by decide),?_,hs⟩;have e:=qEA (l:=[97,109,112,59]) h2 (by decide);have pk:=At.peek (c:=97) (r:=[109,112,59]++r) h2 (by decide);show qDy s (p+1) refsL=_;rw[refsL,qDy,if_pos (by rw[pk];rfl),e];rfl
 ·have h1:At s p (38::([108,116,59]++r)):=h;have h2:=At.step h1;refine⟨At.peek h1 (by decide),?_,hs⟩;have e:=qEA (l:=[108,116,59]) h2 (by decide);have pk:=At.peek (c:=108) (r:=[116,59]++r) h2 (by decide);show qDy s (p+1) refsL=_;rw[refsL,qDy,if_neg (by rw[pk];decide),qDy,if_pos (by rw[pk];rfl),e];rfl
 ·have h1:At s p (38::([103,116,59]++r)):=h;have h2:=At.step h1;refine⟨At.peek h1 (by decide),?_,hs⟩;have e:=qEA (l:=[103,116,59]) h2 (by decide);have pk:=At.peek (c:=103) (r:=[116,59]++r) h2 (by decide);show qDy s (p+1) refsL=_;rw[refsL,qDy,if_neg (by rw[pk];decide),qDy,if_neg (by rw[pk];decide),qDy,if_pos (by rw[pk];rfl),e];rfl
 ·have h1:At s p (38::([113,117,111,116,59]++r)):=h;have h2:=At.step h1;refine⟨At.peek h1 (by decide),?_,hs⟩;have e:=qEA (l:=[113,117,111,116,59]) h2 (by decide);have pk:=At.peek (c:=113) (r:=[117,111,116,59]++r) h2 (by decide);show qDy s (p+1) refsL=_;rw[refsL,qDy,if_neg (by rw[pk];decide),qDy,if_neg (by rw[pk];decide),qDy,if_neg (by rw[pk];decide),qDy,if_pos (by rw[pk];rfl),e];rfl
theorem qJs{s:ByteArray}{ends:List UInt8}(h38:inB ends 38=false):∀(l e r:List UInt8)(d:UInt8)(p f:Nat)(acc:List UInt8),qTx ends l e->At s p (e++d::r)->okU d=true->inB ends (d.toNat:Int)=true->l.length<f->qB3 s ends f p acc=(p+e.length,some (acc++l))
 |[],e,r,d,p,f,acc,he,h,hd,hde,hf=>by
  cases he;obtain⟨f,rfl⟩:∃f',f=f'+1:=⟨f-1,by simp at hf;omega⟩;rw[qB3,if_pos (.inr (by rw[At.peek h hd];exact hde))];simp
 | c :: l, e, r, d, p, f, acc, ⟨e1, e2, he, hb, hl⟩, h, hd, hde, hf => by
  subst he;obtain⟨f,rfl⟩:∃f',f=f'+1:=⟨f-1,by simp at hf;omega⟩;have hf':l.length<f:=by simp at hf;omega
  rw[List.append_assoc]at h;have hcc:((c.toNat:Int)).toNat.toUInt8=c:=UInt8.toNat_inj.1 (by rw[Int.toNat_natCast,Nat.toUInt8,UInt8.toNat_ofNat'];have:=c.toNat_lt;omega);rcases hb with⟨rfl,hok,hne,h3⟩|⟨rfl,h4⟩
  ·have pk:=At.peek (c:=c) (r:=e2++d::r) h hok;have h38':(c.toNat:Int)≠38:=fun h=>h3 (UInt8.toNat_inj.1 (by show c.toNat=38;omega));rw[qB3,pk,if_neg (fun h=>by rcases h with h|h;exact qH6 hok h;rw[hne]at h;cases h),if_neg h38',hcc];rw[qJs h38 l e2 r d (p+1) f (acc++[c]) hl (At.step h) hd hde hf'];simp;omega
  ·obtain⟨pk,rf,nx⟩:=qUG c h4 h;rw[qB3,pk,if_neg (by rw[h38];decide),if_pos rfl,rf];dsimp only;rw[hcc,qJs h38 l e2 r d _ f (acc++[c]) hl nx hd hde hf'];simp;omega
def smU(c:UInt8):Bool:=decide (97<=c.toNat)&&decide (c.toNat<=122)
theorem qDa{c:UInt8}(h:smU c=true):okU c=true/\qBY (c.toNat:Int)=true/\qBP (c.toNat:Int)=true/\qCS c=c:=by
 unfold smU at h;simp only[Bool.and_eq_true,decide_eq_true_eq]at h;have h1:qBY (c.toNat:Int)=true:=by unfold qBY;simp;omega
 refine⟨by unfold okU qCK;simp;omega,h1,by unfold qBP;rw[h1];rfl,by unfold qCS;rw[if_neg (by omega)]⟩
theorem qTq{s:ByteArray}{p:Nat}{l e r:List UInt8}(h:At s p (34::(e++34::r)))(he:qTx [60,34] l e)(hl:l.length<=s.size):qBW s p=(p+e.length+2,some l):=by
 have x1:=qEA (l:=[34]) (r:=e++34::r) h (by decide);have h1:=At.step h;have x2:qAU s [60,34] (p+1)=(p+1+e.length,some l):=by
  have:=qJs (s:=s) (ends:=[60,34]) (by decide) l e r 34 (p+1) (s.size+1) [] he h1 (by decide) (by decide) (by omega);unfold qAU;simpa using this
 have h2:=At.skip h1;have x3:=qEA (l:=[34]) (r:=r) h2 (by decide);simp only[List.length_singleton]at x1 x3;unfold qBW;simp only[x1,x2,x3];simp;omega
theorem qN4{s:ByteArray}{p:Nat}{d:UInt8}{r:List UInt8}(h:At s p (32::d::r))(hd:okU d=true)(hn:qAV (d.toNat:Int)=false):qBM qAV s p=p+1:=by
 rw[qFx (by decide) (by rw[At.peek h (by decide)];decide)];exact qCO (by rw[At.peek (At.step h) hd];exact hn)
theorem qO3{s:ByteArray}{p:Nat}{d:UInt8}{r:List UInt8}(h:At s p (d::r))(hd:okU d=true)(hn:qAV (d.toNat:Int)=false):qBM qAV s p=p:=qCO (by rw[At.peek h hd];exact hn)
theorem At.lt{s:ByteArray}{p:Nat}{c:UInt8}{r:List UInt8}(h:At s p (c::r)):p≠s.size:=by have:=h.2;simp at this;omega
theorem qDr{s:ByteArray}{f p q:Nat}{b b':BS}{lim:Bool}(hp:p≠s.size)(h:qAW s p b=(q,b',0)):qAr s (f+1) p b lim=qAr s f q b' lim:=by
 rw[qAr,if_neg hp,h,if_neg (show ¬(0:Nat)=2 from by decide)];simp
theorem qMi{s:ByteArray}{p:Nat}{c:UInt8}{r:List UInt8}{b:BS}(h:At s p (60::c::r))(hc:smU c=true):qAW s p b=qCn s (p+1) b:=by
 have f:=qDa hc;have p0:qAC s p=60:=At.peek h (by decide);have p1:=At.peek (At.step h) f.1;unfold smU at hc;simp only[Bool.and_eq_true,decide_eq_true_eq]at hc;unfold qAW;rw[if_pos p0,if_neg (by rw[p1];omega),if_neg (by rw[p1];omega)]
theorem qSm{l e:List UInt8}{c:UInt8}(he:qTx [60,62] (c::l) e):∃d r,e=d::r/\okU d=true/\(d.toNat:Int)≠60:=by
 obtain⟨e1,e2,rfl,hb,_⟩:=he;rcases hb with⟨rfl,hok,hne,_⟩|⟨rfl,h4⟩
 ·refine⟨c,e2,rfl,hok,fun h=>?_⟩;rw[h]at hne;revert hne;decide
 ·rcases h4 with rfl|rfl|rfl|rfl<;>exact⟨38,_,rfl,by decide,by decide⟩
theorem qT9{ends:List UInt8}{c:UInt8}(h:∀d∈ends,c≠d):inB ends (c.toNat:Int)=false:=by
 unfold inB;rw[List.any_eq_false];intro d hd;simp only[beq_iff_eq];intro e;exact h d hd (UInt8.toNat_inj.1 (by omega))
theorem qMO(ends sp:List UInt8)(h38:(38:UInt8)∈sp)(hes:∀d∈ends,d∈sp)(hsp:∀d∈sp,d=38\/d=60\/d=62\/d=34):∀l:List UInt8,(∀c∈l,okU c=true)->qTx ends l (qBp sp l)
 |[],_=>rfl
 | c :: l, h => by
  refine⟨qC8 sp c,qBp sp l,by simp[qBp],?_,qMO ends sp h38 hes hsp l (fun d hd=>h d (List.mem_cons_of_mem _ hd))⟩;by_cases hc:c∈sp
  ·have hi:inB sp (c.toNat:Int)=true:=by unfold inB;rw[List.any_eq_true];exact⟨c,hc,by simp⟩
   refine .inr ⟨by unfold qC8;rw[if_pos hi],hsp c hc⟩
  ·have hi:inB sp (c.toNat:Int)=false:=qT9 (fun d hd e=>hc (e▸hd));refine .inl ⟨by unfold qC8;rw[hi,if_neg Bool.false_ne_true],h c (List.mem_cons_self ..),qT9 (fun d hd e=>hc (e▸hes d hd)),fun e=>hc (e▸h38)⟩
theorem qGG{b:BS}{a:Int}(f:Nat)(o:List UInt8)(n:Nat):qBO b a f ⟨o,n,a⟩=some ⟨o,n,a⟩:=by
 cases f<;>rw[qBO,if_pos rfl]
inductive Ev where
 |text (t:List UInt8)
 |opens (n:ByteArray) (l:List (ByteArray×ByteArray))
 |void (n:ByteArray) (l:List (ByteArray×ByteArray))
 |fin
def Ev.run(b:BS):Ev->BS
 |.text t=>b.text t
 |.opens n l=>b.begin n l
 |.void n l=>(b.begin n l).fin
 |.fin=>b.fin
def qKi:BS->List Ev->BS
 |b,[]=>b
 |b,e::es=>qKi (e.run b) es
def qLU(b:BS):ByteArray:=match b.els[b.opn.toNat]? with|some x=>x.name|none=>⟨#[]⟩
def qFO(n:ByteArray)(l:List (ByteArray×ByteArray)):List UInt8:=[60]++n.data.toList++qAh l++[62]
def qJy(n:ByteArray):List UInt8:=[60,47]++n.data.toList++[62]
def Ev.out(b:BS):Ev->List UInt8
 |.text t=>qBp tsp t
 |.opens n l=>qFO n l
 |.void n l=>qFO n l
 |.fin=>qJy (qLU b)
def qDx:BS->List Ev->List UInt8
 |_,[]=>[]
 |b,e::es=>e.out b++qDx (e.run b) es
inductive Chn (els:List El):Int->List Nat->Prop
 |nil:Chn els (-1) []
 |cons {k:Nat} {x:El} {l:List Nat} (hx:els[k]? = some x) (hp:x.parent<(k:Int)) (h:Chn els x.parent l):Chn els (k:Int) (k::l)
theorem Chn.mono{els els':List El}(hm:∀(k:Nat)(x:El),els[k]? = some x->∃x',els'[k]? = some x'/\x'.parent=x.parent){o:Int}{l:List Nat}(h:Chn els o l):Chn els' o l:=by
 induction h with
 |nil=>exact .nil
 |@cons k x l hx hp _ ih =>
  obtain⟨x',h1,h2⟩:=hm k x hx;exact .cons h1 (by rw[h2];exact hp) (by rw[h2];exact ih)
theorem Chn.lt{els:List El}{o:Int}{l:List Nat}(h:Chn els o l):-1<=o/\o<els.length/\∀k∈l,(k:Int)<=o:=by
 induction h with
 |nil=>exact⟨by omega,by omega,by simp⟩
 |@cons k x l hx hp _ ih =>
  have:=(List.getElem?_eq_some_iff.1 hx).1;refine⟨by omega,by omega,fun j hj=>?_⟩;rcases List.mem_cons.1 hj with rfl|hj
  ·omega
  ·have:=ih.2.2 j hj;omega
def qR9(c:UInt8):Bool:=smU c||(decide (48<=c.toNat)&&decide (c.toNat<=57))||c==45
def NmOk(n:ByteArray):Prop:=∃c r,n.data.toList=c::r/\smU c=true/\(∀d∈r,qR9 d=true)/\r.length<16
def AtsOk(l:List (ByteArray×ByteArray)):Prop:=∀pre x post,l=pre++x::post->NmOk x.1/\(∀c∈x.2.data.toList,okU c=true)/\hasN pre x.1=false
structure Bw(b:BS)(ch:List Nat):Prop where
 chn:Chn b.els b.opn ch
 dep:b.dep=(ch.length:Int)
 nm:∀k∈ch,∀x,b.els[k]? = some x->qEs x.name=false/\NmOk x.name
def okE(b:BS)(ch:List Nat):Ev->Prop
 |.text t=>t≠[]/\∀c∈t,okU c=true
 |.opens n l=>NmOk n/\qEs n=false/\AtsOk l/\b.els.length<100/\ch.length<12
 |.void n l=>NmOk n/\qEs n=true/\AtsOk l/\b.els.length<100/\ch.length<12
 |.fin=>ch≠[]
def chN(b:BS)(ch:List Nat):Ev->List Nat
 |.text _=>ch
 |.opens _ _=>b.els.length::ch
 |.void _ _=>ch
 |.fin=>ch.tail
def VE:BS->List Nat->List Ev->Prop
 |_,ch,[]=>ch=[]
 |b,ch,e::es=>okE b ch e/\VE (e.run b) (chN b ch e) es
theorem qND(b:BS)(n:ByteArray)(l:List (ByteArray×ByteArray)){k:Nat}{x:El}(h:b.els[k]? = some x):(b.begin n l).els[k]? = some x:=by
 have:=(List.getElem?_eq_some_iff.1 h).1;show(b.els++[_])[k]? = _;rw[List.getElem?_append_left this];exact h
theorem qD2(b:BS)(n:ByteArray)(l:List (ByteArray×ByteArray)):(b.begin n l).els[b.els.length]? = some ⟨n,b.opn,l,(b.txt.length:Int),0⟩:=by
 show(b.els++[_])[b.els.length]? = _;simp
theorem qT4{b:BS}{k:Nat}{x:El}(ho:b.opn=(k:Int))(hx:b.els[k]? = some x):b.fin=⟨b.els.set k { x with hi:=(b.txt.length:Int) },b.txt,x.parent,b.dep-1⟩:=by
 unfold BS.fin;rw[ho];simp only[Int.toNat_natCast,hx];rw[if_neg (by omega)]
theorem Bw.begin{b:BS}{ch:List Nat}(h:Bw b ch)(n:ByteArray)(l:List (ByteArray×ByteArray))(hn:NmOk n)(hv:qEs n=false):Bw (b.begin n l) (b.els.length::ch):=by
 have hlt:=h.chn.lt;refine⟨.cons (qD2 b n l) (by simpa using hlt.2.1) (h.chn.mono fun k x hx=>⟨x,qND b n l hx,rfl⟩),?_,fun k hk x hx=>?_⟩
 ·show b.dep+1=_;rw[h.dep];simp
 ·rcases List.mem_cons.1 hk with rfl|hk
  ·rw[qD2]at hx;cases hx;exact⟨hv,hn⟩
  ·have hl:=(hlt.2.2 k hk);have:(b.begin n l).els[k]? = b.els[k]?:=by
    show(b.els++[_])[k]? = _;rw[List.getElem?_append_left (by omega)]
   rw[this]at hx;exact h.nm k hk x hx
theorem Bw.fin{b:BS}{k:Nat}{ch:List Nat}(h:Bw b (k::ch)):Bw b.fin ch/\∃x,b.opn=(k:Int)/\b.els[k]? = some x/\b.fin=⟨b.els.set k { x with hi:=(b.txt.length:Int) },b.txt,x.parent,b.dep-1⟩:=by
 have hc:=h.chn;generalize ho:b.opn=o at hc;cases hc with
 | @cons _ x _ hx hp hr =>
  have e:=qT4 ho hx;have hk:=(List.getElem?_eq_some_iff.1 hx).1;refine⟨?_,x,rfl,hx,e⟩;rw[e];refine⟨hr.mono fun j y hy=>?_,?_,fun j hj y hy=>?_⟩
  ·by_cases hjk:j=k
   ·subst hjk;rw[hx]at hy;cases hy;exact⟨{ x with hi:=(b.txt.length:Int) },by simp[hk],rfl⟩
   ·exact⟨y,by simp[Ne.symm hjk,hy],rfl⟩
  ·have:=h.dep;simp at this ⊢;omega
  ·have hj':=hr.lt.2.2 j hj;have hjk:j≠k:=by omega
   simp only[List.getElem?_set,Ne.symm hjk,if_false]at hy;exact h.nm j (List.mem_cons_of_mem _ hj) y hy
theorem qKb(b:BS)(n:ByteArray)(l:List (ByteArray×ByteArray)):(b.begin n l).fin=⟨b.els++[⟨n,b.opn,l,(b.txt.length:Int),(b.txt.length:Int)⟩],b.txt,b.opn,b.dep⟩:=by
 rw[qT4 (b:=b.begin n l) rfl (qD2 b n l)];show BS.mk ((b.els++[_]).set b.els.length _) b.txt b.opn (b.dep+1-1)=_;rw[List.set_append_right _ _ (Nat.le_refl _)];simp;rfl
theorem Bw.run{b:BS}{ch:List Nat}{e:Ev}(h:Bw b ch)(ok:okE b ch e):Bw (e.run b) (chN b ch e):=by
 cases e with
 |text t=>exact⟨h.chn,h.dep,h.nm⟩
 |opens n l=>exact h.begin n l ok.1 ok.2.1
 | void n l =>
  show Bw (b.begin n l).fin ch;rw[qKb];refine⟨h.chn.mono fun k x hx=>⟨x,?_,rfl⟩,h.dep,fun k hk x hx=>?_⟩
  ·rw[List.getElem?_append_left (List.getElem?_eq_some_iff.1 hx).1];exact hx
  ·have:=h.chn.lt.2.2 k hk;have:=h.chn.lt.2.1;rw[List.getElem?_append_left (by omega)]at hx;exact h.nm k hk x hx
 |fin =>
  cases ch with
  |nil=>exact absurd rfl ok
  |cons k ch=>exact h.fin.1
structure Grow(b b':BS)(ch:List Nat):Prop where
 txt:∃t,b'.txt=b.txt++t
 els:∀(k:Nat)(x:El),b.els[k]? = some x->∃x',b'.els[k]? = some x'/\x'.name=x.name/\x'.parent=x.parent/\x'.attrs=x.attrs/\x'.lo=x.lo/\(k ∉ ch->x'.hi=x.hi)
theorem Grow.refl(b:BS)(ch:List Nat):Grow b b ch:=⟨⟨[],by simp⟩,fun k x hx=>⟨x,hx,rfl,rfl,rfl,rfl,fun _=>rfl⟩⟩
theorem Grow.trans{b b' b'':BS}{ch ch':List Nat}(h:Grow b b' ch)(k:Grow b' b'' ch')(hc:∀j,j<b.els.length->j ∉ ch->j ∉ ch'):Grow b b'' ch:=by
 obtain⟨t,ht⟩:=h.txt;obtain⟨t',ht'⟩:=k.txt;refine⟨⟨t++t',by rw[ht',ht,List.append_assoc]⟩,fun j x hx=>?_⟩;obtain⟨y,h1,h2,h3,h4,h5,h6⟩:=h.els j x hx;obtain⟨z,k1,k2,k3,k4,k5,k6⟩:=k.els j y h1;exact⟨z,k1,k2.trans h2,k3.trans h3,k4.trans h4,k5.trans h5,fun hj=>(k6 (hc j (List.getElem?_eq_some_iff.1 hx).1 hj)).trans (h6 hj)⟩
theorem qNr{b:BS}{ch:List Nat}{e:Ev}(h:Bw b ch)(ok:okE b ch e):Grow b (e.run b) ch:=by
 cases e with
 |text t=>exact⟨⟨t,rfl⟩,(Grow.refl b ch).els⟩
 |opens n l=>exact⟨⟨[],by simp[Ev.run,BS.begin]⟩,fun k x hx=>⟨x,qND b n l hx,rfl,rfl,rfl,rfl,fun _=>rfl⟩⟩
 |void n l =>
  show Grow b (b.begin n l).fin ch;rw[qKb];exact⟨⟨[],by simp⟩,fun k x hx=>⟨x,by rw[List.getElem?_append_left (List.getElem?_eq_some_iff.1 hx).1];exact hx,rfl,rfl,rfl,rfl,fun _=>rfl⟩⟩
 | fin =>
  cases ch with
  |nil=>exact absurd rfl ok
  | cons k ch =>
   obtain⟨-,x,ho,hx,e⟩:=h.fin;show Grow b b.fin _;rw[e];have hk:=(List.getElem?_eq_some_iff.1 hx).1;refine⟨⟨[],by simp⟩,fun j y hy=>?_⟩;by_cases hjk:j=k
   ·subst hjk;rw[hx]at hy;cases hy;exact⟨{ x with hi:=(b.txt.length:Int) },by simp[hk],rfl,rfl,rfl,rfl,fun hj=>absurd (List.mem_cons_self ..) hj⟩
   ·exact⟨y,by simp[Ne.symm hjk,hy],rfl,rfl,rfl,rfl,fun _=>rfl⟩
theorem qP9{b:BS}{ch:List Nat}{e:Ev}{j:Nat}(hj:j<b.els.length)(hn:j ∉ ch):j ∉ chN b ch e:=by
 cases e with
 |text t=>exact hn
 |opens n l=>exact fun h=>(List.mem_cons.1 h).elim (fun e=>by omega) hn
 |void n l=>exact hn
 |fin=>exact fun h=>hn (List.mem_of_mem_tail h)
theorem qLl:∀(es:List Ev){b:BS}{ch:List Nat},Bw b ch->VE b ch es->Grow b (qKi b es) ch
 |[],b,ch=>fun _ _=>.refl b ch
 |_::es,_,_=>fun h hv=>(qNr h hv.1).trans (qLl es (h.run hv.1) hv.2) fun _ hj hn=>qP9 hj hn
theorem qHo(sp l m:List UInt8):qBp sp (l++m)=qBp sp l++qBp sp m:=by unfold qBp;simp
theorem qIx {b : BS} {k : Nat} {x : El} (hx : b.els[k]? = some x) (hp : x.parent < (k : Int)) : ∀ (f : Nat) (s s1 : WS), qBO b (k : Int) f s = some s1 → s.op ≤ (k : Int) + (f : Int) - 1 →
  s1.op=(k:Int)/\qBO b x.parent f s=(qBz b s1 x.hi).map fun s'=>⟨s'.out++qDE x.name,s'.pl,x.parent⟩
 |0,s,s1=>fun h hf=>by
  rw[qBO]at h;split at h
  ·rename_i e;omega
  ·cases h
 | f + 1, s, s1 => fun h hf => by
  rw[qBO]at h;by_cases e:s.op=(k:Int)
  ·rw[if_pos e]at h;cases h;refine⟨e,?_⟩;rw[qBO,if_neg (by omega),if_neg (by omega),e];simp only[Int.toNat_natCast,hx];rw[if_pos hp];cases qBz b s x.hi with
   |none=>rfl
   |some s' =>
    dsimp only[Option.map];cases f with
    |zero=>rw[qBO,if_pos rfl]
    |succ f=>rw[qBO,if_pos rfl]
  ·rw [if_neg e] at h;split at h
   ·cases h
   ·rename_i hneg;cases hy:b.els[s.op.toNat]? with
    |none=>rw[hy]at h;cases h
    | some y =>
     rw[hy]at h;dsimp only at h;split at h
     ·rename_i hyp;cases ht:qBz b s y.hi with
      |none=>rw[ht]at h;cases h
      | some s' =>
       rw[ht]at h;dsimp only at h;have hk:(k:Int)<=y.parent:=by
        refine Int.not_lt.1 fun hlt=>?_;have:∀(g:Nat)(r:WS),r.op<(k:Int)->qBO b (k:Int) g r=none:=by
         intro g
         induction g with
         |zero=>intro r hr;rw[qBO,if_neg (by omega)]
         | succ g ih =>
          intro r hr;rw[qBO,if_neg (by omega)];split
          ·rfl
          ·split
           ·rfl
           ·split
            ·split
             ·rfl
             ·exact ih _ (by dsimp only;omega)
            ·rfl
        rw[this f _ hlt]at h;cases h
       obtain⟨h1,h2⟩:=qIx hx hp f _ s1 h (by dsimp only;omega);refine⟨h1,?_⟩;rw[qBO,if_neg (by omega),if_neg hneg,hy];dsimp only;rw[if_pos hyp,ht];exact h2
     ·cases h
def qT3(b:BS)(l:List El)(n:Nat)(s:WS):Option (List UInt8) :=
 match goP b l n s with
 |none=>none
 | some s =>
  match qBO b (-1) (b.els.length+1) s with
  |none=>none
  |some s1 =>
   match qBz b s1 (b.txt.length:Int)with
   |none=>none
   |some s2=>some s2.out
theorem qM3{b:BS}{p q r:Nat}{t u v:List UInt8}(hb:b.txt=t++(u++v))(hq:t.length=q)(hr:q+u.length=r)(hp:p<=q):qBL b p r=qBL b p q++u:=by
 subst hq hr;unfold qBL;rw[hb,List.drop_append_of_le_length hp];have e1:(t.drop p).length=t.length-p:=by simp
 rw[show t.length+u.length-p=(t.drop p).length+u.length from by rw[e1];omega,List.take_length_add_append,List.take_append_of_le_length (Nat.le_refl _),List.take_length,<-e1,List.take_append_of_le_length (Nat.le_refl _),List.take_length]
theorem qEZ{b:BS}{s:WS}{q:Nat}(h1:s.pl<=q)(h2:q<=b.txt.length):qBz b s (q:Int)=some ⟨s.out++qBp tsp (qBL b s.pl q),q,s.op⟩:=by
 unfold qBz;rw[if_pos ⟨by omega,by omega⟩];simp
theorem qC9(b:BS)(p:Nat):qBp tsp (qBL b p p)=[]:=by
 unfold qBL;simp[qBp]
theorem qHP{b:BS}{k:Nat}{x:El}(ho:b.opn=(k:Int))(hx:b.els[k]? = some x):qLU b=x.name:=by
 unfold qLU;rw[ho];simp only[Int.toNat_natCast,hx]
theorem qEb{b:BS}:∀(es:List Ev)(c:BS)(ch:List Nat)(s s1:WS),Bw c ch->VE c ch es->qKi c es=b->s.op<b.els.length->qBO b c.opn (b.els.length+1) s=some s1->s1.op=c.opn->s1.pl<=c.txt.length ->
  qT3 b (b.els.drop c.els.length) c.els.length s=some (s1.out++qBp tsp (qBL b s1.pl c.txt.length)++qDx c es)
 | [], c, ch, s, s1 => fun hw hv hr hs hc ho hp => by
  have hb:c=b:=hr;subst hb;have hch:ch=[]:=hv;subst hch;have hop:c.opn=-1:=by
   have:=hw.chn;generalize c.opn=o at this;cases this;rfl
  unfold qT3;rw[List.drop_length,goP];rw[hop]at hc;dsimp only;rw[hc];dsimp only;rw[qEZ hp (Nat.le_refl _)];simp[qDx]
 | e :: es, c, ch, s, s1 => fun hw hv hr hs hc ho hp => by
  have hw':=hw.run hv.1;have hg:=qNr hw hv.1;have hG:=qLl es hw' hv.2;rw[show qKi (e.run c) es=b from hr]at hG;have hG0:=hg.trans hG fun _ hj hn=>qP9 hj hn;obtain⟨t0,ht0⟩:=hG0.txt;have hcl:c.txt.length<=b.txt.length:=by rw[ht0];simp
  cases e with
  |text t =>
   obtain⟨t1,ht1⟩:=hG.txt;have hb:b.txt=c.txt++(t++t1):=by rw[ht1];show(c.txt++t)++t1=_;rw[List.append_assoc]
   have ih:=qEb es (c.text t) ch s s1 hw' hv.2 hr hs hc ho (by show _<=(c.txt++t).length;simp;omega);have hl:(c.text t).txt.length=c.txt.length+t.length:=by show(c.txt++t).length=_;simp
   rw[hl,qM3 hb rfl rfl hp,qHo]at ih;rw[show(c.text t).els=c.els from rfl]at ih;rw[ih];show some (_++qDx (c.text t) es)=some (_++(qBp tsp t++qDx (c.text t) es));simp only[List.append_assoc]
  | opens n l =>
   obtain⟨x,hx,h1,h2,h3,h4,-⟩:=hG.els c.els.length _ (qD2 c n l);have hn:=(List.getElem?_eq_some_iff.1 hx).1;have hd:b.els.drop c.els.length=x::b.els.drop (c.els.length+1):=by
    rw[List.drop_eq_getElem_cons hn];congr 1;exact(List.getElem?_eq_some_iff.1 hx).2
   have hbl:qCz x=qFO n l:=by unfold qCz qFO;rw[h1,h3]
   have ih:=qEb es (c.begin n l) (c.els.length::ch) ⟨s1.out++qBp tsp (qBL b s1.pl c.txt.length)++qCz x,c.txt.length,(c.els.length:Int)⟩ ⟨s1.out++qBp tsp (qBL b s1.pl c.txt.length)++qCz x,c.txt.length,(c.els.length:Int)⟩ hw' hv.2 hr (by dsimp only;omega) (qGG _ _ _) rfl (Nat.le_refl _);rw[show(c.begin n l).els.length=c.els.length+1 from by simp[BS.begin]]at ih;dsimp only at ih;rw[show(c.begin n l).txt=c.txt from rfl,qC9,List.append_nil,hbl]at ih;have e0:qT3 b (x::b.els.drop (c.els.length+1)) c.els.length s=qT3 b (b.els.drop (c.els.length+1)) (c.els.length+1) ⟨s1.out++qBp tsp (qBL b s1.pl c.txt.length)++qFO n l,c.txt.length,(c.els.length:Int)⟩:=by
    unfold qT3;rw[goP,h2];dsimp only;rw[hc];dsimp only;rw[h4,qEZ hp hcl];dsimp only;rw[hbl]
   rw[hd,e0,ih];show some (_++qDx (c.begin n l) es)=some (_++(qFO n l++qDx (c.begin n l) es));simp only[List.append_assoc]
  | void n l =>
   have hv':Ev.run c (.void n l)=⟨c.els++[⟨n,c.opn,l,(c.txt.length:Int),(c.txt.length:Int)⟩],c.txt,c.opn,c.dep⟩:=qKb c n l;obtain⟨x,hx,h1,h2,h3,h4,h5⟩:=hG.els c.els.length ⟨n,c.opn,l,(c.txt.length:Int),(c.txt.length:Int)⟩ (by rw[hv'];simp);have hnot:c.els.length ∉ chN c ch (.void n l):=fun hm=>by
    have h6:=hw.chn.lt.2.2 _ hm;have h7:=hw.chn.lt.2.1;omega
   have h5:=h5 hnot;dsimp only at h1 h2 h3 h4 h5;have hn:=(List.getElem?_eq_some_iff.1 hx).1;have hd:b.els.drop c.els.length=x::b.els.drop (c.els.length+1):=by
    rw[List.drop_eq_getElem_cons hn];congr 1;exact(List.getElem?_eq_some_iff.1 hx).2
   have hbl:qCz x=qFO n l:=by unfold qCz qFO;rw[h1,h3]
   have hop:=hw.chn.lt;have hvoid:qEs x.name=true:=by rw[h1];exact hv.1.2.1
   have hc1:qBO b c.opn (b.els.length+1) ⟨s1.out++qBp tsp (qBL b s1.pl c.txt.length)++qFO n l,c.txt.length,(c.els.length:Int)⟩=some ⟨s1.out++qBp tsp (qBL b s1.pl c.txt.length)++qFO n l,c.txt.length,c.opn⟩:=by
    rw[qBO,if_neg (by dsimp only;omega),if_neg (by dsimp only;omega)];simp only[Int.toNat_natCast,hx];rw[if_pos (by omega),h5,qEZ (Nat.le_refl _) hcl];dsimp only;rw[qC9,List.append_nil,h2];have:qDE x.name=[]:=by unfold qDE;rw[if_pos hvoid]
    rw[this,List.append_nil];exact qGG _ _ _
   have ih:=qEb es (Ev.run c (.void n l)) ch ⟨s1.out++qBp tsp (qBL b s1.pl c.txt.length)++qFO n l,c.txt.length,(c.els.length:Int)⟩ _ hw' hv.2 hr (by dsimp only;omega) (by rw[hv'];exact hc1) (by rw[hv']) (by rw[hv'];exact Nat.le_refl _);have e1:(Ev.run c (.void n l)).els.length=c.els.length+1:=by rw[hv'];simp
   have e2:(Ev.run c (.void n l)).txt.length=c.txt.length:=by rw[hv']
   rw[e1,e2]at ih;rw[qC9,List.append_nil]at ih;have e0:qT3 b (x::b.els.drop (c.els.length+1)) c.els.length s=qT3 b (b.els.drop (c.els.length+1)) (c.els.length+1) ⟨s1.out++qBp tsp (qBL b s1.pl c.txt.length)++qFO n l,c.txt.length,(c.els.length:Int)⟩:=by
    unfold qT3;rw[goP,h2,hc];dsimp only;rw[h4,qEZ hp hcl];dsimp only;rw[hbl]
   rw[hd,e0,ih];show some (_++qDx (Ev.run c (.void n l)) es)=some (_++(qFO n l++qDx (Ev.run c (.void n l)) es));simp only[List.append_assoc]
  | fin =>
   cases ch with
   |nil=>exact absurd rfl hv.1
   | cons k ch =>
    obtain⟨hwf,y,hok,hy,hfe⟩:=hw.fin;have hk:=(List.getElem?_eq_some_iff.1 hy).1;have hyp:y.parent<(k:Int):=by
     have:=hw.chn;rw[hok]at this;cases this with
     |cons hx' hp' _=>rw[hy]at hx';cases hx';exact hp'
    obtain⟨x,hx,h1,h2,h3,h4,h5⟩:=hG.els k { y with hi:=(c.txt.length:Int) } (by show c.fin.els[k]? = _;rw[hfe];simp[hk]);have hnot:k ∉ chN c (k::ch) .fin:=fun hm=>by
     have hm:k∈ch:=hm;have hlt:=hwf.chn.lt.2.2 k hm;rw[hfe]at hlt;dsimp only at hlt;omega
    have h5:=h5 hnot;dsimp only at h1 h2 h4 h5;rw[hok]at hc;obtain⟨q1,q2⟩:=qIx hx (by rw[h2];exact hyp) _ s s1 hc (by omega);rw[h5,qEZ hp hcl,h2]at q2;dsimp only[Option.map]at q2;have hnv:=(hw.nm k (List.mem_cons_self ..) y hy).1;have hcL:qDE x.name=qJy y.name:=by unfold qDE qJy;rw[h1,if_neg (by rw[hnv];decide)]
    rw[hcL]at q2;have hpar:c.fin.opn=y.parent:=by rw[hfe]
    have ih:=qEb es c.fin ch s _ hwf hv.2 hr hs (by rw[hpar];exact q2) (by rw[hpar]) (by rw[hfe];exact Nat.le_refl _);have e1:c.fin.els.length=c.els.length:=by rw[hfe];simp
    have e2:c.fin.txt.length=c.txt.length:=by rw[hfe]
    rw[e1,e2]at ih;dsimp only at ih;rw[qC9,List.append_nil]at ih;rw[ih];show some (_++qDx c.fin es)=some (_++(qJy (qLU c)++qDx c.fin es));rw[qHP hok hy];simp only[List.append_assoc]
theorem qTv{es:List Ev}(hv:VE b0 [] es):qG0 (qKi b0 es)=some (qDx b0 es):=by
 have hb:Bw b0 []:=⟨.nil,rfl,by simp⟩;have:=qEb es b0 [] ⟨[],0,-1⟩ ⟨[],0,-1⟩ hb hv rfl (by dsimp only;omega) (qGG _ _ _) rfl (Nat.zero_le _);rw[show b0.txt.length=0 from rfl,show b0.els.length=0 from rfl,List.drop_zero]at this;rw[qC9]at this;exact this
theorem qCU{c:UInt8}(h:qR9 c=true):okU c=true/\qBP (c.toNat:Int)=true/\qCS c=c/\qE0 (c.toNat:Int)=(c.toNat:Int):=by
 unfold qR9 smU at h;simp only[Bool.or_eq_true,Bool.and_eq_true,decide_eq_true_eq,beq_iff_eq]at h;have h45:c=45->c.toNat=45:=fun e=>by rw[e];rfl
 have h':(97<=c.toNat/\c.toNat<=122)\/(48<=c.toNat/\c.toNat<=57)\/c.toNat=45:=by
  rcases h with(h|h)|h
  ·exact .inl h
  ·exact .inr (.inl h)
  ·exact .inr (.inr (h45 h))
 refine⟨?_,?_,?_,?_⟩
 ·unfold okU qCK;simp;omega
 ·unfold qBP qBY qCE;simp;omega
 ·unfold qCS;rw[if_neg (by omega)]
 ·unfold qE0;rw[if_neg (by omega)]
theorem qQq{c:UInt8}(h:smU c=true):qR9 c=true:=by unfold qR9;rw[h];rfl
theorem qRN{s:ByteArray}:∀(n r:List UInt8)(d:UInt8)(p k:Nat),At s p (n++d::r)->(∀c∈n,qR9 c=true)->okU d=true->qBP (d.toNat:Int)=false->n.length<=k->qDm qBP s k p=p+n.length
 |[],r,d,p,k,h,_,hd,hn,_=>qKH (by rw[At.peek h hd];exact hn)
 |c::n,r,d,p,k,h,hc,hd,hn,hk=>by
  obtain⟨k,rfl⟩:∃k',k=k'+1:=⟨k-1,by simp at hk;omega⟩;have f:=qCU (hc c (List.mem_cons_self ..));rw[qEl (by rw[At.peek h f.1];exact f.2.1),qRN n r d (p+1) k (At.step h) (fun x hx=>hc x (List.mem_cons_of_mem _ hx)) hd hn (by simp at hk;omega),List.length_cons];omega
theorem NmOk.low{n:ByteArray}(h:NmOk n):(∀c∈n.data.toList,qR9 c=true)/\n.data.toList.length<=16/\n.data.toList≠[]:=by
 obtain⟨c,r,e,hc,hr,hl⟩:=h;rw[e];refine⟨fun d hd=>?_,by simp;omega,by simp⟩;rcases List.mem_cons.1 hd with rfl|hd
 ·exact qQq hc
 ·exact hr d hd
theorem qQ0{s n:ByteArray}{r:List UInt8}{d:UInt8}{p:Nat}{taken:ByteArray->Bool}(hn:NmOk n)(h:At s p (n.data.toList++d::r))(hd:okU d=true)(hdn:qBP (d.toNat:Int)=false)(ht:taken n=false) :
  qBQ s p taken=(p+n.data.toList.length,some n):=by
 obtain⟨hc,h16,h0⟩:=hn.low;have he:qAy s p=p+n.data.toList.length:=qRN _ r d p 16 h hc hd hdn h16;have hsm:qBV n.data.toList=n.data.toList:=by
  unfold qBV
  conv=>rhs;rw[<-List.map_id n.data.toList]
  exact List.map_congr_left fun c hx=>(qCU (hc c hx)).2.2.1
 have hna:qCF s p=n:=by
  unfold qCF;rw[he,h.1,Nat.add_sub_cancel_left,List.take_left' rfl,hsm]
 have hl:qBY (qAC s p)=true:=by
  obtain⟨c,r',e,hc',-,-⟩:=hn;rw[e]at h;have f:=qDa hc';rw[At.peek (c:=c) (r:=r'++d::r) h f.1];exact f.2.1
 rw[qFk hl hna he ht,At.peek (At.skip h) hd,hdn,if_neg Bool.false_ne_true]
theorem qMQ(sp l:List UInt8):l.length<=(qBp sp l).length:=(qHJ sp l).2
theorem qWh{l:List UInt8}(h:∀c∈l,okU c=true):qTx [60,34] l (qBp vsp l):=qMO [60,34] vsp (by decide) (by decide) (by decide) l h
theorem qWg{l:List UInt8}(h:∀c∈l,okU c=true):qTx [60,62] l (qBp tsp l):=qMO [60,62] tsp (by decide) (by decide) (by decide) l h
theorem qSQ{s:ByteArray}{p:Nat}{a:ByteArray×ByteArray}{r:List UInt8}{L:List (ByteArray×ByteArray)}(h:At s p (a.1.data.toList++61::(34::(qBp vsp a.2.data.toList++34::r))))(hn:NmOk a.1)(hv:∀c∈a.2.data.toList,okU c=true)(ht:hasN L a.1=false) :
  qBk s p L=(p+a.1.data.toList.length+(qBp vsp a.2.data.toList).length+3,some a):=by
 have x1:=qQ0 (taken:=hasN L) hn h (by decide) (by decide) ht;have h1:=At.skip h;have pk:qAC s (p+a.1.data.toList.length)=61:=At.peek h1 (by decide);have hl:=qMQ vsp a.2.data.toList;have x2:=qTq (At.step h1) (qWh hv) (by have:=h.2;simp at this;simp only[Array.length_toList]at hl ⊢;omega);unfold qBk;rw[x1];dsimp only;rw[if_pos pk,x2];dsimp only;congr 1;omega
theorem qKr{s:ByteArray}{r:List UInt8}:∀(ls acc:List (ByteArray×ByteArray))(f p:Nat),AtsOk (acc++ls)->At s p (qAh ls++62::r)->ls.length<f->qBc s f p acc=(p+(qAh ls).length,some (acc++ls))/\At s (p+(qAh ls).length) (62::r)
 |[],acc,f,p=>fun _ h hf=>by
  obtain⟨f,rfl⟩:∃f',f=f'+1:=⟨f-1,by omega⟩;have h:At s p (62::r):=h;rw[qBc,qO3 h (by decide) (by decide),if_neg (by omega)];simp[qAh];exact h
 | a :: ls, acc, f, p => fun ho h hf => by
  obtain⟨f,rfl⟩:∃f',f=f'+1:=⟨f-1,by simp at hf;omega⟩;obtain⟨hn,hv,ht⟩:=ho acc a ls rfl;have e0:qAh (a::ls)++62::r=32::(a.1.data.toList++61::(34::(qBp vsp a.2.data.toList++34::(qAh ls++62::r)))):=by
   simp[qAh,qFR]
  rw[e0]at h;have h1:=At.step h;have hsp:qBM qAV s p=p+1/\qAC s (p+1)≠47/\qAC s (p+1)≠62:=by
   obtain⟨c,n',e,hc,-,-⟩:=hn;rw[e]at h h1;have f:=qDa hc;have hcs:qAV (c.toNat:Int)=false/\(c.toNat:Int)≠47/\(c.toNat:Int)≠62:=by
    unfold smU at hc;simp only[Bool.and_eq_true,decide_eq_true_eq]at hc;refine⟨?_,by omega,by omega⟩;unfold qAV;simp;omega
   have pk:=At.peek (c:=c) (r:=n'++61::(34::(qBp vsp a.2.data.toList++34::(qAh ls++62::r)))) h1 f.1;exact⟨qN4 (d:=c) (r:=n'++61::(34::(qBp vsp a.2.data.toList++34::(qAh ls++62::r)))) h f.1 hcs.1,by rw[pk];exact hcs.2.1,by rw[pk];exact hcs.2.2⟩
  have x1:=qSQ h1 hn hv ht;have hl:(qAh (a::ls)).length=a.1.data.toList.length+(qBp vsp a.2.data.toList).length+4+(qAh ls).length:=by
   simp[qAh,qFR];omega
  have h2:At s (p+1+a.1.data.toList.length+(qBp vsp a.2.data.toList).length+3) (qAh ls++62::r):=by
   have a1:=At.skip h1;have a2:=At.step (At.step a1);have a3:=At.step (At.skip a2);have:p+1+a.1.data.toList.length+(qBp vsp a.2.data.toList).length+3=p+1+a.1.data.toList.length+1+1+(qBp vsp a.2.data.toList).length+1:=by omega
   rw[this];exact a3
  obtain⟨i1,i2⟩:=qKr ls (acc++[a]) f _ (by rw[List.append_assoc];exact ho) h2 (by simp at hf;omega);have e3:p+(qAh (a::ls)).length=p+1+a.1.data.toList.length+(qBp vsp a.2.data.toList).length+3+(qAh ls).length:=by omega
  rw[e3];refine⟨?_,i2⟩;rw[qBc,hsp.1,if_pos ⟨by omega,hsp.2.1,hsp.2.2⟩,x1];dsimp only;rw[i1,List.append_assoc];rfl
theorem qOV(ls:List (ByteArray×ByteArray)):ls.length<=(qAh ls).length:=by
 induction ls with
 |nil=>simp
 | cons a ls ih =>
  have:(qAh (a::ls)).length=a.1.data.toList.length+(qBp vsp a.2.data.toList).length+4+(qAh ls).length:=by
   simp[qAh,qFR];omega
  simp only[List.length_cons];omega
theorem qUM{s n:ByteArray}{l:List (ByteArray×ByteArray)}{p:Nat}{r:List UInt8}{b:BS}(h:At s p (qFO n l++r))(hn:NmOk n)(hl:AtsOk l)(hb:qEy b=false) :
  qAW s p b=(p+(qFO n l).length,if qEs n=true then(b.begin n l).fin else b.begin n l,0):=by
 have e0:qFO n l++r=60::(n.data.toList++(qAh l++62::r)):=by simp[qFO]
 rw[e0]at h;have h1:=At.step h;have hpb:qAW s p b=qCn s (p+1) b:=by
  obtain⟨c,n',e,hc,-,-⟩:=hn;rw[e]at h;exact qMi (c:=c) (r:=n'++(qAh l++62::r)) h hc
 rw[hpb];obtain⟨d,r',hd,hdo,hdn⟩:∃d r',qAh l++62::r=d::r'/\okU d=true/\qBP (d.toNat:Int)=false:=by
  cases l with
  |nil=>exact⟨62,r,rfl,by decide,by decide⟩
  |cons a l=>exact⟨32,_,by simp[qAh,qFR];rfl,by decide,by decide⟩
 have x1:=qQ0 (taken:=qAI) (d:=d) (r:=r') hn (by rw[<-hd];exact h1) hdo hdn rfl;have h2:=At.skip h1;have hfu:=qOV l;obtain⟨x2,h3⟩:=qKr l [] (s.size+1) _ hl h2 (by have:=h2.2;simp at this;omega);rw[List.nil_append]at x2;have x2:qAK s (p+1+n.data.toList.length)=(p+1+n.data.toList.length+(qAh l).length,some l):=x2;have pk:qAC s (p+1+n.data.toList.length+(qAh l).length)=62:=At.peek h3 (by decide);have x3:=qEA (l:=[62]) (r:=r) h3 (by decide);simp only[List.length_singleton]at x3;have x4:qCB s (p+1+n.data.toList.length+(qAh l).length)=p+1+n.data.toList.length+(qAh l).length:=by unfold qCB;rw[if_neg (by rw[pk];decide)]
 have x5:qJY s (p+1+n.data.toList.length+(qAh l).length)=false:=by unfold qJY;rw[pk];decide
 have hlen:(qFO n l).length=1+n.data.toList.length+(qAh l).length+1:=by simp[qFO];omega
 unfold qCn;rw[x1];dsimp only;unfold qBo;simp only[x2,x4,x5,x3,hb];simp only[Bool.false_or,Bool.true_eq_false,if_false,Bool.false_eq_true];rw[hlen];congr 1;omega
theorem qQS{s:ByteArray}:∀(n r:List UInt8)(d:UInt8)(p:Nat),At s p (n++d::r)->(∀c∈n,qR9 c=true)->okU d=true->qBP (d.toNat:Int)=false->qEh s n p=(p+n.length,true)
 |[],r,d,p,h,_,hd,hn=>by rw[qEh,At.peek h hd,hn];rfl
 |c::n,r,d,p,h,hc,hd,hn=>by
  have f:=qCU (hc c (List.mem_cons_self ..));have pk:=At.peek (c:=c) (r:=n++d::r) h f.1;have sk:skipP s p=p+1:=by unfold skipP;rw[pk,if_neg (qH6 f.1)]
  rw[qEh,pk,if_pos f.2.2.2,sk,qQS n r d (p+1) (At.step h) (fun x hx=>hc x (List.mem_cons_of_mem _ hx)) hd hn,List.length_cons];congr 1;omega
theorem qUf{s:ByteArray}{p k:Nat}{r:List UInt8}{b:BS}{x:El}(h:At s p (qJy x.name++r))(ho:b.opn=(k:Int))(hx:b.els[k]? = some x)(hn:NmOk x.name):qAW s p b=(p+(qJy x.name).length,b.fin,0):=by
 have e0:qJy x.name++r=60::47::(x.name.data.toList++62::r):=by simp[qJy]
 rw[e0]at h;have p0:qAC s p=60:=At.peek h (by decide);have h1:=At.step h;have p1:qAC s (p+1)=47:=At.peek h1 (by decide);have h2:=At.step h1;have h3:=At.skip h2;have p3:qAC s (p+1+1+x.name.data.toList.length)=62:=At.peek h3 (by decide);have x1:=qEA (l:=[47]) (r:=x.name.data.toList++62::r) h1 (by decide);have x3:=qEA (l:=[62]) (r:=r) h3 (by decide);simp only[List.length_singleton]at x1 x3;have x2:=qQS x.name.data.toList r 62 (p+1+1) h2 hn.low.1 (by decide) (by decide);have x4:qBM qAV s (p+1+1+x.name.data.toList.length)=p+1+1+x.name.data.toList.length:=qCO (by rw[p3];decide);have hlen:(qJy x.name).length=2+x.name.data.toList.length+1:=by simp[qJy];omega
 unfold qAW;rw[if_pos p0,if_neg (by rw[p1];decide),if_pos p1,qHI ho hx];simp only[x1,x2,x3,x4];simp only[Bool.true_eq_false,if_false];rw[hlen];congr 1;omega
theorem qJt{s:ByteArray}{ends:List UInt8}(h38:inB ends 38=false):∀(l e:List UInt8)(p f:Nat)(acc:List UInt8),qTx ends l e->At s p e->l.length<f->qB3 s ends f p acc=(p+e.length,some (acc++l))
 |[],e,p,f,acc,he,h,hf=>by
  cases he;obtain⟨f,rfl⟩:∃f',f=f'+1:=⟨f-1,by simp at hf;omega⟩;rw[qB3,if_pos (.inl (At.endPeek h))];simp
 | c :: l, e, p, f, acc, ⟨e1, e2, he, hb, hl⟩, h, hf => by
  subst he;obtain⟨f,rfl⟩:∃f',f=f'+1:=⟨f-1,by simp at hf;omega⟩;have hf':l.length<f:=by simp at hf;omega
  have hcc:((c.toNat:Int)).toNat.toUInt8=c:=UInt8.toNat_inj.1 (by rw[Int.toNat_natCast,Nat.toUInt8,UInt8.toNat_ofNat'];have:=c.toNat_lt;omega);rcases hb with⟨rfl,hok,hne,h3⟩|⟨rfl,h4⟩
  ·have pk:=At.peek (c:=c) (r:=e2) h hok;have h38':(c.toNat:Int)≠38:=fun h=>h3 (UInt8.toNat_inj.1 (by show c.toNat=38;omega));rw[qB3,pk,if_neg (fun h=>by rcases h with h|h;exact qH6 hok h;rw[hne]at h;cases h),if_neg h38',hcc];rw[qJt h38 l e2 (p+1) f (acc++[c]) hl (At.step h) hf'];simp;omega
  ·obtain⟨pk,rf,nx⟩:=qUG c h4 h;rw[qB3,pk,if_neg (by rw[h38];decide),if_pos rfl,rf];dsimp only;rw[hcc,qJt h38 l e2 _ f (acc++[c]) hl nx hf'];simp;omega
theorem qTo{s:ByteArray}{p:Nat}{t r:List UInt8}{b:BS}(h:At s p (qBp tsp t++r))(ht:t≠[])(hk:∀c∈t,okU c=true)(hr:r=[]\/∃r',r=60::r'):qAW s p b=(p+(qBp tsp t).length,b.text t,0)/\p≠s.size:=by
 have he:=qWg hk;have hl:=qMQ tsp t;have hs:t.length<=s.size:=by have:=h.2;simp at this;omega
 have x2:qAU s [60,62] p=(p+(qBp tsp t).length,some t):=by
  unfold qAU;rcases hr with rfl|⟨r',rfl⟩
  ·rw[List.append_nil]at h;have:=qJt (s:=s) (ends:=[60,62]) (by decide) t _ p (s.size+1) [] he h (by omega);simpa using this
  ·have:=qJs (s:=s) (ends:=[60,62]) (by decide) t _ r' 60 p (s.size+1) [] he h (by decide) (by decide) (by omega);simpa using this
 cases t with
 |nil=>exact absurd rfl ht
 |cons c t =>
  obtain⟨d,r',hd,hok,hne⟩:=qSm he;rw[hd]at h;have pk:qAC s p=(d.toNat:Int):=At.peek (c:=d) (r:=r'++r) h hok;refine⟨?_,At.lt (c:=d) (r:=r'++r) h⟩;unfold qAW;rw[if_neg (by rw[pk];exact hne)];unfold qEX;rw[x2];rfl
theorem qRB{c:BS}{e:Ev}{es:List Ev}(he:∀t,e≠.text t):∃r,qDx c (e::es)=60::r:=by
 cases e with
 |text t=>exact absurd rfl (he t)
 |opens n l=>exact⟨_,rfl⟩
 |void n l=>exact⟨_,rfl⟩
 |fin=>exact⟨_,rfl⟩
theorem qL3:∀(es:List Ev)(c:BS)(ch:List Nat),VE c ch es->∃t rest,qKi c es=qKi (c.text t) rest/\qDx c es=qBp tsp t++qDx (c.text t) rest/\VE (c.text t) ch rest/\(∀x∈t,okU x=true)/\(rest=[]\/∃e r,rest=e::r/\∀t,e≠.text t)/\rest.length<=es.length/\(∀t0 r0,es=.text t0::r0->t≠[]/\rest.length<es.length)
 |[],c,ch,hv=>⟨[],[],by simp[BS.text],by simp[qBp,qDx],by simpa [BS.text]using hv,by simp,.inl rfl,Nat.le_refl _,fun _ _ h=>by cases h⟩
 | .text t0 :: es, c, ch, hv => by
  obtain⟨t,rest,h1,h2,h3,h4,h5,h6,-⟩:=qL3 es (c.text t0) ch hv.2;have e0:(c.text t0).text t=c.text (t0++t):=by simp[BS.text]
  rw[e0]at h1 h2 h3;refine⟨t0++t,rest,h1,?_,h3,?_,h5,by simp;omega,fun _ _ _=>⟨by simp[hv.1.1],by simp;omega⟩⟩
  ·show qBp tsp t0++qDx (c.text t0) es=_;rw[h2,qHo,List.append_assoc]
  ·intro x hx;rcases List.mem_append.1 hx with hx|hx
   ·exact hv.1.2 x hx
   ·exact h4 x hx
 |.opens n l::es,c,ch,hv=>⟨[],.opens n l::es,by simp[BS.text],by simp[BS.text,qBp],by simpa [BS.text]using hv,by simp,.inr ⟨_,_,rfl,fun _ h=>by cases h⟩,Nat.le_refl _,fun _ _ h=>by cases h⟩
 |.void n l::es,c,ch,hv=>⟨[],.void n l::es,by simp[BS.text],by simp[BS.text,qBp],by simpa [BS.text]using hv,by simp,.inr ⟨_,_,rfl,fun _ h=>by cases h⟩,Nat.le_refl _,fun _ _ h=>by cases h⟩
 |.fin::es,c,ch,hv=>⟨[],.fin::es,by simp[BS.text],by simp[BS.text,qBp],by simpa [BS.text]using hv,by simp,.inr ⟨_,_,rfl,fun _ h=>by cases h⟩,Nat.le_refl _,fun _ _ h=>by cases h⟩
theorem qIR{b:BS}{ch:List Nat}(hw:Bw b ch)(h1:b.els.length<100)(h2:ch.length<12):qEy b=false:=by
 unfold qEy;rw[hw.dep];simp;omega
theorem qRD{s:ByteArray}:∀(n:Nat)(es:List Ev),es.length<=n->∀(c:BS)(ch:List Nat)(p f:Nat),Bw c ch->VE c ch es->At s p (qDx c es)->n<f->qAr s f p c false=(s.size,qKi c es,0):=by
 intro n
 induction n with
 | zero =>
  intro es hn c ch p f hw hv h hf;have:es=[]:=List.eq_nil_of_length_eq_zero (by omega);subst this;obtain⟨f,rfl⟩:∃f',f=f'+1:=⟨f-1,by omega⟩;have hch:ch=[]:=hv;subst hch;have hop:c.opn=-1:=by
   have:=hw.chn;generalize c.opn=o at this;cases this;rfl
  have hp:=At.end_ h;rw[qAr,if_pos hp,if_pos hop,hp];rfl
 | succ n ih =>
  intro es hn c ch p f hw hv h hf;obtain⟨f,rfl⟩:∃f',f=f'+1:=⟨f-1,by omega⟩;cases es with
  |nil=>exact ih [] (by simp) c ch p (f+1) hw hv h (by omega)
  | cons e es =>
   have hlen:es.length<=n:=by simp at hn;omega
   cases e with
   | text t0 =>
    obtain⟨t,rest,h1,h2,h3,h4,h5,h6,h7⟩:=qL3 _ c ch hv;obtain⟨h8,h9⟩:=h7 t0 es rfl;rw[h2]at h;have hr:qDx (c.text t) rest=[]\/∃r',qDx (c.text t) rest=60::r':=by
     rcases h5 with rfl|⟨e,r,rfl,he⟩
     ·exact .inl rfl
     ·exact .inr (qRB he)
    obtain⟨x1,x2⟩:=qTo (b:=c) h h8 h4 hr;rw[qDr x2 x1,h1];exact ih rest (by simp at h9;omega) (c.text t) ch _ f ⟨hw.chn,hw.dep,hw.nm⟩ h3 (At.skip h) (by omega)
   |opens n' l =>
    have h':At s p (qFO n' l++qDx (c.begin n' l) es):=h;obtain⟨g1,g2,g3,g4,g5⟩:=hv.1;have x1:=qUM h' g1 g3 (qIR hw g4 g5);rw[if_neg (by rw[g2];decide)]at x1;have hne:p≠s.size:=At.lt (c:=60) (r:=_) h';rw[qDr hne x1];exact ih es hlen (c.begin n' l) _ _ f (hw.run hv.1) hv.2 (At.skip h') (by omega)
   |void n' l =>
    have h':At s p (qFO n' l++qDx (c.begin n' l).fin es):=h;obtain⟨g1,g2,g3,g4,g5⟩:=hv.1;have x1:=qUM h' g1 g3 (qIR hw g4 g5);rw[if_pos g2]at x1;have hne:p≠s.size:=At.lt (c:=60) (r:=_) h';rw[qDr hne x1];exact ih es hlen (c.begin n' l).fin _ _ f (hw.run hv.1) hv.2 (At.skip h') (by omega)
   | fin =>
    cases ch with
    |nil=>exact absurd rfl hv.1
    |cons k ch =>
     obtain⟨hwf,y,hok,hy,hfe⟩:=hw.fin;have h':At s p (qJy (qLU c)++qDx c.fin es):=h;rw[qHP hok hy]at h';have x1:=qUf h' hok hy (hw.nm k (List.mem_cons_self ..) y hy).2;have hne:p≠s.size:=At.lt (c:=60) (r:=_) h';rw[qDr hne x1];exact ih es hlen c.fin ch _ f hwf hv.2 (At.skip h') (by omega)
theorem qNh:∀(es:List Ev)(c:BS)(ch:List Nat),VE c ch es->es.length<=(qDx c es).length
 |[],_,_,_=>Nat.zero_le _
 | e :: es, c, ch, hv => by
  have ih:=qNh es (e.run c) _ hv.2;have h1:1<=(e.out c).length:=by
   cases e with
   |text t =>
    have:=qMQ tsp t;have h0:t≠[]:=hv.1.1;have:0<t.length:=List.length_pos_iff.2 h0;show 1<=(qBp tsp t).length;omega
   |opens n l=>show 1<=(qFO n l).length;simp[qFO]
   |void n l=>show 1<=(qFO n l).length;simp[qFO]
   |fin=>show 1<=(qJy (qLU c)).length;simp[qJy]
  show(e::es).length<=(e.out c++qDx (e.run c) es).length;simp only[List.length_cons,List.length_append];omega
theorem qTC{s:ByteArray}{es:List Ev}(hv:VE b0 [] es)(hs:s.data.toList=qDx b0 es):qAs s=(s.size,qKi b0 es,0):=by
 have hl:=qNh es b0 [] hv;have hsz:s.size=(qDx b0 es).length:=by rw[<-hs,Array.length_toList];rfl
 exact qRD es.length es (Nat.le_refl _) b0 [] 0 (s.size+1) ⟨.nil,rfl,by simp⟩ hv ⟨by simpa using hs,by omega⟩ (by omega)
theorem qFr{s:ByteArray}{p:Nat}(h:qAC s p≠0):∃c,s.data.toList[p]? = some c/\qAC s p=(c.toNat:Int)/\okU c=true:=by
 have hp:=qAX h;have hp':p<s.data.toList.length:=by rw[Array.length_toList];exact hp
 have hc:s.data.toList[p]? = some s.data.toList[p]:=List.getElem?_eq_getElem hp';refine⟨s.data.toList[p],hc,?_⟩;unfold qAC at h ⊢;split at h
 ·rename_i hh;have e:qE7 s p=((s.data.toList[p]).toNat:Int):=by unfold qE7;rw[hc];rfl
  rw[if_pos hh,e];refine⟨rfl,?_⟩;have:=hh.2;rw[e]at this;exact this
 ·exact absurd rfl h
theorem qMm{f:Int->Bool}{s:ByteArray}:∀(k p q:Nat),p<=q->q<qDm f s k p->f (qAC s q)=true
 |0,p,q,h1,h2=>by rw[qDm]at h2;omega
 | k + 1, p, q, h1, h2 => by
  rw[qDm]at h2;split at h2
  ·rename_i hf;by_cases e:q=p
   ·subst e;exact hf
   ·exact qMm k (p+1) q (by omega) h2
  ·omega
theorem qH3{c:UInt8}(h:qBP (c.toNat:Int)=true):qR9 (qCS c)=true/\(qBY (c.toNat:Int)=true->smU (qCS c)=true):=by
 unfold qBP qBY qCE at h;simp only[Bool.or_eq_true,Bool.and_eq_true,decide_eq_true_eq,beq_iff_eq]at h;unfold qCS;by_cases hc:65<=c.toNat/\c.toNat<=90
 ·rw[if_pos hc];have e:(c+32).toNat=c.toNat+32:=by
   rw[UInt8.toNat_add];show(c.toNat+32)%2 ^ 8=_;omega
  have hs:smU (c+32)=true:=by unfold smU;rw[e];simp;omega
  exact⟨qQq hs,fun _=>hs⟩
 ·rw[if_neg hc];have hd:(97<=c.toNat/\c.toNat<=122)\/(48<=c.toNat/\c.toNat<=57)\/c.toNat=45:=by omega
  refine⟨?_,fun hl=>?_⟩
  ·unfold qR9 smU;rcases hd with hd|hd|hd
   ·simp;exact .inl (.inl hd)
   ·simp;exact .inl (.inr hd)
   ·have:c=45:=UInt8.toNat_inj.1 hd;subst this;rfl
  ·unfold qBY at hl;simp only[Bool.or_eq_true,Bool.and_eq_true,decide_eq_true_eq]at hl;unfold smU;simp;omega
theorem qJ6{s n:ByteArray}{p:Nat}{taken:ByteArray->Bool}(h:(qBQ s p taken).2=some n):NmOk n/\taken n=false:=by
 unfold qBQ at h;split at h
 ·cases h
 ·rename_i hl;split at h
  ·cases h
  ·rename_i ht;split at h
   ·cases h
   ·simp only[Option.some.injEq]at h;subst h;refine⟨?_,by simpa using ht⟩;have hl:qBY (qAC s p)=true:=by simpa using hl
    have h0:qAC s p≠0:=fun e=>by rw[e]at hl;revert hl;decide
    have hp:=qAX h0;have hne:=qCW (s:=s) (p:=p) (by omega);have hnb:qBP (qAC s p)=true:=by unfold qBP;rw[hl];rfl
    have hgt:p<qAy s p:=by
     unfold qAy;rw[show(16:Nat)=15+1 from rfl,qEl hnb];exact(qC5 qBP (by decide) s 15 (p+1) hp).1
    have hall:∀c∈(s.data.toList.drop p).take (qAy s p-p),qBP (c.toNat:Int)=true:=by
     intro c hc;obtain⟨i,hi⟩:=List.mem_iff_getElem?.1 hc;have hil:=(List.getElem?_eq_some_iff.1 hi).1;rw[List.length_take]at hil;rw[List.getElem?_take_of_lt (by omega),List.getElem?_drop]at hi;have hn:=qMm (f:=qBP) 16 p (p+i) (by omega) (by show p+i<qAy s p;omega);have h0:qAC s (p+i)≠0:=fun e=>by rw[e]at hn;revert hn;decide
     obtain⟨c',h1,h2,-⟩:=qFr h0;rw[h1]at hi;cases hi;rw[<-h2];exact hn
    obtain⟨c,h1,h2,-⟩:=qFr h0;have hhead:(s.data.toList.drop p).take (qAy s p-p)=c::((s.data.toList.drop p).take (qAy s p-p)).tail:=by
     have:((s.data.toList.drop p).take (qAy s p-p))[0]? = some c:=by
      rw[List.getElem?_take_of_lt (by omega),List.getElem?_drop];simpa using h1
     cases hz:(s.data.toList.drop p).take (qAy s p-p)with
     |nil=>rw[hz]at this;cases this
     |cons a l=>rw[hz]at this;simp at this;rw[this];rfl
    generalize hL:(s.data.toList.drop p).take (qAy s p-p)=L at hall hhead;refine⟨qCS c,qBV L.tail,?_,?_,fun d hd=>?_,?_⟩
    ·show(qBV ((s.data.toList.drop p).take (qAy s p-p))).toArray.toList=_;rw[hL,hhead];simp[qBV]
    ·exact(qH3 (hall c (by rw[hhead];simp))).2 (by rw[<-h2];exact hl)
    ·obtain⟨a,ha,rfl⟩:=List.mem_map.1 hd;exact(qH3 (hall a (List.mem_of_mem_tail ha))).1
    ·have:L.length<=16:=by rw[<-hL];simp;omega
     have h3:L.length=L.tail.length+1:=by rw[hhead];simp
     simp only[qBV,List.length_map];omega
theorem qRL(s:ByteArray)(p:Nat):∀l:List (List UInt8×Int),(∀x∈l,okU x.2.toNat.toUInt8=true)->∀m,(qDy s p l).2=some m->okU m.toNat.toUInt8=true
 |[],_,m,h=>by simp[qDy]at h
 | x :: l, hx, m, h => by
  rw[qDy]at h;split at h
  ·dsimp only at h;split at h
   ·simp only[Option.some.injEq]at h;subst h;exact hx x (List.mem_cons_self ..)
   ·cases h
  ·exact qRL s p l (fun y hy=>hx y (List.mem_cons_of_mem _ hy)) m h
theorem qHG(s:ByteArray)(ends:List UInt8):∀f p acc l,(∀c∈acc,okU c=true)->(qB3 s ends f p acc).2=some l->∀c∈l,okU c=true
 |0,p,acc,l,_,h=>by simp[qB3]at h
 | f + 1, p, acc, l, ha, h => by
  rw[qB3]at h;split at h
  ·simp only[Option.some.injEq]at h;subst h;exact ha
  ·rename_i hz;split at h
   ·have hr:=fun m=>qRL s (p+1) refsL (by decide) m;cases hm:(qFu s (p+1)).2 with
    |none=>rw[hm]at h;cases h
    |some m =>
     rw[hm]at h;refine qHG s ends f _ _ l (fun c hc=>?_) h;rcases List.mem_append.1 hc with hc|hc
     ·exact ha c hc
     ·rw[List.mem_singleton.1 hc];exact hr m hm
   ·refine qHG s ends f _ _ l (fun c hc=>?_) h;rcases List.mem_append.1 hc with hc|hc
    ·exact ha c hc
    ·rw[List.mem_singleton.1 hc];obtain⟨d,-,h2,h3⟩:=qFr (s:=s) (p:=p) (fun e=>hz (.inl e));rw[h2];have:((d.toNat:Int)).toNat.toUInt8=d:=UInt8.toNat_inj.1 (by rw[Int.toNat_natCast,Nat.toUInt8,UInt8.toNat_ofNat'];have:=d.toNat_lt;omega);rw[this];exact h3
theorem qR3{s:ByteArray}{p:Nat}{m:List UInt8}(h:(qBW s p).2=some m):∀c∈m,okU c=true:=by
 unfold qBW at h;split at h
 ·cases h
 ·have hc:=fun l=>qHG s [60,34] (s.size+1) (qAo s [34] p).1 [] l (by simp);cases hm:(qAU s [60,34] (qAo s [34] p).1).2 with
  |none=>rw[hm]at h;cases h
  | some l =>
   rw[hm]at h;dsimp only at h;split at h
   ·simp only[Option.some.injEq]at h;subst h;exact hc l hm
   ·cases h
theorem qSO{s:ByteArray}{p:Nat}{l:List (ByteArray×ByteArray)}{x:ByteArray×ByteArray}(h:(qBk s p l).2=some x):NmOk x.1/\(∀c∈x.2.data.toList,okU c=true)/\hasN l x.1=false:=by
 unfold qBk at h;cases hn:(qBQ s p (hasN l)).2 with
 |none=>rw[hn]at h;cases h
 | some n =>
  rw[hn]at h;obtain⟨h1,h2⟩:=qJ6 hn;dsimp only at h;split at h
  ·have hv:=fun m=>qR3 (s:=s) (p:=(qBQ s p (hasN l)).1+1) (m:=m);cases hm:(qBW s ((qBQ s p (hasN l)).1+1)).2 with
   |none=>rw[hm]at h;cases h
   |some m =>
    rw[hm]at h;simp only[Option.some.injEq]at h;subst h;exact⟨h1,by simpa using hv m hm,h2⟩
  ·simp only[Option.some.injEq]at h;subst h;exact⟨h1,by simp,h2⟩
theorem AtsOk.snoc{l:List (ByteArray×ByteArray)}{x:ByteArray×ByteArray}(h:AtsOk l)(hx:NmOk x.1/\(∀c∈x.2.data.toList,okU c=true)/\hasN l x.1=false):AtsOk (l++[x]):=by
 intro pre y post e;rcases List.eq_nil_or_concat post with rfl|⟨post',z,rfl⟩
 ·obtain⟨e1,e2⟩:=List.append_inj' e rfl;cases e2;subst e1;exact hx
 ·have e':l++[x]=(pre++y::post')++[z]:=by rw[e];simp
  obtain⟨e1,-⟩:=List.append_inj' e' rfl;exact h pre y post' e1
theorem qKq(s:ByteArray):∀f p l l',AtsOk l->(qBc s f p l).2=some l'->AtsOk l'
 |0,p,l,l',_,h=>by simp[qBc]at h
 | f + 1, p, l, l', hl, h => by
  rw[qBc]at h;split at h
  ·have ha:=fun x=>qSO (s:=s) (p:=qBM qAV s p) (l:=l) (x:=x);cases hm:(qBk s (qBM qAV s p) l).2 with
   |none=>rw[hm]at h;cases h
   |some x =>
    rw[hm]at h;exact qKq s f _ _ l' (hl.snoc (ha x hm)) h
  ·simp only[Option.some.injEq]at h;subst h;exact hl
theorem qMX{b:BS}{ch:List Nat}(hw:Bw b ch)(h:qEy b=false):b.els.length<100/\ch.length<12:=by
 unfold qEy at h;rw[hw.dep]at h;simp at h;omega
theorem qQA{b:BS}{ch:List Nat}(hw:Bw b ch):b.opn=-1↔ch=[]:=by
 have:=hw.chn;generalize b.opn=o at this;cases this with
 |nil=>simp
 |cons hx hp h=>simp
theorem qPF(s:ByteArray)(p:Nat)(b:BS):(qAW s p b).2.2=0\/(qAW s p b).2.2=2\/(qAW s p b).2.2=3:=by
 unfold qAW;split
 ·split
  ·dsimp only;split<;>simp
  ·split
   ·unfold endP
    repeat' split
    all_goals simp
   ·unfold qCn;split
    ·simp
    ·unfold qBo;split
     ·simp
     ·split
      ·simp
      ·dsimp only;split<;>simp
 ·unfold qEX;split
  ·simp
  ·split<;>simp
theorem qJC{s:ByteArray}:∀(f p:Nat)(b:BS),(qAr s f p b true).2.2≠0
 |0,p,b=>by simp[qAr]
 | f + 1, p, b => by
  rw[qAr];split
  ·split<;>simp
  ·split
   ·rename_i h;rw[h];decide
   ·rw[Bool.true_or];exact qJC f _ _
theorem qQ2{s n:ByteArray}{p:Nat}{taken:ByteArray->Bool}(h:(qBQ s p taken).2=some n):(qBQ s p taken).1=p+n.data.toList.length:=by
 unfold qBQ at h ⊢;split at h
 ·cases h
 ·rename_i h1;split at h
  ·cases h
  ·rename_i h2;split at h
   ·cases h
   ·rename_i h3;rw[if_neg h1,if_neg h2,if_neg h3];simp only[Option.some.injEq]at h;subst h;have hl:qBY (qAC s p)=true:=by simpa using h1
    have h0:qAC s p≠0:=fun e=>by rw[e]at hl;revert hl;decide
    have hp:=qAX h0;have e:=qCV (s:=s) (p:=p) (by omega);have e2:=qCW (s:=s) (p:=p) (by omega);have e3:(qCF s p).data.toList.length=(qCF s p).size:=by rw[Array.length_toList];rfl
    dsimp only;omega
theorem qGL(s:ByteArray):∀(l:List UInt8)(p:Nat),(qAo s l p).2=true->(qAo s l p).1=p+l.length
 |[],p,_=>rfl
 | c :: l, p, h => by
  rw[qAo]at h ⊢;split at h
  ·rename_i hc;rw[if_pos hc,qGL s l (p+1) h];simp;omega
  ·cases h
theorem qQT(s:ByteArray):∀(l:List UInt8)(p:Nat),(∀c∈l,c≠0)->(qEh s l p).2=true->(qEh s l p).1=p+l.length
 |[],p,_,_=>rfl
 | c :: l, p, hl, h => by
  rw[qEh]at h ⊢;split at h
  ·rename_i hc;have h0:qAC s p≠0:=fun e=>by
    rw[e]at hc;have:(c.toNat:Int)=0:=hc.symm.trans (by decide);exact hl c (List.mem_cons_self ..) (UInt8.toNat_inj.1 (by show c.toNat=0;omega))
   have sk:skipP s p=p+1:=by unfold skipP;rw[if_neg h0]
   rw[if_pos hc,sk] ;rw[sk]at h;rw[qQT s l (p+1) (fun d hd=>hl d (List.mem_cons_of_mem _ hd)) h];simp;omega
  ·cases h
theorem qR4{s:ByteArray}{p:Nat}{m:List UInt8}(hp:p<=s.size)(h:(qBW s p).2=some m):p+m.length+2<=(qBW s p).1:=by
 unfold qBW at h ⊢;split at h
 ·cases h
 ·rename_i h1;rw[if_neg h1];have h1':(qAo s [34] p).2=true:=by simpa using h1
  have e1:=qGL s [34] p h1';have e1':=qBi s [34] p hp;cases hm:(qAU s [60,34] (qAo s [34] p).1).2 with
  |none=>rw[hm]at h;cases h
  | some l =>
   rw[hm]at h;dsimp only at h ⊢;split at h
   ·rename_i h2;simp only[Option.some.injEq]at h;subst h;have e2:=qD5 s [60,34] (s.size+1) (qAo s [34] p).1 [] l e1'.2 hm;have e3:=qGL s [34] _ h2;rw[e3];simp only[List.length_singleton,List.length_nil]at e1 e2 ⊢;have e2:(qAo s [34] p).1+l.length<=(qAU s [60,34] (qAo s [34] p).1).1+0:=e2;omega
   ·cases h
theorem qSR{s:ByteArray}{p:Nat}{l:List (ByteArray×ByteArray)}{x:ByteArray×ByteArray}(hp:p<=s.size)(h:(qBk s p l).2=some x):(qFR x).length<=6*((qBk s p l).1-p+1)/\p<=(qBk s p l).1/\(qBk s p l).1<=s.size:=by
 have hle:=qHB s p l hp;refine⟨?_,hle⟩;unfold qBk at h ⊢;have hn':=qCX s p (hasN l) hp;cases hn:(qBQ s p (hasN l)).2 with
 |none=>rw[hn]at h;cases h
 | some n =>
  rw[hn]at h;have e1:=qQ2 hn;dsimp only at h ⊢;have hW:∀v:ByteArray,(qFR (n,v)).length=n.data.toList.length+(qBp vsp v.data.toList).length+4:=fun v=>by simp[qFR];omega
  split at h
  ·rename_i h61;rw[if_pos h61];have hq:=qAX (s:=s) (p:=(qBQ s p (hasN l)).1) (by rw[h61];decide);have hv:=fun m=>qR4 (s:=s) (p:=(qBQ s p (hasN l)).1+1) (m:=m) hq;cases hm:(qBW s ((qBQ s p (hasN l)).1+1)).2 with
   |none=>rw[hm]at h;cases h
   |some m =>
    rw[hm]at h;simp only[Option.some.injEq]at h;subst h;have e2:=hv m hm;have e3:=(qHJ vsp m).1;rw[hW];dsimp only;omega
  ·rename_i h61;rw[if_neg h61];simp only[Option.some.injEq]at h;subst h;have th:(qBp vsp (⟨#[]⟩:ByteArray).data.toList).length=0:=rfl;rw[hW,th];dsimp only;omega
theorem qKs{s:ByteArray}:∀(f p:Nat)(l l':List (ByteArray×ByteArray)),p<=s.size->(qBc s f p l).2=some l'->(qAh l').length<=(qAh l).length+6*((qBc s f p l).1-p)/\p<=(qBc s f p l).1/\(qBc s f p l).1<=s.size
 |0,p,l,l',_,h=>by simp[qBc]at h
 | f + 1, p, l, l', hp, h => by
  have hr:=qEn (f:=qAV) (by decide) hp;rw[qBc]at h ⊢;split at h
  ·rename_i hc;rw[if_pos hc];have ha:=fun x=>qSR (s:=s) (p:=qBM qAV s p) (l:=l) (x:=x) hr.2;cases hm:(qBk s (qBM qAV s p) l).2 with
   |none=>rw[hm]at h;cases h
   |some x =>
    rw[hm]at h;obtain⟨a1,a2,a3⟩:=ha x hm;dsimp only at h ⊢;obtain⟨i1,i2,i3⟩:=qKs f _ (l++[x]) l' a3 h;have e:(qAh (l++[x])).length=(qAh l).length+(qFR x).length:=by simp[qAh]
    rw[e]at i1;refine⟨?_,by omega,i3⟩;have:=hc.1;omega
  ·rename_i hc;rw[if_neg hc];simp only[Option.some.injEq]at h;subst h;exact⟨by dsimp only;omega,hr⟩
theorem qPE{s:ByteArray}{p:Nat}{b:BS}{ch:List Nat}(hp:p<=s.size)(hw:Bw b ch)(h:(qAW s p b).2.2=0):∃es ch',qKi b es=(qAW s p b).2.1/\Bw (qAW s p b).2.1 ch'/\(∀es',VE (qAW s p b).2.1 ch' es'->VE b ch (es++es'))/\(qDx b es).length<=6*((qAW s p b).1-p)/\p<=(qAW s p b).1/\(qAW s p b).1<=s.size:=by
 have one:∀(e:Ev),okE b ch e->e.run b=(qAW s p b).2.1->((e.out b).length<=6*((qAW s p b).1-p)/\p<=(qAW s p b).1/\(qAW s p b).1<=s.size)->∃es ch',qKi b es=(qAW s p b).2.1/\Bw (qAW s p b).2.1 ch'/\(∀es',VE (qAW s p b).2.1 ch' es'->VE b ch (es++es'))/\(qDx b es).length<=6*((qAW s p b).1-p)/\p<=(qAW s p b).1/\(qAW s p b).1<=s.size:=by
  intro e ok he hl;refine⟨[e],chN b ch e,he,he▸hw.run ok,fun es' hv=>⟨ok,?_⟩,by simpa [qDx]using hl.1,hl.2⟩;rw[he];exact hv
 by_cases h60:qAC s p=60
 ·have hp1:p+1<=s.size:=qAX (by rw[h60];decide);by_cases h33:qAC s (p+1)=33
  ·have e:(qAW s p b).2.1=b/\(qAW s p b).1=(qA6 s (p+1)).1:=by unfold qAW;rw[if_pos h60,if_pos h33];exact⟨rfl,rfl⟩
   have hq:=qHf s (p+1) hp1;rw[e.1,e.2];exact⟨[],ch,rfl,hw,fun _ hv=>hv,Nat.zero_le _,by omega,hq.2⟩
  ·by_cases h47:qAC s (p+1)=47
   ·have e:qAW s p b=endP s (p+1) b:=by unfold qAW;rw[if_pos h60,if_neg h33,if_pos h47]
    rw[e]at h one ⊢;by_cases ho:b.opn=-1
    ·rw[qMP ho]at h;cases h
    ·have hch:ch≠[]:=fun hc=>ho ((qQA hw).2 hc);cases ch with
     |nil=>exact absurd rfl hch
     | cons k ch =>
      obtain⟨-,y,hok,hy,-⟩:=hw.fin;have hnm:=(hw.nm k (List.mem_cons_self ..) y hy).2;rw[qHI hok hy]at h one ⊢;split at h
      ·cases h
      ·rename_i h1;rw[if_neg h1]at one ⊢;split at h
       ·cases h
       ·rename_i h2;rw[if_neg h2]at one ⊢;split at h
        ·cases h
        ·rename_i h3;rw[if_neg h3]at one ⊢;have e1:=qGL s [47] (p+1) (by simpa using h1);have b1:=qBi s [47] (p+1) hp1;have e2:=qQT s y.name.data.toList (qAo s [47] (p+1)).1 (fun c hc e=>by
          have:=(qCU (hnm.low.1 c hc)).1;rw[e]at this
          revert this
          decide) (by simpa using h2)
         have b2:=qJz s y.name.data.toList (qAo s [47] (p+1)).1 b1.2;have b3:=qEn (f:=qAV) (by decide) b2.2;have e3:=qGL s [62] _ (by simpa using h3:(qAo s [62] (qBM qAV s (qEh s y.name.data.toList (qAo s [47] (p+1)).1).1)).2=true);have b4:=qBi s [62] _ b3.2;refine one .fin hch rfl ⟨?_,by dsimp only;omega,b4.2⟩;show(qJy (qLU b)).length<=_;rw[qHP hok hy];have:(qJy y.name).length=3+y.name.data.toList.length:=by simp[qJy];omega
         rw[this];simp only[List.length_singleton]at e1 e3;dsimp only;omega
   ·have e:qAW s p b=qCn s (p+1) b:=by unfold qAW;rw[if_pos h60,if_neg h33,if_neg h47]
    rw[e]at h one ⊢;unfold qCn at h one ⊢;cases hn:(qBQ s (p+1) qAI).2 with
    |none=>rw[hn]at h;cases h
    | some n =>
     rw[hn]at h one;dsimp only at h one ⊢;obtain⟨hnm,-⟩:=qJ6 hn;have hq1:=qQ2 hn;have hq2:=qCX s (p+1) qAI hp1;generalize (qBQ s (p+1) qAI).1=q at h one hq1 hq2 ⊢;unfold qBo at h one ⊢;cases ha:(qAK s q).2 with
     |none=>rw[ha]at h;cases h
     | some l =>
      rw[ha]at h one;dsimp only at h one ⊢;have hats:=qKq s (s.size+1) q [] l (fun pre x post e=>by simp at e) ha;have hway:(qAh l).length<=0+6*((qAK s q).1-q)/\q<=(qAK s q).1/\(qAK s q).1<=s.size:=qKs (s.size+1) q [] l hq2.2 ha;split at h
      ·cases h
      ·rename_i hx;rw[if_neg hx]at one ⊢;dsimp only at h one ⊢;have haf:(qAK s q).1<=qCB s (qAK s q).1/\qCB s (qAK s q).1<=s.size:=by
        unfold qCB;split
        ·rename_i h47';have:=qAX (s:=s) (p:=(qAK s q).1) (by rw[h47'];decide);omega
        ·omega
       have hx1:=qGL s [62] _ (by simpa using hx:(qAo s [62] (qCB s (qAK s q).1)).2=true);have hx2:=qBi s [62] _ haf.2;simp only[List.length_singleton]at hx1;have htl:(qFO n l).length=2+n.data.toList.length+(qAh l).length:=by simp[qFO];omega
       have hel:(qJy n).length=3+n.data.toList.length:=by simp[qJy];omega
       have hlg:qEy b=false:=by
        by_cases hl:qEy b=true
        ·rw[if_pos hl]at h;cases h
        ·simpa using hl
       obtain⟨l1,l2⟩:=qMX hw hlg;by_cases hv:qEs n=true
       ·rw[hv,Bool.or_true,if_pos rfl]at one ⊢;exact one (.void n l) ⟨hnm,hv,hats,l1,l2⟩ rfl ⟨by show(qFO n l).length<=_;omega,by omega,hx2.2⟩
       ·have hv:qEs n=false:=by simpa using hv
        rw[hv,Bool.or_false]at one ⊢;by_cases hwh:qJY s (qAK s q).1=true
        ·rw[if_pos hwh]at one ⊢;have hw1:=hw.begin n l hnm hv;refine⟨[.opens n l,.fin],ch,rfl,hw1.fin.1,fun es' hv'=>⟨⟨hnm,hv,hats,l1,l2⟩,by simp[okE,chN],hv'⟩,?_,by omega,hx2.2⟩;show(qFO n l++(qJy (qLU (b.begin n l))++[])).length<=_;rw[qHP (b:=b.begin n l) rfl (qD2 b n l)];simp only[List.length_append,List.length_nil];omega
        ·rw[if_neg hwh]at one ⊢;exact one (.opens n l) ⟨hnm,hv,hats,l1,l2⟩ rfl ⟨by show(qFO n l).length<=_;omega,by omega,hx2.2⟩
 ·have e:qAW s p b=qEX s p b:=by unfold qAW;rw[if_neg h60]
  rw[e]at h one ⊢;unfold qEX at h one ⊢;cases hm:(qAU s [60,62] p).2 with
  |none=>rw[hm]at h;cases h
  | some t =>
   rw[hm]at h one;dsimp only at h one ⊢;split at h
   ·cases h
   ·rename_i ht;rw[if_neg ht]at one ⊢;have hl:=qD5 s [60,62] (s.size+1) p [] t hp hm;have hb:=qHF s [60,62] (s.size+1) p [] hp;have he:=(qHJ tsp t).1;have hl:p+t.length<=(qAU s [60,62] p).1+0:=hl;have hb:p<=(qAU s [60,62] p).1/\(qAU s [60,62] p).1<=s.size:=hb;exact one (.text t) ⟨ht,qHG s [60,62] (s.size+1) p [] t (by simp) hm⟩ rfl ⟨by show(qBp tsp t).length<=_;dsimp only;omega,hb⟩
theorem qNp:∀(xs ys:List Ev)(c:BS),qKi c (xs++ys)=qKi (qKi c xs) ys
 |[],_,_=>rfl
 |x::xs,ys,c=>qNp xs ys (x.run c)
theorem qNg:∀(xs ys:List Ev)(c:BS),qDx c (xs++ys)=qDx c xs++qDx (qKi c xs) ys
 |[],_,_=>rfl
 |x::xs,ys,c=>by
  show x.out c++qDx (x.run c) (xs++ys)=(x.out c++qDx (x.run c) xs)++_;rw[qNg xs ys (x.run c),List.append_assoc];rfl
theorem qID{s:ByteArray}:∀(f p:Nat)(b:BS)(ch:List Nat)(lim:Bool),p<=s.size->Bw b ch->(qAr s f p b lim).2.2=0->lim=false/\∃es,VE b ch es/\qKi b es=(qAr s f p b lim).2.1/\(qDx b es).length<=6*(s.size-p)
 |0,p,b,ch,lim,_,_,h=>by simp[qAr]at h
 | f + 1, p, b, ch, lim, hps, hw, h => by
  rw[qAr]at h ⊢;by_cases hp:p=s.size
  ·rw[if_pos hp]at h ⊢;by_cases ho:b.opn=-1
   ·rw[if_pos ho]at h ⊢;cases lim with
    |true=>cases h
    |false=>exact⟨rfl,[],(qQA hw).1 ho,rfl,Nat.zero_le _⟩
   ·rw[if_neg ho]at h;cases h
  ·rw[if_neg hp]at h ⊢;by_cases h2:(qAW s p b).2.2=2
   ·rw[if_pos h2]at h;rw[h2]at h;cases h
   ·rw[if_neg h2]at h ⊢;by_cases h0:(qAW s p b).2.2=0
    ·obtain⟨es,ch',e1,e2,e3,e4,e5,e6⟩:=qPE hps hw h0;obtain⟨g1,es',g2,g3,g4⟩:=qID f _ _ ch' _ e6 e2 h;refine⟨?_,es++es',e3 es' g2,by rw[qNp,e1,g3],?_⟩
     ·cases lim with
      |false=>rfl
      |true=>rw[Bool.true_or]at g1;cases g1
     ·rw[qNg,List.length_append,e1];omega
    ·have h3:(qAW s p b).2.2=3:=by have:=qPF s p b;omega
     rw[h3]at h;simp only[beq_self_eq_true,Bool.or_true]at h;exact absurd h (qJC f _ _)
theorem qLA{s:ByteArray}(h:(qAs s).2.2=0):∃out,qG0 (qAs s).2.1=some out/\out.length<=6*s.size/\(∀W:ByteArray,W.data.toList=out->qAs W=(W.size,(qAs s).2.1,0))/\∀(i:Nat)(x:El),(qAs s).2.1.els[i]? = some x->NmOk x.name/\AtsOk x.attrs:=by
 obtain⟨-,es,h1,h2,h3⟩:=qID (s:=s) (s.size+1) 0 b0 [] false (Nat.zero_le _) ⟨.nil,rfl,by simp⟩ h;have h2:qKi b0 es=(qAs s).2.1:=h2;refine⟨qDx b0 es,by rw[<-h2];exact qTv h1,h3,fun W hW=>by rw[<-h2];exact qTC h1 hW,?_⟩;rw[<-h2];have key:∀(es:List Ev)(c:BS)(ch:List Nat),Bw c ch->VE c ch es->(∀(i:Nat)(x:El),c.els[i]? = some x->NmOk x.name/\AtsOk x.attrs)->∀(i:Nat)(x:El),(qKi c es).els[i]? = some x->NmOk x.name/\AtsOk x.attrs:=by
  intro es
  induction es with
  |nil=>intro c ch _ _ hc;exact hc
  | cons e es ih =>
   intro c ch hw hv hc;refine ih (e.run c) _ (hw.run hv.1) hv.2 fun i x hx=>?_;cases e with
   |text t=>exact hc i x hx
   | opens n l =>
    have hx:(c.els++[⟨n,c.opn,l,(c.txt.length:Int),0⟩])[i]? = some x:=hx;rw[List.getElem?_append]at hx;split at hx
    ·exact hc i x hx
    ·have:=List.mem_of_getElem? hx;rw[List.mem_singleton]at this;subst this;exact⟨hv.1.1,hv.1.2.2.1⟩
   | void n l =>
    have hx:(c.begin n l).fin.els[i]? = some x:=hx;rw[qKb]at hx;dsimp only at hx;rw[List.getElem?_append]at hx;split at hx
    ·exact hc i x hx
    ·have:=List.mem_of_getElem? hx;rw[List.mem_singleton]at this;subst this;exact⟨hv.1.1,hv.1.2.2.1⟩
   | fin =>
    cases ch with
    |nil=>exact absurd rfl hv.1
    | cons k ch =>
     obtain⟨-,y,hok,hy,hfe⟩:=hw.fin;have hx:c.fin.els[i]? = some x:=hx;rw[hfe]at hx;dsimp only at hx;have hk:=(List.getElem?_eq_some_iff.1 hy).1;by_cases hik:i=k
     ·subst hik;simp[hk]at hx;subst hx;exact hc i y hy
     ·simp[Ne.symm hik]at hx;exact hc i x hx
 exact key es b0 [] ⟨.nil,rfl,by simp⟩ h1 (fun i x hx=>by simp[b0]at hx)
