/-
  Parts of the proof: J0, J1, J2, J3.
-/
import Derived.Test.YtclpcnignheijaaGreatDoorQ4
set_option maxHeartbeats 4000000
set_option maxRecDepth 100000
namespace Go.Proofs.YtclpcnignheijaaGreatDoor
open Go.RowKit Go.Proofs.Tryz
theorem qOW(l:List UInt8)(a c:Nat):(⟨l.toArray⟩:ByteArray).extract a c=⟨((l.drop a).take (c-a)).toArray⟩:=by
 have h:=Lib.extract_data (⟨l.toArray⟩:ByteArray) a c;cases h2:(⟨l.toArray⟩:ByteArray).extract a c with
 |mk d =>
  rw[h2]at h;congr 1;apply Array.ext';simpa using h
theorem _root_.Go.RowKit.Below.drewN'{B:Nat}{a w:World}(h:Below B a w)(n:Nat):Below B a (w.drewN n):=⟨h.os,h.tape,h.output,h.size,h.block⟩
theorem Dc.below{B db:Nat}{w w':World}{b:BS}(h:Dc w B db b)(k:Below w.heap.size w w'):Dc w' B db b:=by
 obtain⟨ve,avs,a1,a2,a3,a5⟩:=h;have K:Kp 0 [] w w':=Kp.ofBelow k;exact⟨ve,avs,K.at a1 (by simp),a2,K.owns a3 (by simp),fun i x a hx ha=>K.owns (a5 i x a hx ha) (by simp)⟩
def qE6(l:List (ByteArray×ByteArray))(n:ByteArray):ByteArray×Bool :=
 match l.find? (fun x=>x.1.toList==n.toList)with
 |some x=>(x.2,true)
 |none=>(⟨#[]⟩,false)
def RowC(w:World)(v:Value)(n size:Nat)(f:Nat->Nat->Value):Prop :=
 ∃ao cap,v=.slice ao n cap/\(0<n->∃g,ao=some ⟨g,0,none⟩/\∀i,i<n->∀j,j<size->w.cell? ⟨g,i*size+j,none⟩=some (f i j))
def elC(b:BS)(av:Nat->Value)(i j:Nat):Value :=
 match b.els[i]? with
 |none=>.bool false
 |some x=>match j with
  |0=>.string x.name
  |1=>.int .i64 x.parent
  |2=>av i
  |3=>.int .i64 x.lo
  |_=>.int .i64 x.hi
def atC(l:List (ByteArray×ByteArray))(i j:Nat):Value :=
 match l[i]? with
 |none=>.bool false
 |some x=>if j=0 then .string x.1 else .string x.2
structure TrC(w:World)(tb:Nat)(b:BS):Prop where
 txt:w.cell? ⟨tb,1,none⟩=some (.string ⟨b.txt.toArray⟩)
 els:∃ve av,w.cell? ⟨tb,0,none⟩=some ve/\RowC w ve b.els.length 5 (elC b av)/\∀i x,b.els[i]? = some x->RowC w (av i) x.attrs.length 2 (atC x.attrs)
def qCu(w w':World):Prop:=∀a v,w.cell? a=some v->w'.cell? a=some v
theorem RowC.same{w w':World}(k:qCu w w'){v:Value}{n size:Nat}{f:Nat->Nat->Value}(h:RowC w v n size f):RowC w' v n size f:=by
 obtain⟨ao,cap,rfl,h⟩:=h;exact⟨ao,cap,rfl,fun hn=>by obtain⟨g,e,hg⟩:=h hn;exact⟨g,e,fun i hi j hj=>k _ _ (hg i hi j hj)⟩⟩
theorem TrC.same{w w':World}(k:qCu w w'){tb:Nat}{b:BS}(h:TrC w tb b):TrC w' tb b:=by
 obtain⟨h1,ve,av,h2,h3,h4⟩:=h;exact⟨k _ _ h1,ve,av,k _ _ h2,h3.same k,fun i x hx=>(h4 i x hx).same k⟩
theorem qUn(tb:Nat)(b:BS)(n:Int)(w:World)(h:TrC w tb b)(hn:-9223372036854775808<=n/\n<=9223372036854775807) :
  Calls prog 73 #[.pointer (some ⟨tb,0,none⟩),.int .i64 n] w fun e w'=>e=.returned (.bool (decide (0<=n/\n<(b.els.length:Int))))/\w'=w:=by
 obtain⟨h1,ve,av,c0,⟨ao,cp,rfl,h3⟩,h4⟩:=h;clear h3 h4 h1;by_cases h0:n<0
 ·have e:decide (0<=n/\n<(b.els.length:Int))=false:=by simp;omega
  rw[e];go_enter func73,ntmps73
  go_wp2
  go_ret
  exact⟨rfl,rfl⟩
 ·have h2:0<=n:=by omega
  have e:decide (0<=n/\n<(b.els.length:Int))=decide (n<(b.els.length:Int)):=by simp[h2]
  rw[e];clear e h0;go_enter func73,ntmps73
  go_wp2
  go_ret
  exact⟨rfl,rfl⟩
theorem TrC.el{w:World}{tb:Nat}{b:BS}(h:TrC w tb b){k:Nat}{x:El}(hx:b.els[k]? = some x):∃g cap av,w.cell? ⟨tb,0,none⟩=some (.slice (some ⟨g,0,none⟩) b.els.length cap)/\w.cell? ⟨g,k*5,none⟩=some (.string x.name)/\w.cell? ⟨g,k*5+1,none⟩=some (.int .i64 x.parent)/\w.cell? ⟨g,k*5+2,none⟩=some av /\
  w.cell? ⟨g,k*5+3,none⟩=some (.int .i64 x.lo)/\w.cell? ⟨g,k*5+4,none⟩=some (.int .i64 x.hi)/\RowC w av x.attrs.length 2 (atC x.attrs)/\∀i y,b.els[i]? = some y->w.cell? ⟨g,i*5+1,none⟩=some (.int .i64 y.parent):=by
 obtain⟨h1,ve,av,c0,⟨ao,cp,rfl,h3⟩,h4⟩:=h;have hk:k<b.els.length:=(List.getElem?_eq_some_iff.1 hx).1;obtain⟨g,rfl,hg⟩:=h3 (by omega);have at':∀j,j<5->w.cell? ⟨g,k*5+j,none⟩=some (elC b av k j):=fun j hj=>hg k hk j hj;refine⟨g,cp,av k,c0,?_,?_,?_,?_,?_,h4 k x hx,fun i y hy=>?_⟩
 ·have:=at' 0 (by omega);simpa [elC,hx]using this
 ·have:=at' 1 (by omega);simpa [elC,hx]using this
 ·have:=at' 2 (by omega);simpa [elC,hx]using this
 ·have:=at' 3 (by omega);simpa [elC,hx]using this
 ·have:=at' 4 (by omega);simpa [elC,hx]using this
 ·have:=hg i (List.getElem?_eq_some_iff.1 hy).1 1 (by omega);simpa [elC,hy]using this
theorem qCe(tb:Nat)(b:BS)(k:Nat)(w:World)(h:TrC w tb b)(hk:k<b.els.length)(hs:b.els.length<=5000) :
  Calls prog 73 #[.pointer (some ⟨tb,0,none⟩),.int .i64 (k:Int)] w fun e w'=>e=.returned (.bool true)/\w'=w:=by
 refine(qUn tb b k w h (by omega)).mono ?_;rintro e w'⟨rfl,rfl⟩;exact⟨by rw[show decide (0<=(k:Int)/\(k:Int)<(b.els.length:Int))=true from by simp;omega],rfl⟩
theorem qQg(tb:Nat)(b:BS)(n:Int)(w:World)(h:TrC w tb b)(hn:-9223372036854775808<=n/\n<=9223372036854775807)(ho:n<0\/(b.els.length:Int)<=n) :
  Calls prog 73 #[.pointer (some ⟨tb,0,none⟩),.int .i64 n] w fun e w'=>e=.returned (.bool false)/\w'=w:=by
 refine(qUn tb b n w h hn).mono ?_;rintro e w'⟨rfl,rfl⟩;exact⟨by rw[show decide (0<=n/\n<(b.els.length:Int))=false from by simp;omega],rfl⟩
theorem qIA(tb:Nat)(b:BS)(k:Nat)(x:El)(w:World)(h:TrC w tb b)(hx:b.els[k]? = some x)(hs:b.els.length<=5000) :
  Calls prog 65 #[.pointer (some ⟨tb,0,none⟩),.int .i64 (k:Int)] w fun e w'=>e=.returned (.int .i64 x.parent)/\w'=w:=by
 have hk:k<b.els.length:=(List.getElem?_eq_some_iff.1 hx).1;obtain⟨g,cap,av,c0,d0,d1,d2,d3,d4,-,-⟩:=h.el hx;go_enter func65,ntmps65
 go_wp2_with (go_at_call 73;refine(qCe tb b k _ h hk hs).mono ?_;rintro e w1 ⟨rfl,rfl⟩)
 go_ret
 exact⟨rfl,rfl⟩
theorem qPC(tb:Nat)(b:BS)(n:Int)(w:World)(h:TrC w tb b)(hn:-9223372036854775808<=n/\n<=9223372036854775807)(ho:n<0\/(b.els.length:Int)<=n) :
  Calls prog 65 #[.pointer (some ⟨tb,0,none⟩),.int .i64 n] w fun e w'=>e=.returned (.int .i64 (-1))/\w'=w:=by
 go_enter func65,ntmps65
 go_wp2_with (go_at_call 73;refine(qQg tb b n _ h hn ho).mono ?_;rintro e w1 ⟨rfl,rfl⟩)
 go_ret
 exact⟨rfl,rfl⟩
theorem qQx(tb:Nat)(b:BS)(k:Nat)(x:El)(w:World)(h:TrC w tb b)(hx:b.els[k]? = some x)(hs:b.els.length<=5000) :
  Calls prog 64 #[.pointer (some ⟨tb,0,none⟩),.int .i64 (k:Int)] w fun e w'=>e=.returned (.string x.name)/\w'=w:=by
 have hk:k<b.els.length:=(List.getElem?_eq_some_iff.1 hx).1;obtain⟨g,cap,av,c0,d0,d1,d2,d3,d4,-,-⟩:=h.el hx;go_enter func64,ntmps64
 go_wp2_with (go_at_call 73;refine(qCe tb b k _ h hk hs).mono ?_;rintro e w1 ⟨rfl,rfl⟩)
 go_ret
 exact⟨rfl,rfl⟩
theorem TrC.drewN{w:World}{tb:Nat}{b:BS}(h:TrC w tb b)(n:Nat):TrC (w.drewN n) tb b:=by
 have k:qCu w (w.drewN n):=fun _ _ e=>e;exact h.same k
def qFq(b:BS)(k:Nat):Int:=match b.els[k]? with|some x=>x.parent|none=>-1
def qCk(b:BS)(par:Int):Nat->Int
 |0=>-1
 |m+1=>if par<(m:Int)then(if qFq b m=par then(m:Int)else qCk b par m)else -1
def qA3(b:BS)(k:Nat):Int:=qCk b (qFq b k) k
def qT0(b:BS)(par:Int):Nat->Nat->Int
 |0,_=>-1
 |f+1,m=>if m<b.els.length then(if qFq b m=par then(m:Int)else qT0 b par f (m+1))else -1
def qPf(b:BS)(k:Nat):Int:=qT0 b (qFq b k) (b.els.length+1) (k+1)
theorem qST(tb:Nat)(b:BS)(k:Nat)(x:El)(w:World)(h:TrC w tb b)(hx:b.els[k]? = some x)(hs:b.els.length<=5000)(hp:-1<=x.parent) :
  Calls prog 200 #[.pointer (some ⟨tb,0,none⟩),.int .i64 (k:Int)] w fun e w'=>e=.returned (.int .i64 (qA3 b k))/\w'.heap=w.heap/\w'.os=w.os/\w'.output=w.output/\w'.tape=w.tape:=by
 have hk:k<b.els.length:=(List.getElem?_eq_some_iff.1 hx).1;obtain⟨g,cap,av,c0,d0,d1,d2,d3,d4,-,dp⟩:=h.el hx;have HP:Hid (qA3 b k=qCk b x.parent k):=by unfold qA3 qFq;rw[hx];rfl
 clear d0 d1 d2 d3 d4;go_enter func200,ntmps200
 go_wp2_with (first|(go_at_call 65;refine(qIA tb b k x _ h hx hs).mono ?_;rintro e w1 ⟨rfl,rfl⟩)|(go_at_call 73;refine(qCe tb b k _ h hk hs).mono ?_;rintro e w1 ⟨rfl,rfl⟩))
 go_loopw [6] (fun i wr=>∃j:Nat,i=.int .i64 ((j:Int)-1)/\j<=k/\wr=w1/\Hid (qCk b x.parent j=qA3 b k)) (fun i _=>(intOf i+1).toNat)
 case atStart=>exact⟨k,rfl,Nat.le_refl _,rfl,HP.out.symm⟩
 case round =>
  obtain⟨j,rfl,hj,rfl,HQ⟩:=hrel;cases j with
  |zero =>
   have HE:Hid (qA3 b k=-1):=HQ.out.symm;have hno:¬x.parent < -1:=by omega
   rw[show((0:Nat):Int)-1=-1 from rfl];clear HQ HP;go_wp2_with (go_at_call 73;refine(qCe tb b k _ h hk hs).mono ?_;rintro e w2 ⟨rfl,rfl⟩)
   go_ret
   rw[HE.out];exact⟨rfl,rfl,rfl,rfl,rfl⟩
  | succ m =>
   rw[show((m+1:Nat):Int)-1=(m:Int) from by omega];obtain⟨y,hy⟩:∃y,b.els[m]? = some y:=⟨b.els[m]'(by omega),List.getElem?_eq_getElem (by omega)⟩;have hpm:qFq b m=y.parent:=by unfold qFq;rw[hy]
   have e1:=dp m y hy;by_cases hlt:x.parent<(m:Int)
   ·by_cases heq:y.parent=x.parent
    ·have HE:Hid (qA3 b k=(m:Int)):=by
      refine HQ.out.symm.trans ?_;unfold qCk;rw[if_pos hlt,hpm,if_pos heq]
     clear HQ HP hpm hy;rw[heq]at e1;go_wp2_with (go_at_call 73;refine(qCe tb b k _ h hk hs).mono ?_;rintro e w2 ⟨rfl,rfl⟩)
     go_ret
     rw[HE.out];exact⟨rfl,rfl,rfl,rfl,rfl⟩
    ·have HE:Hid (qCk b x.parent m=qA3 b k):=by
      refine Eq.trans ?_ HQ.out
      conv=>rhs;unfold qCk
      rw[if_pos hlt,hpm,if_neg heq]
     clear HQ HP hpm hy;go_wp2_with (go_at_call 73;refine(qCe tb b k _ h hk hs).mono ?_;rintro e w2 ⟨rfl,rfl⟩)
     go_roundw
     case rel=>exact⟨m,by go_num,by omega,trivial,HE⟩
     case measure=>simp[intOf]
   ·have HE:Hid (qA3 b k=-1):=by
     refine HQ.out.symm.trans ?_;unfold qCk;rw[if_neg hlt]
    clear HQ HP;go_wp2_with (go_at_call 73;refine(qCe tb b k _ h hk hs).mono ?_;rintro e w2 ⟨rfl,rfl⟩)
    go_ret
    rw[HE.out];exact⟨rfl,rfl,rfl,rfl,rfl⟩
theorem qSU(tb:Nat)(b:BS)(k:Nat)(x:El)(w:World)(h:TrC w tb b)(hx:b.els[k]? = some x)(hs:b.els.length<=5000) :
  Calls prog 201 #[.pointer (some ⟨tb,0,none⟩),.int .i64 (k:Int)] w fun e w'=>e=.returned (.int .i64 (qPf b k))/\w'.heap=w.heap/\w'.os=w.os/\w'.output=w.output/\w'.tape=w.tape:=by
 have hk:k<b.els.length:=(List.getElem?_eq_some_iff.1 hx).1;obtain⟨g,cap,av,c0,d0,d1,d2,d3,d4,-,dp⟩:=h.el hx;have HP:Hid (qPf b k=qT0 b x.parent (b.els.length+1) (k+1)):=by unfold qPf qFq;rw[hx];rfl
 clear d0 d2 d3 d4;go_enter func201,ntmps201
 go_wp2
 go_loopw [5] (fun i wr=>∃j f:Nat,i=.int .i64 (j:Int)/\k<j/\b.els.length<j+f/\j<=b.els.length/\TrC wr tb b/\wr.heap=w.heap/\wr.os=w.os/\wr.output=w.output/\wr.tape=w.tape/\Hid (qT0 b x.parent f j=qPf b k)) (fun i _=>(5001-intOf i).toNat)
 case atStart=>exact⟨k+1,b.els.length+1,by go_num,by omega,by omega,by omega,h,rfl,rfl,rfl,rfl,HP.out.symm⟩
 case round =>
  obtain⟨j,f,rfl,hkj,hf,hjl,hT,hw1,hw2,hw3,hw4,HQ⟩:=hrel;have cellsame:∀a,wr.cell? a=w.cell? a:=fun a=>by unfold World.cell?;rw[hw1]
  have c0':wr.cell? ⟨tb,0,none⟩=some (.slice (some ⟨g,0,none⟩) b.els.length cap):=by rw[cellsame];exact c0
  have d1':wr.cell? ⟨g,k*5+1,none⟩=some (.int .i64 x.parent):=by rw[cellsame];exact d1
  obtain⟨f,rfl⟩:∃f',f=f'+1:=⟨f-1,by omega⟩;by_cases hlt:j<b.els.length
  ·obtain⟨y,hy⟩:∃y,b.els[j]? = some y:=⟨b.els[j]'hlt,List.getElem?_eq_getElem hlt⟩;have hpm:qFq b j=y.parent:=by unfold qFq;rw[hy]
   have e1:wr.cell? ⟨g,j*5+1,none⟩=some (.int .i64 y.parent):=by rw[cellsame];exact dp j y hy
   by_cases heq:y.parent=x.parent
   ·have HE:Hid (qPf b k=(j:Int)):=by
     refine HQ.out.symm.trans ?_;unfold qT0;rw[if_pos hlt,hpm,if_pos heq]
    clear HQ HP hpm hy c0 d1 dp cellsame;rw[heq]at e1;go_wp2_with fail
    refine(qCe tb b k _ hT hk hs).mono ?_;rintro e w2⟨rfl,rfl⟩;go_wp2_with fail
    refine(qCe tb b j _ hT hlt hs).mono ?_;rintro e w2⟨rfl,rfl⟩;go_wp2
    go_quiet (fail)
    go_wp2
    go_ret
    rw[HE.out];exact⟨rfl,hw1,hw2,hw3,hw4⟩
   ·have HE:Hid (qT0 b x.parent f (j+1)=qPf b k):=by
     refine Eq.trans ?_ HQ.out
     conv=>rhs;unfold qT0
     rw[if_pos hlt,hpm,if_neg heq]
    clear HQ HP hpm hy c0 d1 dp cellsame;go_wp2_with fail
    refine(qCe tb b k _ hT hk hs).mono ?_;rintro e w2⟨rfl,rfl⟩;go_wp2_with fail
    refine(qCe tb b j _ hT hlt hs).mono ?_;rintro e w2⟨rfl,rfl⟩;go_wp2
    go_quiet (fail)
    go_wp2
    go_roundw
    case rel=>exact⟨j+1,f,by go_num,by omega,by omega,by omega,hT.drewN _,hw1,hw2,hw3,hw4,HE⟩
    case measure=>simp[intOf];omega
  ·have HE:Hid (qPf b k=-1):=by
    refine HQ.out.symm.trans ?_;unfold qT0;rw[if_neg hlt]
   clear HQ HP c0 d1 dp cellsame;have hj1:-9223372036854775808<=(j:Int)/\(j:Int)<=9223372036854775807:=by omega
   have hj2:(j:Int)<0\/(b.els.length:Int)<=(j:Int):=by omega
   go_wp2_with fail
   refine(qCe tb b k _ hT hk hs).mono ?_;rintro e w2⟨rfl,rfl⟩;go_wp2_with fail
   refine(qQg tb b (j:Int) _ hT hj1 hj2).mono ?_;rintro e w2⟨rfl,rfl⟩;go_wp2
   go_ret
   rw[HE.out];exact⟨rfl,hw1,hw2,hw3,hw4⟩
def qGk(b:BS)(k:Nat):Bool:=decide (qFq b (k+1)=(k:Int))
theorem qUl(tb:Nat)(b:BS)(k:Nat)(x:El)(w:World)(h:TrC w tb b)(hx:b.els[k]? = some x)(hs:b.els.length<=5000) :
  Calls prog 199 #[.pointer (some ⟨tb,0,none⟩),.int .i64 (k:Int)] w fun e w'=>e=.returned (.bool (qGk b k))/\w'=w:=by
 have hk:k<b.els.length:=(List.getElem?_eq_some_iff.1 hx).1;go_enter func199,ntmps199
 by_cases hlt:k+1<b.els.length
 ·obtain⟨y,hy⟩:∃y,b.els[k+1]? = some y:=⟨b.els[k+1]'hlt,List.getElem?_eq_getElem hlt⟩;have HE:Hid (qGk b k=decide (y.parent=(k:Int))):=by unfold qGk qFq;rw[hy];rfl
  have hc:=fun w h=>qIA tb b (k+1) y w h hy hs;rw[show((k+1:Nat):Int)=(k:Int)+1 from by omega]at hc;clear hy;go_wp2_with fail
  refine(qCe tb b k _ h hk hs).mono ?_;rintro e w2⟨rfl,rfl⟩;go_wp2_with fail
  refine(hc _ h).mono ?_;rintro e w2⟨rfl,rfl⟩;go_wp2
  go_ret
  rw[HE.out];exact⟨rfl,rfl⟩
 ·have HE:Hid (qGk b k=false):=by
   unfold qGk qFq;rw[List.getElem?_eq_none (by omega)];exact decide_eq_false (by simp only;omega)
  have hj1:-9223372036854775808<=(k:Int)+1/\(k:Int)+1<=9223372036854775807:=by omega
  have hj2:(k:Int)+1<0\/(b.els.length:Int)<=(k:Int)+1:=by omega
  have hne:¬(-1:Int)=(k:Int):=by omega
  go_wp2_with fail
  refine(qCe tb b k _ h hk hs).mono ?_;rintro e w2⟨rfl,rfl⟩;go_wp2_with fail
  refine(qPC tb b ((k:Int)+1) _ h hj1 hj2).mono ?_;rintro e w2⟨rfl,rfl⟩;go_wp2
  go_ret
  rw[HE.out];exact⟨by simp[hne],rfl⟩
theorem TrC.below{w w':World}{tb:Nat}{b:BS}(h:TrC w tb b)(k:Below w.heap.size w w'):TrC w' tb b:=by
 have s:qCu w w':=fun a v e=>by
  rw[k.cell (p:=a) ?_]
  ·exact e
  ·unfold World.cell? at e;cases hb:w.heap[a.block]? with
   |none=>rw[hb]at e;cases e
   |some o=>exact(Array.getElem?_eq_some_iff.1 hb).1
 exact h.same s
theorem qVQ(tb:Nat)(b:BS)(k:Nat)(x:El)(n:ByteArray)(w:World)(h:TrC w tb b)(hx:b.els[k]? = some x)(hs:b.els.length<=5000)(hl:x.attrs.length<=5000) :
  Calls prog 55 #[.pointer (some ⟨tb,0,none⟩),.int .i64 (k:Int),.string n] w fun e w'=>e=.returned (.tuple #[.string (qE6 x.attrs n).1,.bool (qE6 x.attrs n).2])/\Below w.heap.size w w':=by
 have hk:k<b.els.length:=(List.getElem?_eq_some_iff.1 hx).1;obtain⟨g,cap,av,c0,d0,d1,d2,d3,d4,⟨ao,cp,rfl,hr⟩,-⟩:=h.el hx;clear d0 d1 d3 d4 hx;by_cases h0:x.attrs.length=0
 ·have hnil:x.attrs=[]:=List.eq_nil_of_length_eq_zero h0;have HN:Hid (qE6 x.attrs n=(⟨#[]⟩,false)):=by rw[hnil];rfl
  rw[h0]at d2;clear hr h0 hnil hl;go_enter func55,ntmps55
  go_wp2_with fail
  refine(qCe tb b k _ h hk hs).mono ?_;rintro e w1⟨rfl,rfl⟩;go_wp2
  refine wp_loop_rounds 1 ?_;rw[rounds_succ];go_wp2
  go_ret2
  rw[HN.out];exact⟨rfl,Below.refl _ _⟩
 ·obtain⟨ga,rfl,hga⟩:=hr (by omega);have cell0:∀j y,x.attrs[j]? = some y->w.cell? ⟨ga,j*2,none⟩=some (.string y.1):=fun j y hy=>by
   have:=hga j (List.getElem?_eq_some_iff.1 hy).1 0 (by omega);simpa [atC,hy]using this
  have cell1:∀j y,x.attrs[j]? = some y->w.cell? ⟨ga,j*2+1,none⟩=some (.string y.2):=fun j y hy=>by
   have:=hga j (List.getElem?_eq_some_iff.1 hy).1 1 (by omega);simpa [atC,hy]using this
  have hgas:ga<w.heap.size:=by
   have e:=cell0 0 (x.attrs[0]'(by omega)) (List.getElem?_eq_getElem (by omega));unfold World.cell? at e;cases hb:w.heap[ga]? with
   |none=>rw[hb]at e;cases e
   |some o=>exact(Array.getElem?_eq_some_iff.1 hb).1
  have HC0:=qAF cell0;have HC1:=qAF cell1;clear hr hga cell0 cell1 h0;go_enter func55,ntmps55
  go_wp2_with fail
  refine(qCe tb b k _ h hk hs).mono ?_;rintro e w1⟨rfl,rfl⟩;go_wp2
  go_loopw [23] (fun i wr=>∃j:Nat,i=.int .i64 j/\j<=x.attrs.length/\Below w1.heap.size w1 wr/\Hid (qE6 (x.attrs.drop j) n=qE6 x.attrs n)) (fun i _=>x.attrs.length-(intOf i).toNat)
  case atStart=>exact⟨0,rfl,Nat.zero_le _,Below.refl _ _,rfl⟩
  case round =>
   obtain⟨j,rfl,hjl,hbl,HQ⟩:=hrel;by_cases hj:j<x.attrs.length
   ·obtain⟨y,hy⟩:∃y,x.attrs[j]? = some y:=⟨x.attrs[j],List.getElem?_eq_getElem hj⟩;have r1:wr.cell? ⟨ga,j*2,none⟩=some (.string y.1):=by rw[hbl.cell (p:=⟨ga,j*2,none⟩) hgas];exact HC0.out j y hy
    have r2:wr.cell? ⟨ga,j*2+1,none⟩=some (.string y.2):=by rw[hbl.cell (p:=⟨ga,j*2+1,none⟩) hgas];exact HC1.out j y hy
    have hdr:x.attrs.drop j=y::x.attrs.drop (j+1):=by
     rw[List.drop_eq_getElem_cons hj];rw[List.getElem?_eq_getElem hj]at hy;rw[Option.some.inj hy]
    have HD:=qAF hdr;clear hy hdr;cases hq:(y.1.toList==n.toList)
    ·have HE:Hid (qE6 (x.attrs.drop (j+1)) n=qE6 x.attrs n):=by
      rw[<-HQ.out,HD.out];unfold qE6;rw[List.find?_cons,hq];rfl
     go_wp2
     go_roundw
     case rel=>exact⟨j+1,by go_num,by omega,hbl.alloc hbl.size _,HE⟩
     case measure=>simp[intOf];omega
    ·have HE:Hid (qE6 x.attrs n=(y.2,true)):=by
      rw[<-HQ.out,HD.out];unfold qE6;rw[List.find?_cons,hq];rfl
     go_wp2
     go_ret2
     rw[HE.out];exact⟨rfl,hbl.alloc hbl.size _⟩
   ·have HE:Hid (qE6 x.attrs n=(⟨#[]⟩,false)):=by
     rw[<-HQ.out,List.drop_eq_nil_of_le (by omega)];rfl
    go_wp2
    go_ret2
    rw[HE.out];exact⟨rfl,hbl⟩
theorem qMZ{w:World}{a:Addr}{v:Value}(e:w.cell? a=some v):a.block<w.heap.size:=by
 unfold World.cell? at e;cases hb:w.heap[a.block]? with
 |none=>rw[hb]at e;cases e
 |some o=>exact(Array.getElem?_eq_some_iff.1 hb).1
def qM2(b:BS)(x:El):ByteArray:=⟨((b.txt.drop x.lo.toNat).take (x.hi.toNat-x.lo.toNat)).toArray⟩
theorem qN8(tb:Nat)(b:BS)(k:Nat)(x:El)(w:World)(h:TrC w tb b)(hx:b.els[k]? = some x)(hs:b.els.length<=5000)(h1:0<=x.lo)(h3:x.lo<=x.hi)(h4:x.hi<=(b.txt.length:Int)) :
  Calls prog 43 #[.pointer (some ⟨tb,0,none⟩),.int .i64 (k:Int)] w fun e w'=>e=.returned (.string (qM2 b x))/\Below w.heap.size w w':=by
 have hk:k<b.els.length:=(List.getElem?_eq_some_iff.1 hx).1;have c1:=h.txt;obtain⟨g,cap,av,c0,d0,d1,d2,d3,d4,⟨ao,cp,rfl,hr⟩,-⟩:=h.el hx;obtain⟨lo,hlo⟩:∃lo:Nat,x.lo=(lo:Int):=⟨x.lo.toNat,by omega⟩;obtain⟨hi,hhi⟩:∃hi:Nat,x.hi=(hi:Int):=⟨x.hi.toNat,by omega⟩;have HT:Hid (qM2 b x=⟨((b.txt.drop lo).take (hi-lo)).toArray⟩):=by unfold qM2;rw[hlo,hhi];rfl
 rw[hlo]at d3 h3 h1;rw[hhi]at d4 h3 h4;have h3':lo<=hi:=by omega
 have h4':hi<=b.txt.length:=by omega
 have hgs:=qMZ d0;have hts:=qMZ c1;clear hr hlo hhi hx h1 h3 h4;go_enter func43,ntmps43
 go_wp2_with fail
 refine(qCe tb b k _ h hk hs).mono ?_;rintro e w1⟨rfl,rfl⟩;go_wp2
 go_quiet (fail)
 go_wp2
 go_ret
 refine⟨?_,((Below.refl _ _).alloc (Nat.le_refl _) _).drewN' _⟩;rw[HT.out];show Ending.returned (.string ((⟨b.txt.toArray⟩:ByteArray).extract lo hi))=_;rw[qOW]
