/-
  Parts of the proof: JE, JF, JG, JU0.
-/
import Derived.Test.YtclpcnignheijaaGreatDoorQ29
set_option maxHeartbeats 4000000
set_option maxRecDepth 100000
namespace Go.Proofs.YtclpcnignheijaaGreatDoor.Num
open Go.RowKit Go.Conc Go.Proofs.Tryz
section
variable{db sb:Nat}{b:BS}{A:List Cpx}{lv:Value}{d:Nat}{l:qAg}{w:World}
theorem qQJ(L:Look w db b A lv d l)(hs:w.cell? ⟨sb,0,none⟩=some lv)(r:Int)(hr:qDF (qDV b l) b.els.length 0=r):Calls prog 38 #[.pointer (some ⟨db,0,none⟩),.pointer (some ⟨sb,0,none⟩)] w fun e w'=>e=.returned (.int .i64 r)/\Old w w':=hr▸qSk L hs
end
def qWX(w0:World)(db sb:Nat)(x:Value)(a':Act)(w':World):Prop:=Old w0 w'/\a'.tmps.size=147/\a'.defers=[]/\a'.eval (.tmp 6)=.pointer (some ⟨db,0,none⟩)/\a'.eval (.tmp 8)=.pointer (some ⟨sb,0,none⟩)/\a'.eval (.tmp 10)=x
def qCv(Qn:Act->World->Prop):Exit->Act->World->Prop
 |.normal=>Qn
 |.ret=>fun _ _=>False
 |_=>fun _ _=>False
section
variable{f:Nat->Value}{w0 w:World}{db sb:Nat}{b:BS}{A:List Cpx}{lv:Value}{d:Nat}{l:qAg}{x:Value}{M:List Int}
theorem w10(k0:Old w0 w)(h6:f 6=.pointer (some ⟨db,0,none⟩))(h8:f 8=.pointer (some ⟨sb,0,none⟩))(h10:f 10=x)(h11:f 11=.int .i64 (-1))(hx:IntsC w x M)(hl:M.length<=5000) :
  (qJB 10).wp prog (qCv fun a' w'=>qWX w0 db sb x a' w'/\a'.eval (.tmp 11)=.int .i64 (M.headD (-1))) { tmps:=((List.range 147).map f).toArray,defers:=[] } w:=by
 obtain⟨ao,cap,rfl,hc⟩:=id hx;simp only[qJB,qNE,Tryz.f11,Option.getD_some];simp only[List.range,List.range.loop,List.map,h6,h8,h10,h11];cases M with
 |nil =>
  go_wp2
  exact⟨⟨k0,rfl,rfl,rfl,rfl,rfl⟩,rfl⟩
 |cons m0 M =>
  obtain⟨g,rfl,q0⟩:=hc 0 m0 rfl;have hlen:((0:Int)<((m0::M).length:Int)):=by simp
  go_wp2
  exact⟨⟨k0,rfl,rfl,rfl,rfl,rfl⟩,rfl⟩
theorem w12(k0:Old w0 w)(h6:f 6=.pointer (some ⟨db,0,none⟩))(h8:f 8=.pointer (some ⟨sb,0,none⟩))(h10:f 10=x)(y:Int)(h11:f 11=.int .i64 y)(L:Look w db b A lv d l)(hs:w.cell? ⟨sb,0,none⟩=some lv)(hy:qDF (qDV b l) b.els.length 0=y) :
  (qJB 12).wp prog (qCv fun a' w'=>qWX w0 db sb x a' w') { tmps:=((List.range 147).map f).toArray,defers:=[] } w:=by
 have HY:=qAF hy;clear hy;simp only[qJB,qNE,Tryz.f11,Option.getD_some];simp only[List.range,List.range.loop,List.map,h6,h8,h10,h11];go_wp2_with fail
 refine(qQJ L hs y HY.out).mono ?_;rintro e w1⟨rfl,ho⟩;have k1:=k0.trans ho;go_wp2
 exact⟨k1,rfl,rfl,rfl,rfl,rfl⟩
end
section
variable{f:Nat->Value}{w0 w:World}{db sb:Nat}{b:BS}{A:List Cpx}{lv:Value}{d:Nat}{l:qAg}{x:Value}{M:List Int}
theorem w14(k0:Old w0 w)(h6:f 6=.pointer (some ⟨db,0,none⟩))(h8:f 8=.pointer (some ⟨sb,0,none⟩))(h10:f 10=x)(L:Look w db b A lv d l)(hx:IntsC w x M)(hl:M.length<=5000)(h1:∀(i:Nat) y,M[i]? = some y->0<=y/\y<(b.els.length:Int))(h2:∀(i:Nat) y z,M[i]? = some y->M[i+1]? = some z->y<z) :
  (qJB 14).wp prog (qCv fun a' w'=>qWX w0 db sb x a' w') { tmps:=((List.range 147).map f).toArray,defers:=[] } w:=by
 have hn:=L.env.ok.n;obtain⟨ao,cap,rfl,hc⟩:=id hx;simp only[qJB,qNE,Tryz.f11,Option.getD_some];simp only[List.range,List.range.loop,List.map,h6,h8,h10];go_wp2
 go_loopw [12] (fun iv wr=>∃i:Nat,iv=.int .i64 (i:Int)/\i<=M.length/\wr.heap=w.heap) (fun iv _=>((M.length:Int)-intOf iv).toNat)
 case atStart=>exact⟨0,rfl,Nat.zero_le _,rfl⟩
 case round =>
  obtain⟨i,rfl,hi,hh⟩:=hrel;by_cases hlt:i<M.length
  ·have hlt':(i:Int)<(M.length:Int):=by omega
   obtain⟨v,hv⟩:∃v,M[i]? = some v:=⟨M[i],List.getElem?_eq_getElem hlt⟩;obtain⟨g,rfl,q0⟩:=hc i v hv;have q0:wr.cell? ⟨g,i,none⟩=some (.int .i64 v):=by rw[World.cell?_of_block (w:=w) (by rw[hh])];exact q0
   obtain⟨v0,v1⟩:=h1 i v hv;have ht:∀n,TrC (wr.drewN n) db b:=fun n=>(Old.heap (w:=w) (w':=wr.drewN n) hh).tr L.env.tree;have b1:decide (v<0)=false:=decide_eq_false (by omega);have b2:decide (v ≥ (b.els.length:Int))=false:=decide_eq_false (by omega);by_cases hz:i=0
   ·subst hz;go_wp2
    go_quiet ((go_at_call 13;exact Calls.quiet_of_same (qI0 _ (ht _))))
    go_wp2
    go_roundw
    case rel=>exact⟨1,rfl,by omega,hh⟩
    case measure=>simp[intOf];omega
   ·obtain⟨j,rfl⟩:∃j,i=j+1:=⟨i-1,by omega⟩;obtain⟨v',hv'⟩:∃v,M[j]? = some v:=⟨M[j],List.getElem?_eq_getElem (by omega)⟩;obtain⟨g',eg,q1⟩:=hc j v' hv';obtain rfl:g=g':=by simpa using eg
    have q1:wr.cell? ⟨g,j,none⟩=some (.int .i64 v'):=by rw[World.cell?_of_block (w:=w) (by rw[hh])];exact q1
    have b3:decide (v<=v')=false:=decide_eq_false (by have:=h2 j v' v hv' hv;omega);have b4:decide (((j+1:Nat):Int)>0)=true:=decide_eq_true (by omega);clear hv hv' eg;go_wp2
    go_quiet ((go_at_call 13;exact Calls.quiet_of_same (qI0 _ (ht _))))
    go_wp2
    go_roundw
    case rel=>exact⟨j+1+1,by simp,by omega,hh⟩
    case measure=>simp[intOf];omega
  ·have hlt':¬(i:Int)<(M.length:Int):=by omega
   have ko:Old w0 wr:=k0.trans (Old.heap hh);go_wp2
   exact⟨ko,rfl,rfl,rfl,rfl,rfl⟩
def qFP(Qr:Act->World->Prop):Exit->Act->World->Prop
 |.normal=>fun _ _=>False
 |.ret=>Qr
 |_=>fun _ _=>False
end
def qUN(t:Nat)(v0:World):Exit->Act->World->Prop
 |.ret=>fun a v'=>Old v0 v'/\a.defers=[]/\a.eval (.tmp t)=.bool true
 |_=>fun _ _=>False
section
variable{F:Fr0 prog}{Ends:Machine->Trace->Prop}{v:World}
end
def qKj:Nat->Code->Code
 |n+1,.seq _ c=>qKj n c
 |_,c=>c
def qOl:Code->Code
 |.seq c _=>c
 |c=>c
def qXU:Code->Array Oper
 |.region _ ops _=>ops
 |_=>#[]
section
variable{F:Fr0 prog}{Ends:Machine->Trace->Prop}{Q:Exit->Act->World->Prop}{a:Act}{v:World}
theorem qBt{c:Code}{Qn Qn':Act->World->Prop}{a:Act}{w:World}(h:∀a w,Qn a w->Qn' a w)(hc:c.wp prog (qCv Qn) a w):c.wp prog (qCv Qn') a w:=by
 refine Code.wp_mono ?_ hc;intro e a w q;cases e with
 |normal=>exact h a w q
 |_=>exact q
theorem qCw{c:Code}{Qn Qn':Act->World->Prop}{a:Act}{w:World}(h:∀a w,Qn a w->Qn' a w)(hc:c.wp prog (qFP Qn) a w):c.wp prog (qFP Qn') a w:=by
 refine Code.wp_mono ?_ hc;intro e a w q;cases e with
 |ret=>exact h a w q
 |_=>exact q
theorem qGs{c:Code}{n:Nat}(hE:EndsCl prog Ends)(hok:qA4 prog alM glP false c=true){Qn:Act->World->Prop}(hQ:∀a w T d,Qn a w->Qn a (w.re T d)){A:Act}(hs:A.tmps.size=n)(hd:A.defers=[]){v1:World}
  (hC:∀T,c.wp prog (qCv Qn) { tmps:=((List.range n).map fun i=>A.eval (.tmp i)).toArray,defers:=[] } (v1.re T 0)) (hn:∀a v,Qn a v->Q .normal a v):wpV prog alM glP F Ends c Q A v1:=by
 refine qHW hs hd (qHX qEQ hE hok (Qn:=Qn) (Qr:=fun _ _=>False) hQ (fun _ _ _ _ h=>h) (fun T=>?_) hn fun _ _ h=>h.elim);have e:(fun|.normal=>Qn|.ret=>fun _ _=>False|_=>fun _ _=>False:Exit->Act->World->Prop)=qCv Qn:=by
  funext e a w;cases e<;>rfl
 exact e▸hC T
theorem qLc{c:Code}{n:Nat}(hE:EndsCl prog Ends)(hok:qA4 prog alM glP false c=true){Qr:Act->World->Prop}(hQ:∀a w T d,Qr a w->Qr a (w.re T d)){A:Act}(hs:A.tmps.size=n)(hd:A.defers=[]){v1:World}
  (hC:∀T,c.wp prog (qFP Qr) { tmps:=((List.range n).map fun i=>A.eval (.tmp i)).toArray,defers:=[] } (v1.re T 0)) (hn:∀a v,Qr a v->Q .ret a v):wpV prog alM glP F Ends c Q A v1:=by
 refine qHW hs hd (qHX qEQ hE hok (Qn:=fun _ _=>False) (Qr:=Qr) (fun _ _ _ _ h=>h) hQ (fun T=>?_) (fun _ _ h=>h.elim) hn);have e:(fun|.normal=>fun _ _=>False|.ret=>Qr|_=>fun _ _=>False:Exit->Act->World->Prop)=qFP Qr:=by
  funext e a w;cases e<;>rfl
 exact e▸hC T
end
def qEp(n:Nat)(l:List (Nat×Value))(a:Act):Prop:=a.tmps.size=n/\a.defers=[]/\∀x∈l,a.eval (.tmp x.1)=x.2
def qW6(w:World)(N:Nat)(z:Value)(ok:Bool)(g:Nat->Bool):Prop:=ok=true->∃L:List Int,IntsC w z L/\L.length<=5000/\∀n,n<N->L.any (·==(n:Int))=g n
