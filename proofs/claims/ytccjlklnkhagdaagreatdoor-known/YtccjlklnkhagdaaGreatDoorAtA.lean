import Derived.Test.YtccjlklnkhagdaaGreatDoorBdL
import Derived.Shelf.Lay
import Derived.Shelf.Strings.SlTrimAscii
set_option linter.unusedSimpArgs false
set_option linter.unusedVariables false
set_option linter.defProp false
set_option maxHeartbeats 0
set_option maxRecDepth 100000
namespace Go.Proofs.YtccjlklnkhagdaaGreatDoor
open Go.RowKit Go.PlainAid Tryz
def EW:=@ownsRow_putObj
def sg:=@List.not_mem_nil
def sV:=@or_false
def Cg:=@ByteArray.ext
def y5:=@eq_of_beq
section
variable {A c : jE} {D a b ik bs cp fi g i j n n0 ps sz : Nat} {L : Loc} {Q : Ending->gr->Prop} {R : RC} {S : List (Nat×gG)} {T : TypeId} {W W' w w' w0 w2 wr : gr} {ao : Option Addr} {gx : lh} {e ei ej : zz} {f f0 : Nat->Nat} {m : Nat×Nat} {o o' : Obj} {s : gn} {v v' : gG}
theorem Vb (L:lh) (i:Nat) (h:i < L.length):(flat L)[i*2]?=some (gw (L[i]).1)/\(flat L)[i*2+1]?=some (gw (L[i]).2):=by
 induction L generalizing i with
 |nil=>simp at h
 |cons a L ih=>
  cases i with
  |zero=>simp[flat]
  |succ i=>
   grind[flat]
theorem yi.at2 (h:yi w (.slice ao gx.length cp) gx) {k : Nat} (p:k < gx.length):∃g,ao=some ⟨g,0,none⟩/\w.cell? ⟨g,k*2,none⟩=some (gw gx[k].1)/\w.cell? ⟨g,k*2+1,none⟩=some (gw gx[k].2):=by
 obtain⟨g,hg⟩:∃g,ao=some ⟨g,0,none⟩:=by
  rcases h.2 with⟨e,u⟩|⟨q,d,l,e,_⟩
  all_goals grind
 subst hg;have⟨f0,f1⟩:=Vb gx k p;exact⟨g,rfl,by rw[h.cellAt (k*2) (by omega)];exact f0,by rw[h.cellAt (k*2+1) (by omega)];exact f1⟩
def adJ (w:gr) (k:Nat) (h:jE) (q:gn×gn->Bool) (gx:lh):Prop:=
 (∀d w,(callFunc k d).run prog w= .ok (.enter k d) w)/\∀W,Kept [] w W->∀a∈gx,Calls prog k (#[.agg #[gw a.1,gw a.2]]++h) W λe W'=>e=ir (.bool (q a))/\Kept [] W W'
theorem Mi (k:Nat) (p:jE) (q:gn×gn->Bool) (N:gG) (gx:lh) (w:gr) (hA:yi w N gx) (hn:gx.length<=4096) (Y:adJ w k p q gx):
  Calls prog 362 #[N,.func (.func k) #[] p] w λe w'=>∃n:Int,e=ir (ga n)/\decide (0<=n)=gx.any q/\Kept [] w w':=by
 have⟨ao,cp,hav⟩:=gv hA;subst hav;have⟨hcf,HC⟩:=Y;have O:=fN hA;clear hA;go_enter func362,ntmps362;go_wp21
 go_loopw [8] (λv wr=>∃d:Nat,v=ga d/\d<=gx.length/\(∀a∈gx.take d,q a=false)/\Kept [] w wr) (λv _=>gx.length - (intOf v).toNat)
 case atStart=>exact⟨0,rfl,iP _,by simp,Kept.refl _ _⟩
 case round=>
  obtain⟨d,rfl,X,z,C⟩:=hrel;by_cases l:d < gx.length
  .obtain⟨g,rfl,c0,c1⟩:=yi.at2 (C.ownsRow O (λ_ _=>by simp)) l;have D:=HC wr C gx[d] (ti l);have U:=fN z;have H:=fN C;have G:gx.take (d+1)=gx.take d++[gx[d]]:=by rw[DV,qw l];rfl
   have J:=fN G;have u:∀b,q gx[d]=b->(b=true->gx.any q=true):=λb V h=>List.any_eq_true.2 ⟨gx[d],ti l,by rw[V,h]⟩;generalize hqq:q gx[d]=b at D u;have Z:=hqq;have HY:=fN (u b rfl);clear z C G;generalize gx[d].1=x at *;generalize gx[d].2=y at *;go_wp21;refine D.mono ?_;rintro e W3 ⟨rfl,K⟩;have I:=H.trans K;cases b with
   |true=>
    go_wp2;go_ret;simp_all
   |false=>
    go_wp2;go_roundw
    case rel=>
     refine⟨d+1,by go_num,by omega,λa F=>?_,I⟩;rw[J.out]at F;rcases List.mem_append.1 F with F|F
     .exact U a F
     grind
    case measure=>simp[intOf];omega
  .have P:Hid (gx.any q=false):=fN (by
    grind)
   have H:=fN C;clear C z;go_wp2;go_ret;exact⟨-1,rfl,by rw[P.out];rfl,H⟩
def zd (k:Nat) (d:jE) (q:gn×gn->Bool) (h:gG) (gx:lh) (w:gr) (hA:yi w h gx) (x:gx.length<=4096) (y:adJ w k d q gx):
  Calls prog 340 #[h,.func (.func k) #[] d] w λe w'=>e=ir (.bool (gx.any q))/\Kept [] w w':=by
 have C:=Mi k d q h gx w hA x y;go_enter func340,ntmps340;go_wp21;refine C.mono ?_;rintro e z ⟨n,rfl,l,u⟩;have p:=fN l;clear l;go_wp2
 all_goals go_ret
 all_goals exact⟨by rw[<-p.out];rfl,u⟩
def aaa (b:Nat) (s:gn) (a:gn×gn) (w:gr) (k:w.cell? ⟨b,0,none⟩=some (gw s)) (d:b < w.heap.size):
  Calls prog 341 #[.agg #[gw a.1,gw a.2],gF b] w λe w'=>e=ir (.bool (kh a.1 s))/\Kept [] w w':=by
 have h:=(Kept.refl [] w).alloc (gy #[gw a.1,gw a.2] 295);have l:=(h.cell (p:=⟨b,0,none⟩) d (by simp)).trans k;generalize a.1=x at *;generalize a.2=y at *;go_enter func341,ntmps341;go_wp2;go_ret;exact⟨rfl,h⟩
def acN (k:Nat) (p:gn) (u:gG) (O kv:gG) (gx:lh) (s:gn) (w:gr) (F:w.heap[k]?=some (gy #[gw p,u,O,kv] 136)) (hA:yi w u gx) (N:gx.length<=4096):
  Calls prog 313 #[gF k,gw s] w λe w'=>e=ir (.bool (yy gx s))/\Kept [] w w':=by
 have K:∀(z:Fn) (first l:jE) (w:gr),(Instr.makeFunc z first l).run prog w= .ok (.func z first l) w:=λ_ _ _ _=>rfl;obtain⟨q,d⟩:∃q,q=w.alloc (gy #[gw s] 9):=⟨_,rfl⟩;have h:Kept [] w q:=by rw[d];exact(Kept.refl _ _).alloc _
 have y:q.heap[w.heap.size]?=some (gy #[gw s] 9):=by rw[d];exact fQ w _
 have P:(w.alloc (gy #[gw s] 9)).cell? ⟨k,1,none⟩=some u:=by rw[<-d,fO (h.at F (by simp))];rfl
 have C:=zd 341 #[gF w.heap.size] (λa=>kh a.1 s) u gx q (h.ownsRow hA (λ_ _=>by simp)) N ⟨enters_of func341 (by rfl) rfl,λW G a _=>aaa w.heap.size s a W (by rw[fO (G.at y (by simp))];rfl) (je (G.at y (by simp)))⟩;have J:=je F;have⟨ao,cp,hav⟩:=gv hA;subst hav;have I:=fN d.symm;clear d;go_enter func313,ntmps313;go_wp21;rw[I.out];refine C.mono ?_;rintro e w2 ⟨rfl,x⟩;have H:=h.trans x;go_wp2;go_ret;exact⟨rfl,H⟩
def rn (a b:gn×gn):Bool:=kh a.1 b.1&&kh a.2 b.2
theorem WS (x:gn×gn) (X:gG) (gx:lh) (w:gr) (hA:yi w X gx) (hn:gx.length<=4096):
  Calls prog 367 #[X,.agg #[gw x.1,gw x.2]] w λe w'=>∃n:Int,e=ir (ga n)/\decide (0<=n)=gx.any (λy=>rn x y)/\Kept [] w w':=by
 have⟨ao,cp,hav⟩:=gv hA;subst hav;obtain⟨K,l⟩:∃K,K=w.alloc (gy #[gw x.1,gw x.2] 295):=⟨_,rfl⟩;have q:Kept [] w K:=by rw[l];exact(Kept.refl _ _).alloc _
 have Y:K.heap[w.heap.size]?=some (gy #[gw x.1,gw x.2] 295):=by rw[l];exact fQ w _
 have Z:=q.ownsRow hA (λ_ _=>by simp);have HW:=fN l.symm;have F:=fN Y;clear l Y;go_enter func367,ntmps367;go_wp21;rw[HW.out]
 go_loopw [8] (λv wr=>∃d:Nat,v=ga d/\d<=gx.length/\(∀a∈gx.take d,rn x a=false)/\Kept [] K wr) (λv _=>gx.length - (intOf v).toNat)
 case atStart=>exact⟨0,rfl,iP _,by simp,Kept.refl _ _⟩
 case round=>
  obtain⟨d,rfl,a0,C,u⟩:=hrel;by_cases z:d < gx.length
  .obtain⟨g,rfl,c0,c1⟩:=yi.at2 (u.ownsRow Z (λ_ _=>by simp)) z;have d0:=fO (u.at F.out (by simp)) 0;have d1:=fO (u.at F.out (by simp)) 1;dsimp at d0 d1;have V:=fN C;have H:=fN u;have J:gx.take (d+1)=gx.take d++[gx[d]]:=by rw[DV,qw z];rfl
   have I:=fN J;have HY:=fN (λ(h:rn x gx[d]=true)=>List.any_eq_true.2 ⟨gx[d],ti z,h⟩);have HP:=(show rn x gx[d]=(kh x.1 gx[d].1&&kh x.2 gx[d].2)from rfl);clear C u J;generalize gx[d]=y at *;have⟨y0,y1⟩:=y;obtain⟨P,U⟩:=x;simp only[]at *;have p:∀(N:Bool),(kh P y0&&kh U y1)=N->rn (P,U) (y0,y1)=N:=λN h=>h;by_cases O:P.toList=y0.toList
   .by_cases e1:U.toList=y1.toList
    .have G:=fN (p true (by unfold kh;rw[O,e1];simp));go_wp2_with fail;go_region
     all_goals (try go_wp2)
     all_goals (try go_ret)
     all_goals exact⟨(d:Int),rfl,by rw[HY.out G.out];simp,q.trans H.drew⟩
    .have G:=fN (p false (by unfold kh;rw[O];simp[e1]));go_wp21;go_region
     all_goals (try go_wp2)
     all_goals (try go_roundw)
     all_goals first
      |(case rel=>
        refine⟨d+1,by go_num,by omega,λa k=>?_,H.drew⟩;rw[I.out]at k;rcases List.mem_append.1 k with k|k
        .exact V a k
        .rw[List.mem_singleton.1 k];exact G)
      |(case measure=>simp[intOf];omega)
      |skip
   .have G:=fN (p false (by unfold kh;simp[O]));go_wp21;go_region
    all_goals (try go_wp2)
    all_goals (try go_roundw)
    all_goals first
     |(case rel=>
       refine⟨d+1,by go_num,by omega,λa k=>?_,H.drew⟩;rw[I.out]at k;rcases List.mem_append.1 k with k|k
       .exact V a k
       .rw[List.mem_singleton.1 k];exact G)
     |(case measure=>simp[intOf];omega)
     |skip
  .have HF:Hid (gx.any (λy=>rn x y)=false):=fN (by
    grind)
   have H:=fN u;clear u C;go_wp2;go_ret;exact⟨-1,rfl,by rw[HF.out];rfl,q.trans H⟩
def Ok (x:gn×gn) (h:gG) (gx:lh) (w:gr) (hA:yi w h gx) (u:gx.length<=4096):
  Calls prog 346 #[h,.agg #[gw x.1,gw x.2]] w λe w'=>e=ir (.bool (gx.any λy=>rn x y))/\Kept [] w w':=by
 have d:=(Kept.refl [] w).alloc (gy #[gw x.1,gw x.2] 295);have C:=WS x h gx _ (d.ownsRow hA (λ_ _=>by simp)) u;have⟨ao,cp,hav⟩:=gv hA;subst hav;go_enter func346,ntmps346;go_wp21;refine C.mono ?_;rintro e z ⟨n,rfl,k,q⟩;have l:=fN k;have p:=d.trans q;clear k;go_wp2
 all_goals go_ret
 all_goals exact⟨by rw[<-l.out];rfl,p⟩
def Yf (b k:Nat) (u:gn) (x V kv:gG) (gx:lh) (a:gn×gn) (w:gr) (O:w.heap[b]?=some (gy #[gF k] 65)) (F:w.heap[k]?=some (gy #[gw u,x,V,kv] 136)) (hA:yi w x gx) (U:gx.length<=4096):
  Calls prog 345 #[.agg #[gw a.1,gw a.2],gF b] w λe w'=>e=ir (.bool (!(gx.any λy=>rn a y)))/\Kept [] w w':=by
 obtain⟨l,h⟩:∃l,l=w.alloc (gy #[gw a.1,gw a.2] 295):=⟨_,rfl⟩;have d:Kept [] w l:=by rw[h];exact(Kept.refl _ _).alloc _
 have z:l.heap[w.heap.size]?=some (gy #[gw a.1,gw a.2] 295):=by rw[h];exact fQ w _
 have I:=fO z 0;have J:=fO z 1;have K:=fO (d.at O (by simp)) 0;have N:=fO (d.at F (by simp)) 1;dsimp at I J K N;have P:k < l.heap.size:=je (d.at F (by simp));have C:=(λq=>Ok a x gx (l.drewN q) ((d.drewN q).ownsRow hA (λ_ _=>by simp)) U);have⟨ao,cp,hav⟩:=gv hA;subst hav;have H:=fN h.symm;clear h;go_enter func345,ntmps345;go_wp21;rw[H.out]
 go_region_with (go_at_call 346;refine(C 1).mono ?_;rintro e w2 ⟨rfl,p⟩;have G:=fN ((d.drewN 1).trans p);clear p)
 all_goals (try go_wp2)
 all_goals (try go_ret)
 all_goals exact⟨rfl,G⟩
def ZU (E:Env) (x:Nat×Nat×gn):iA E (qc x)=Mu x:=rfl
def Py (E:Env) (x:Nat×Nat×gn) (w:gr):Calls prog 224 #[Mu x] w λe w'=>e=ir (.bool (!lU x.2.2))/\Kept [] w w':=by
 have d:=yl E (qc x) w;rw[ZU]at d;have p:=(λW=>Ik x.2.2 W);have q:(qc x).chars=x.2.2:=rfl;rw[q]at d;generalize Mu x=v at *;generalize x.2.2=s at *;go_enter func224,ntmps224;go_wp21;refine d.mono ?_;rintro e u ⟨rfl,h⟩;go_wp21;refine(p u).mono ?_;rintro e w2 ⟨rfl,l⟩;have k:=h.trans l;go_wp2;go_ret;exact⟨rfl,k⟩
theorem acm.at {base : Nat} {xs : List (Nat×Nat×gn)} (h:w.ownsRow base 121 1 (.slice ao xs.length cp) xs.length (xs.map Mu)) {k : Nat} (p:k < xs.length):∃g,ao=some ⟨g,0,none⟩/\w.cell? ⟨g,k,none⟩=some (Mu xs[k]):=by
 obtain⟨g,hg⟩:∃g,ao=some ⟨g,0,none⟩:=by
  rcases h.2 with⟨e,u⟩|⟨q,d,l,e,_⟩
  all_goals grind
 subst hg;exact⟨g,rfl,by rw[h.cellAt k (by omega)];simp[p]⟩
theorem NM (E:Env) (base:Nat) (wv:gG) (xs:List (Nat×Nat×gn)) (w:gr) (hA:w.ownsRow base 121 1 wv xs.length (xs.map Mu)) (Y:xs.length<=4096):
  Calls prog 286 #[wv,.func (.func 224) #[] #[]] w λe w'=>∃n:Int,e=ir (ga n)/\decide (0<=n)=(xs.any λx=>!lU x.2.2)/\Kept [] w w':=by
 have⟨ao,cp,hav⟩:=gv hA;subst hav;have O:=enters_of func224 (by rfl) rfl;have H:=(λW x=>Py E x W);have G:=fN hA;clear hA;go_enter func286,ntmps286;go_wp21
 go_loopw [8] (λv wr=>∃d:Nat,v=ga d/\d<=xs.length/\(∀a∈xs.take d,(!lU a.2.2)=false)/\Kept [] w wr) (λv _=>xs.length - (intOf v).toNat)
 case atStart=>exact⟨0,rfl,iP _,by simp,Kept.refl _ _⟩
 case round=>
  obtain⟨d,rfl,P,l,q⟩:=hrel;by_cases u:d < xs.length
  .obtain⟨g,rfl,K⟩:=acm.at (q.ownsRow G (λ_ _=>by simp)) u;have D:=H wr xs[d];have J:=fN l;have y:=fN q;have C:=fN (show xs.take (d+1)=xs.take d++[xs[d]] by simp);have k:∀b,(!lU xs[d].2.2)=b->(b=true->(xs.any λx=>!lU x.2.2)=true):=λb N h=>List.any_eq_true.2 ⟨xs[d],ti u,by rw[N,h]⟩;generalize hqq:(!lU xs[d].2.2)=b at D k;have U:=hqq;have V:=fN (k b rfl);clear l q;rw[show Mu xs[d]= .iface 184 (.agg #[ga (xs[d].1),ga (xs[d].2.1),gw xs[d].2.2])from rfl]at K D;go_wp21;refine D.mono ?_;rintro e X ⟨rfl,F⟩;have z:=y.trans F;cases b with
   |true=>
    go_wp2;go_ret;simp_all
   |false=>
    go_wp2;go_roundw
    case rel=>
     refine⟨d+1,by go_num,by omega,λa p=>?_,z⟩;rw[C.out]at p;rcases List.mem_append.1 p with p|p
     .exact J a p
     grind
    case measure=>simp[intOf];omega
  .have I:Hid ((xs.any λx=>!lU x.2.2)=false):=fN (by
    grind)
   have y:=fN q;clear q l;go_wp2;go_ret;exact⟨-1,rfl,by rw[I.out];rfl,y⟩
def Gr (E:Env) (base:Nat) (wv:gG) (xs:List (Nat×Nat×gn)) (w:gr) (hA:w.ownsRow base 121 1 wv xs.length (xs.map Mu)) (l:xs.length<=4096):
  Calls prog 223 #[wv,.func (.func 224) #[] #[]] w λe w'=>e=ir (.bool (xs.any λx=>!lU x.2.2))/\Kept [] w w':=by
 have C:=NM E base wv xs w hA l;go_enter func223,ntmps223;go_wp21;refine C.mono ?_;rintro e p ⟨n,rfl,d,k⟩;have h:=fN d;clear d;go_wp2
 all_goals go_ret
 all_goals exact⟨by rw[<-h.out];rfl,k⟩
attribute [local go_sem] Oper.semAt_some
def mj (kR rec:Nat->gz->M Unit) (t:gz):M Unit:=do
 pc kR
 wm λd=>{d with waiting:=[],mode:=d.kept}
 jM rec t
 return ()
def Env.lock (E:Env) (v:gG) (ws:List (Nat×Nat×gn)):Env:={E with wv:=some (v,ws)}
variable {E : Env}
def Rel.lock {σ:Ab} (h:Rel E L σ w):Rel (E.lock L.wv σ.waiting) L σ w:=by
 have⟨C,hb,hC⟩:=h.ik;exact
  {fr:=h.fr,env:=⟨h.env.FY,h.env.txt,h.env.spec,h.env.Ve,h.env.UP,h.env.wK⟩,Dt:=h.Dt,su:=h.su,inj:=h.inj,AL:=h.AL,FJ:=h.FJ,uq:=h.uq,D0:=h.D0,wf:=h.wf
   ik:=⟨C,hb,⟨hC.size,hC.low,hC.gq,hC.act,hC.head,hC.form,hC.mode,hC.kept,hC.wait,hC.H6,hC.jB,hC.gH,hC.behind⟩⟩
   oP:=h.oP,pR:=h.pR,FP:=h.FP,wC:=h.wC,D7:=h.D7,oL:=h.oL,KJ:=h.KJ,rd:=h.rd,P9:=h.P9,tok:=h.tok,KG:=h.KG,bz:=h.bz,bB:=h.bB,bR:=h.bR,bN:=h.bN,Ck:=h.Ck,ab:=h.ab,tb:=h.tb
   KI:=λp d=>by cases d;simp}
theorem Rel.unlock {ws : List (Nat×Nat×gn)} {σ:Ab} (h:Rel (E.lock v ws) L σ w) (d:E.wv=none):Rel E L σ w:=by
 have⟨C,hb,hC⟩:=h.ik;exact
  {fr:=h.fr,env:=⟨h.env.FY,h.env.txt,h.env.spec,h.env.Ve,h.env.UP,h.env.wK⟩,Dt:=h.Dt,su:=h.su,inj:=h.inj,AL:=h.AL,FJ:=h.FJ,uq:=h.uq,D0:=h.D0,wf:=h.wf
   ik:=⟨C,hb,⟨hC.size,hC.low,hC.gq,hC.act,hC.head,hC.form,hC.mode,hC.kept,hC.wait,hC.H6,hC.jB,hC.gH,hC.behind⟩⟩
   oP:=h.oP,pR:=h.pR,FP:=h.FP,wC:=h.wC,D7:=h.D7,oL:=h.oL,KJ:=h.KJ,rd:=h.rd,P9:=h.P9,tok:=h.tok,KG:=h.KG,bz:=h.bz,bB:=h.bB,bR:=h.bR,bN:=h.bN,Ck:=h.Ck,ab:=h.ab,tb:=h.tb
   KI:=λp k=>by grind}
def At.unlock {ws : List (Nat×Nat×gn)} {σ:Ab} (h:At (E.lock v ws) f0 n0 w0 f σ w) (d:E.wv=none):At E f0 n0 w0 f σ w:=by
 have⟨L,e,hr⟩:=h.rel;exact⟨⟨L,e,hr.unlock d⟩,h.ext,h.le,h.fr,h.hw⟩
def M.KR {α d h:Type} (m:M α) (k:α->M d) (g:d->M h) (σ:Ab):((m>>=k)>>=g) σ=(m>>=λa=>k a>>=g) σ:=by
 rw[M.gm,M.gm,M.gm];cases m σ with
 |ok a σ'=>rfl
 |stop e p=>rfl
 |stuck=>rfl
def Rel.Nb {σ:Ab} (h:Rel E L σ w) (l:E.wv=none):Rel E {L with wv:=jV} {σ with waiting:=[]} (w.setCell ⟨E.bB,194,none⟩ (jV)):=by
 have⟨C,hb,hC⟩:=h.ik;have d:Kept [E.bB] w (w.setCell ⟨E.bB,194,none⟩ (jV)):=(Kept.refl _ w).setCell (.inl (by simp)) _;have p:KT E.bs [176,121] w (w.setCell ⟨E.bB,194,none⟩ (jV)):= .jC d (λk d _=>by simp at d;subst d;exact⟨⟨_,_,_,hb,by simp⟩,h.bB⟩);exact h.aer hC (jV) [] (fV hb 194 _) p (py _ _ _ _) (by simp) l
def At.Nb {σ:Ab} (h:At E f0 n0 w0 f σ w) (l:E.wv=none):At E f0 n0 w0 f {σ with waiting:=[]} (w.setCell ⟨E.bB,194,none⟩ (jV)):=by
 have⟨L,e,hr⟩:=h.rel;refine h.to ⟨{L with wv:=jV},e,hr.Nb l⟩ (gW _) ?_;have⟨C,hb,hC⟩:=hr.ik;have d:Kept [E.bB] w (w.setCell ⟨E.bB,194,none⟩ (jV)):=(Kept.refl _ w).setCell (.inl (by simp)) _;exact .jC d (λk d=>by simp at d;subst d;exact⟨⟨_,_,_,hb,by decide⟩,hr.bB⟩)
def Hj (kR:Nat->gz->M Unit) (d:Bool) (x:Nat×Nat×gn):M Unit:=if d then sL kR (qc x)else jR (qc x)
def qC (kR:Nat->gz->M Unit) (d:Bool):List (Nat×Nat×gn)->M Unit
 |[]=>pure ()
 |x::r=>do
  Hj kR d x
  qC kR d r
def CJ (kR:Nat->gz->M Unit) (d:Bool) (x:Nat×Nat×gn) (r:List (Nat×Nat×gn)):qC kR d (x::r)=(Hj kR d x>>=λ_=>qC kR d r):=rfl
def KZ (kR:Nat->gz->M Unit):∀d,qC kR true d=tG kR d
 |[]=>rfl
 |x::r=>by unfold qC tG;rw[KZ kR r];rfl
def KY (kR:Nat->gz->M Unit):∀d,qC kR false d=tI d
 |[]=>rfl
 |x::r=>by unfold qC tI;rw[KY kR r];rfl
def Hu (E:Env) (a0:E.wv=none) (kR rec:Nat->gz->M Unit) (hAL:∀v ws (m:Nat) (t:gz),iY E t->iU (E.lock v ws) 161 (λ_=>#[Bp E,ga m,iA E t]) (kR m t) uV) (hA:∀(m:Nat) (t:gz),iY E t->iU E 161 (λ_=>#[Bp E,ga m,iA E t]) (rec m t) uV) (t:gz) (ht:iY E t):iU E 127 (λ_=>#[Bp E,iA E t]) (mj kR rec t) uV:=by
 intro f q w h HS;have⟨L,hL,hr⟩:=h;obtain⟨R,J⟩:∃R,R=mj kR rec t q:=⟨_,rfl⟩;rw[<-J]at HS|-;obtain⟨fo,a2⟩:∃fo,fo=q.waiting.any λx=>!lU x.2.2:=⟨_,rfl⟩;obtain⟨d,Y⟩:∃d,d=q.waiting:=⟨_,rfl⟩;obtain⟨Z,X⟩:∃Z,Z=L.wv:=⟨_,rfl⟩;have a7:R=(qC kR fo d>>=λ_=>(do
   wm λq=>{q with waiting:=[],mode:=q.kept}
   jM rec t
   return ():M Unit)) q:=by
  rw[J];unfold mj;rw[M.gm,M.gm];have e1:pc kR q=qC kR fo d q:=by
   unfold pc;rw[<-a2,Y];cases fo
   .rw[KY];rfl
   .rw[KZ];rfl
  rw[e1]
 have a3:=hr.lock;rw[<-X,<-Y]at a3;have H:=At.start (E:=E.lock Z d) ⟨L,hL,a3⟩;have C1:=Gr E E.bs L.wv q.waiting w hr.oL hr.KJ;rw[<-a2,<-X]at C1;have a4:=hr.oL;rw[<-X,<-Y]at a4;have⟨ao,cp,hsh⟩:=gv a4;have ae:d.length<=4096:=by rw[Y];exact hr.KJ
 have c0:=hr.ZQ;rw[<-X,hsh]at c0;rw[hsh]at C1;have N:=hr.lt;have ad:∀(fn:Fn) (first a6:jE) (w:gr),(Instr.makeFunc fn first a6).run prog w= .ok (.func fn first a6) w:=λ_ _ _ _=>rfl;have ac:=enters_of func99 (by rfl) rfl;have ab:=enters_of func125 (by rfl) rfl;have y:=fN a7;have a5:=fN hsh;have HE:∀x:Nat×Nat×gn,iU (E.lock Z d) (if fo then 125 else 99) (λ_=>#[Bp E,Mu x]) (Hj kR fo x) uV:=by
  intro x;cases fo with
  |true=>exact Dc (E.lock Z d) kR (λm t ht=>hAL Z d m t ht) (qc x) (λh=>by cases h)
  |false=>exact vc (E.lock Z d) (iF _) (qc x)
 have HA:=hA;clear J a7 a3 a4 hsh hr hL hA hAL a2 Y X;cases fo with
 |true=>
  have a1:Hid (∀x:Nat×Nat×gn,iU (E.lock Z d) 125 (λ_=>#[Bp E,Mu x]) (Hj kR true x) uV):=HE;clear HE;go_enter func127,ntmps127;go_wp21;refine C1.mono ?_;rintro e w1 ⟨rfl,I⟩;have c1:=(I.cell (p:=⟨E.bB,194,none⟩) N (by simp)).trans c0;have U:E.bB < w1.heap.size:=mf N I.size;replace H:=H.k0 I;clear I C1;go_wp21
  go_loopw [21] (λv wr=>∃(u:Nat) (g:Nat->Nat) (l:Ab),v=ga u/\u<=d.length/\R=(qC kR true (d.drop u)>>=λ_=>(do
   wm λq=>{q with waiting:=[],mode:=q.kept}
   jM rec t
   return ():M Unit)) l/\At (E.lock Z d) f q.nodes.length w g l wr) (λv _=>d.length - (intOf v).toNat)
  case atStart=>exact⟨0,f,q,rfl,iP _,y,H⟩
  case round=>
   clear H y c0 c1 N U;obtain⟨u,g,l,rfl,a8,J,z⟩:=hrel;by_cases V:u < d.length
   .have⟨L',hL',hr'⟩:=z.rel;have⟨e1,e2⟩:=hr'.KI _ rfl;have k:=hr'.oL;rw[e1,e2]at k;dsimp only at k;rw[a5.out]at k;obtain⟨gb,rfl,c5⟩:=acm.at k V;rw[JI V]at J;have C:R=(Hj kR true d[u]>>=λ_=>qC kR true (d.drop (u+1))>>=λ_=>(do
      wm λq=>{q with waiting:=[],mode:=q.kept}
      jM rec t
      return ():M Unit)) l:=by
     rw[J,CJ,M.KR]
    replace H:=z;have y:=fN C;have P:=a1 d[u];clear J C z k e1 e2 hr' hL';rw[show Mu d[u]= .iface 184 (.agg #[ga (d[u].1),ga (d[u].2.1),gw d[u].2.2])from rfl]at c5 P;go_wp21;refine dC (P) H y HS rfl (λ_ _ _ _ h=>And.intro rfl (lS h)) ?_;clear H y;rintro(_) f q w H HX HF y;go_wp2;go_roundw
    case rel=>exact⟨u+1,f,q,by go_num,by omega,y,H⟩
    case measure=>simp[intOf];omega
   .have C:R=(jM rec t>>=λ_=>(Pure.pure ():M Unit)) {l with waiting:=[],mode:=l.kept}:=by
     rw[J,F7 (by omega)];rfl
    have O:=(z.unlock a0);obtain⟨F,G,c4⟩:∃F G,wr.cell? ⟨E.bB,194,none⟩=some (.slice F l.waiting.length G):=by
     have⟨L4,_,hr4⟩:=O.rel;have⟨F,G,e4⟩:=gv hr4.oL;exact⟨F,G,by rw[<-e4];exact hr4.ZQ⟩
    have f4:=O.free 194;have a9:=O.lt;have K:=O.Nb a0;have c5:=K.Rh;have c6:=K.ru;have f6:=K.free 192;have aa:=K.lt;have H:=K.iW l.kept;have y:=fN C;clear J C z O K;go_wp21;refine dC (sU E rec HA t ht) H y HS rfl (λ_ _ _ _ h=>And.intro rfl (lS h)) ?_;clear H y;rintro(_) f q w H HX HF y;go_wp2;go_end0;exact fZ y H rfl
 |false=>
  have a1:Hid (∀x:Nat×Nat×gn,iU (E.lock Z d) 99 (λ_=>#[Bp E,Mu x]) (Hj kR false x) uV):=HE;clear HE;go_enter func127,ntmps127;go_wp21;refine C1.mono ?_;rintro e w1 ⟨rfl,I⟩;have c1:=(I.cell (p:=⟨E.bB,194,none⟩) N (by simp)).trans c0;have U:E.bB < w1.heap.size:=mf N I.size;replace H:=H.k0 I;clear I C1;go_wp21
  go_loopw [21] (λv wr=>∃(u:Nat) (g:Nat->Nat) (l:Ab),v=ga u/\u<=d.length/\R=(qC kR false (d.drop u)>>=λ_=>(do
   wm λq=>{q with waiting:=[],mode:=q.kept}
   jM rec t
   return ():M Unit)) l/\At (E.lock Z d) f q.nodes.length w g l wr) (λv _=>d.length - (intOf v).toNat)
  case atStart=>exact⟨0,f,q,rfl,iP _,y,H⟩
  case round=>
   clear H y c0 c1 N U;obtain⟨u,g,l,rfl,a8,J,z⟩:=hrel;by_cases V:u < d.length
   .have⟨L',hL',hr'⟩:=z.rel;have⟨e1,e2⟩:=hr'.KI _ rfl;have k:=hr'.oL;rw[e1,e2]at k;dsimp only at k;rw[a5.out]at k;obtain⟨gb,rfl,c5⟩:=acm.at k V;rw[JI V]at J;have C:R=(Hj kR false d[u]>>=λ_=>qC kR false (d.drop (u+1))>>=λ_=>(do
      wm λq=>{q with waiting:=[],mode:=q.kept}
      jM rec t
      return ():M Unit)) l:=by
     rw[J,CJ,M.KR]
    replace H:=z;have y:=fN C;have P:=a1 d[u];clear J C z k e1 e2 hr' hL';rw[show Mu d[u]= .iface 184 (.agg #[ga (d[u].1),ga (d[u].2.1),gw d[u].2.2])from rfl]at c5 P;go_wp21;refine dC (P) H y HS rfl (λ_ _ _ _ h=>And.intro rfl (lS h)) ?_;clear H y;rintro(_) f q w H HX HF y;go_wp2;go_roundw
    case rel=>exact⟨u+1,f,q,by go_num,by omega,y,H⟩
    case measure=>simp[intOf];omega
   .have C:R=(jM rec t>>=λ_=>(Pure.pure ():M Unit)) {l with waiting:=[],mode:=l.kept}:=by
     rw[J,F7 (by omega)];rfl
    have O:=(z.unlock a0);obtain⟨F,G,c4⟩:∃F G,wr.cell? ⟨E.bB,194,none⟩=some (.slice F l.waiting.length G):=by
     have⟨L4,_,hr4⟩:=O.rel;have⟨F,G,e4⟩:=gv hr4.oL;exact⟨F,G,by rw[<-e4];exact hr4.ZQ⟩
    have f4:=O.free 194;have a9:=O.lt;have K:=O.Nb a0;have c5:=K.Rh;have c6:=K.ru;have f6:=K.free 192;have aa:=K.lt;have H:=K.iW l.kept;have y:=fN C;clear J C z O K;go_wp21;refine dC (sU E rec HA t ht) H y HS rfl (λ_ _ _ _ h=>And.intro rfl (lS h)) ?_;clear H y;rintro(_) f q w H HX HF y;go_wp2;go_end0;exact fZ y H rfl
attribute [local go_sem] Oper.semAt_some
def J9 (h:M Unit) (t:gz):M Unit:=λd=>if d.inScope (hH [t.name]) Aj then h d else .ok () d
def N4 (E:Env) (v:gG) (p:gn->Bool) (W:gr):Prop:=∃k d,v= .func (.func k) #[] d/\Ask E.bm v p W
def N4.k {E:Env} {v:gG} {p:gn->Bool} {W W':gr} (h:N4 E v p W) (d:Kept [] W W'):N4 E v p W':=by
 have⟨k,lb,e,ha⟩:=h;exact⟨k,lb,e,ha.k0 d⟩
def SlS (s:gn) (v:gG) (W:gr):Prop:=∃g,v=nI g 1 1/\W.heap[g]?=some (gy #[gw s] 9)
def SlS.k {s:gn} {v:gG} {W W':gr} (h:SlS s v W) (d:Kept [] W W'):SlS s v W':=by
 have⟨g,e,hb⟩:=h;exact⟨g,e,d.at hb (by simp)⟩
structure IfI (E:Env) (t:gz) (σ:Ab) (ta tb:Int) (tao:Option Addr) (tn tcp:Nat) (W0:gr) (z0 z1 z2 z3 z4 z5 z6 z7:Bool) (s4 s5 s6 s7 s8 s9 s10 s11:gG) (W:gr):Prop where
 f0:z0=true->s4=iq E.bB
 f1:z1=true->s5=iA E t
 f2:z2=true->s6= .agg #[ga ta,ga tb,gw t.name,.slice tao tn tcp]
 f3:z3=true->s7=gw t.name
 f4:z4=true->SlS t.name s8 W
 f5:z5=true->N4 E s9 (hH [t.name]) W
 f6:z6=true->N4 E s10 Aj W
 f7:z7=true->s11= .bool (σ.inScope (hH [t.name]) Aj)
 d2:z2=true->z1=true
 d3:z3=true->z2=true
 d4:z4=true->z3=true
 d5:z5=true->z4=true
 d7:z7=true->z0=true/\z5=true/\z6=true
 wi:Kept [] W0 W
theorem MQ (E:Env) (t:gz) (r:Ru) (N:M Unit) (hr:lQ E r t N) (b1 b2:Nat) (u:gG) {σ:Ab} (h:RF E f σ w) (hs:J9 N t σ≠ .stuck) (P:box w b1 (iq E.bB) 117) (K:box w b2 u 164) (hu:nr E.bm E.bB (f 0) r u w):
  Calls prog 227 #[iA E t,iq b1,iq b2] w (Leaves E f σ.nodes.length w (J9 N t σ) uV):=by
 obtain⟨R,hR⟩:∃R,R=J9 N t σ:=⟨_,rfl⟩;rw[<-hR]at hs|-;have⟨ta,tb,tao,tn,tcp,HTG⟩:=DL E t h;have a2:=(λw=>Am ta tb t.name tao tn tcp w);have O:=fN h;have HS:=hs;have HR:=fN hR;have a0:=fN K;have HU:=hu;have a7:=hr;have a1:=(λW (hk:Kept [] w W)=>(by rw[fO (hk.at P (by simp))];rfl:W.cell? ⟨b1,0,none⟩=some (iq E.bB)));clear h hR K;go_enter func227,ntmps227;go_wp21;refine uU (by rfl) ?_
 try (change wpAny _ _ _ _ _ _ _ (World.drew _))
 refine ER (I:=λx ac W=>∃X Y Z z3 z4 z5 z6 z7 s4 s5 s6 s7 s8 s9 z C,x=#[X,Y,Z,z3,z4,z5,z6,z7]/\ac=⟨#[iA E t,iq b1,iq b2,undef,s4,s5,s6,s7,s8,s9,z,C,undef,undef,undef],[]⟩/\IfI E t σ ta tb tao tn tcp w X Y Z z3 z4 z5 z6 z7 s4 s5 s6 s7 s8 s9 z C W) ?_ ?_ _ _ _ _ ?_ ?_
 .rintro x a W k ⟨X,Y,Z,z3,z4,z5,z6,z7,s4,s5,s6,s7,s8,s9,z,C,rfl,rfl,d⟩ hi;simp only[Region.ready,QS,QU]at hi;have⟨V,hc⟩:=hi;have V:k < 8:=V;obtain rfl|rfl|rfl|rfl|rfl|rfl|rfl|rfl:k=0\/k=1\/k=2\/k=3\/k=4\/k=5\/k=6\/k=7:=by omega
  all_goals simp[Region.binds]at hc
  .refine mK rfl ?_;intro G q;have ab:X=false:=by simp[hc]
   have cc:=a1 W d.wi;go_simp;refine q _ _ ⟨_,_,_,_,_,_,_,_,_,_,_,_,_,_,_,_,rfl,rfl,?_⟩;exact {d with f0:=(λ_=>rfl),d7:=(λU=>by have h2:=(d.d7 U).1;grind)}
  .refine mK rfl ?_;intro G q;have P:Y=false:=by simp[hc]
   go_simp;refine q _ _ ⟨_,_,_,_,_,_,_,_,_,_,_,_,_,_,_,_,rfl,rfl,?_⟩;exact {d with f1:=(λ_=>rfl),d2:=(λ_=>rfl)}
  .refine mK rfl ?_;intro G q;have K:Z=false:=by simp[hc]
   have e1:=d.f1 (by simp[hc]);subst e1;go_simp;refine(HTG W).mono ?_;rintro e W2 ⟨rfl,l⟩;refine q _ _ ⟨_,_,_,_,_,_,_,_,_,_,_,_,_,_,_,_,rfl,rfl,?_⟩;exact {d with f2:=(λ_=>rfl),f4:=(λh=>(d.f4 h).k l),f5:=(λh=>(d.f5 h).k l),f6:=(λh=>(d.f6 h).k l),d2:=(λ_=>by simp[hc]),d3:=(λ_=>rfl),wi:=(d.wi.trans l)}
  .refine mK rfl ?_;intro G q;have ad:z3=false:=by simp[hc]
   have e2:=d.f2 (by simp[hc]);subst e2;have ai:=a2;go_simp;refine q _ _ ⟨_,_,_,_,_,_,_,_,_,_,_,_,_,_,_,_,rfl,rfl,?_⟩;exact {d with f3:=(λ_=>rfl),d3:=(λ_=>by simp[hc]),d4:=(λ_=>rfl)}
  .refine mK rfl ?_;intro G q;have ae:z4=false:=by simp[hc]
   have e3:=d.f3 (by simp[hc]);subst e3;go_simp;have ka:Kept [] W (W.alloc (gy #[gw t.name] 9)):=(Kept.refl _ _).alloc _;refine q _ _ ⟨_,_,_,_,_,_,_,_,_,_,_,_,_,_,_,_,rfl,rfl,?_⟩;exact {d with f4:=(λ_=>⟨_,rfl,fQ W _⟩),f5:=(λh=>(d.f5 h).k ka),f6:=(λh=>(d.f6 h).k ka),d4:=(λ_=>by simp[hc]),d5:=(λ_=>rfl),wi:=(d.wi.trans ka)}
  .refine mK rfl ?_;intro G q;have af:z5=false:=by simp[hc]
   have e4:=d.f4 (by simp[hc]);have⟨g,e4,hg⟩:=d.f4 (by simp[hc]);subst e4;go_simp;refine(MY E.bm g 1 [t.name] W hg (by simp)).mono ?_;rintro e W2 ⟨⟨v,rfl,ha⟩,l⟩;refine q _ _ ⟨_,_,_,_,_,_,_,_,_,_,_,_,_,_,_,_,rfl,rfl,?_⟩;exact {d with f4:=(λ_=>⟨g,rfl,l.at hg (by simp)⟩),f5:=(λ_=>(by have⟨k,lb,e,_,_⟩:=ha.call;exact⟨k,lb,e,ha⟩)),f6:=(λh=>(d.f6 h).k l),d5:=(λ_=>by simp[hc]),d7:=(λU=>by have h2:=(d.d7 U).2.1;grind),wi:=(d.wi.trans l)}
  .refine mK rfl ?_;intro G q;have ag:z6=false:=by simp[hc]
   go_simp;refine(wj E W).mono ?_;rintro e W2 ⟨k,lb,rfl,ha,l⟩;refine q _ _ ⟨_,_,_,_,_,_,_,_,_,_,_,_,_,_,_,_,rfl,rfl,?_⟩;exact {d with f4:=(λh=>(d.f4 h).k l),f5:=(λh=>(d.f5 h).k l),f6:=(λ_=>⟨k,lb,rfl,ha⟩),d7:=(λU=>by have h2:=(d.d7 U).2.2;grind),wi:=(d.wi.trans l)}
  .refine mK rfl ?_;intro G q;have ah:z7=false:=by simp[hc]
   have e0:=d.f0 (by simp[hc]);subst e0;have a5:=d.f5 (by simp[hc]);have a6:=d.f6 (by simp[hc]);go_simp;refine(vq (O.ib d.wi) (hH [t.name]) Aj _ _ a5.choose_spec.choose_spec.2 a6.choose_spec.choose_spec.2).mono ?_;rintro e W2 ⟨rfl,l⟩;refine q _ _ ⟨_,_,_,_,_,_,_,_,_,_,_,_,_,_,_,_,rfl,rfl,?_⟩;exact {d with f4:=(λh=>(d.f4 h).k l),f5:=(λh=>(d.f5 h).k l),f6:=(λh=>(d.f6 h).k l),f7:=(λ_=>rfl),d7:=(λ_=>by simp[hc]),wi:=(d.wi.trans l)}
 .rintro x a W ⟨X,Y,Z,z3,z4,z5,z6,z7,s4,s5,s6,s7,s8,s9,z,C,rfl,rfl,d⟩ hr;simp only[Region.ready,Zj,QU]at hr;have q0:=hr 0 (by decide);simp[Region.binds]at q0;subst q0;have q1:=hr 1 (by decide);simp[Region.binds]at q1;subst q1;have q2:=hr 2 (by decide);simp[Region.binds]at q2;subst q2;have q3:=hr 3 (by decide);simp[Region.binds]at q3;subst q3;have q4:=hr 4 (by decide);simp[Region.binds]at q4;subst q4;have q5:=hr 5 (by decide);simp[Region.binds]at q5;subst q5;have q6:=hr 6 (by decide);simp[Region.binds]at q6;subst q6;have q7:=hr 7 (by decide);simp[Region.binds]at q7;subst q7;have e7:=d.f7 rfl;subst e7;have H:=(At.start O).k0 d.wi;have F:=fN d.wi;clear d;cases hq:σ.inScope (hH [t.name]) Aj with
  |false=>
   have a4:=(show R= .ok () σ by rw[HR.out];unfold J9;rw[hq];rfl);go_wp2;go_end0;exact fZ a4 H rfl
  |true=>
   have J:R=N σ:=by rw[HR.out];unfold J9;rw[hq];rfl
   have a9:N σ≠ .stuck:=by rw[<-J];exact HS
   have aa:=nr.fr HU (Fr.n (bs:=E.bs) (.gP F) E.bm);have⟨k,bs,cs,hv,eg,HC⟩:=a7 u f σ W H.rel aa a9;subst hv;have c2:=fO (F.out.at a0.out (by simp)) 0;dsimp at c2;have a8:=fN J;clear J;go_wp21;refine HC.mono ?_;intro e W2 hL;have HL:=fN hL;have a3:=Fr.gP (bs:=E.bs) F;clear hL;have y:=fN a8;cases hrr:N σ with
   |ok a σ2=>
    rw[hrr]at HL y;obtain⟨g,g1,g2,rfl,g4,g5⟩:=HL;have HG:=H.go g4 g1 g2 g5;go_wp2;go_end0;exact fZ y HG rfl
   |stop c p=>
    rw[hrr]at HL y;obtain⟨j,rfl,G2,g3⟩:=HL;have G3:=a3.trans g3;go_wp2;exact⟨rfl,oU y G2 G3⟩
   |stuck=>grind
 .decide
 .exact⟨_,_,_,_,_,_,_,_,_,_,_,_,_,_,_,_,rfl,rfl,⟨(by simp),(by simp),(by simp),(by simp),(by simp),(by simp),(by simp),(by simp),(by simp),(by simp),(by simp),(by simp),(by simp),((Kept.refl _ _).drew)⟩⟩
def Iw {n : gn} {a p k : gG} (h:w.heap[i]?=some (gy #[gw n,a,p,k] 136)):w.cell? ⟨i,0,none⟩=some (gw n)/\w.cell? ⟨i,1,none⟩=some a/\i < w.heap.size:=⟨by rw[fO h];rfl,by rw[fO h];rfl,je h⟩
def Vk (i j:Nat) (V U:gn) (a1 p1 k1 a2 p2 k2:gG) (d h:lh) (w:gr) (hi:w.heap[i]?=some (gy #[gw V,a1,p1,k1] 136)) (hj:w.heap[j]?=some (gy #[gw U,a2,p2,k2] 136)) (J:yi w a1 d) (K:yi w a2 h) (ac:d.length<=4096) (ad:h.length<=4096):
  Calls prog 317 #[gF i,gF j] w λe w'=>e=ir (.bool (kh V U&&(d.length==h.length)&&d.all λx=>h.any λy=>rn x y))/\Kept [] w w':=by
 have O:∀(fn:Fn) (first Z:jE) (w:gr),(Instr.makeFunc fn first Z).run prog w= .ok (.func fn first Z) w:=λ_ _ _ _=>rfl;obtain⟨G,F⟩:∃G,G=w.alloc (gy #[gF j] 65):=⟨_,rfl⟩;have P:Kept [] w G:=by rw[F];exact(Kept.refl _ _).alloc _
 have b1:G.heap[w.heap.size]?=some (gy #[gF j] 65):=by rw[F];exact fQ w _
 have⟨c0,c1,l1⟩:=Iw (P.at hi (by simp));have⟨d0,d1,l2⟩:=Iw (P.at hj (by simp));have e0:G.cell? ⟨w.heap.size,0,none⟩=some (gF j):=by rw[fO b1];rfl
 have C:=fN (λW (l:Kept [] G W)=>zd 345 #[gF w.heap.size] (λa=>!(h.any λy=>rn a y)) a1 d W ((P.trans l).ownsRow J (λ_ _=>by simp)) ac ⟨enters_of func345 (by rfl) rfl,λW2 k a _=>Yf w.heap.size j U a2 p2 k2 h a W2 ((l.trans k).at b1 (by simp)) (((P.trans l).trans k).at hj (by simp)) (((P.trans l).trans k).ownsRow K (λ_ _=>by simp)) ad⟩);have X:=fN (je b1);have H:(!(d.any λa=>!(h.any λy=>rn a y)))=d.all λx=>h.any λy=>rn x y:=by
  rw[List.not_any_eq_all_not];simp
 have⟨ao1,cp1,hav1⟩:=gv J;have⟨ao2,cp2,hav2⟩:=gv K;subst hav1 hav2;have HW:=fN F.symm;have I:=fN P;have a5:=fN H;clear hi hj J K F P b1 H;cases hq:kh V U with
 |false=>
  have u:(V.toList==U.toList)=false:=hq;clear hq;go_enter func317,ntmps317;go_wp21;rw[HW.out]
  go_quiet (fail)
  go_wp2;go_ret;exact⟨rfl,I.out.drewN _⟩
 |true=>
  have u:(V.toList==U.toList)=true:=hq;clear hq;by_cases hl:d.length=h.length
  .have q:((d.length:Int)==(h.length:Int))=true:=by rw[hl];simp
   have a8:=fN (show(d.length==h.length)=true by rw[hl];simp);clear hl;go_enter func317,ntmps317;go_wp21;rw[HW.out];obtain⟨Y,a4⟩:∃Y,Y=w.heap.size:=⟨_,rfl⟩;rw[<-a4]at e0 C X|-;clear a4;have HC:=fN (λ(W:gr) (l:Kept [] G W)=>(⟨(l.cell (p:=⟨i,0,none⟩) l1 (by simp)).trans c0,(l.cell (p:=⟨i,1,none⟩) l1 (by simp)).trans c1,(l.cell (p:=⟨j,0,none⟩) l2 (by simp)).trans d0,(l.cell (p:=⟨j,1,none⟩) l2 (by simp)).trans d1,(l.cell (p:=⟨Y,0,none⟩) X.out (by simp)).trans e0⟩:_/\_/\_/\_/\_));have aa:=fN u;have a7:=fN q;have a9:=fN O;clear c0 c1 d0 d1 e0 u q O;refine uU (by rfl) ?_;refine od (λ(g:Unit) z=>⟨#[gF i,gF j,undef,gF Y,ce z 31 (.bool false) (.bool (!(d.any λa=>!(h.any λy=>rn a y)))),cd z 0 (gF i),cd z 1 (gF i),cd z 2 (gF i),cd z 3 (gw V),cd z 4 (gF j),cd z 5 (gF j),cd z 6 (gF j),cd z 7 (gw U),cd z 8 (.bool true),cd z 9 (.bool true),cd z 10 (gF i),cd z 11 (gF i),cd z 12 (lK i 1),cd z 13 (.slice ao1 d.length cp1),cd z 14 (ga d.length),cd z 15 (gF j),cd z 16 (gF j),cd z 17 (lK j 1),cd z 18 (.slice ao2 h.length cp2),cd z 19 (ga h.length),cd z 20 (.bool true),cd z 21 (.bool true),cd z 22 (.bool true),cd z 23 (gF i),cd z 24 (gF i),cd z 25 (lK i 1),cd z 26 (.slice ao1 d.length cp1),cd z 27 (.func (.func 345) #[] #[gF Y]),cd z 28 (.bool (d.any λa=>!(h.any λy=>rn a y))),cd z 29 (.bool (!(d.any λa=>!(h.any λy=>rn a y)))),cd z 30 (.bool (!(d.any λa=>!(h.any λy=>rn a y))))],[]⟩) (λg z W=>Kept [] G W) 32 [[],[0],[1],[2],[],[4],[5],[6],[3,7],[8],[9],[9,10],[9,11],[9,12],[9,13],[9],[9,15],[9,16],[9,17],[9,18],[9,14,19],[9,20],[21],[22],[22,23],[22,24],[22,25],[22],[22,26,27],[22,28],[22,29],[30]] (()) rfl rfl ((Kept.refl [] G).drew) ?_ ?_
   .repeat' first|exact lp|refine ln ?_ ?_
    all_goals
     rintro g z W N hc _;simp[zE]at hc;refine mK rfl ?_;intro K' a0;simp only[kX,hc];have⟨c0,c1,d0,d1,e0⟩:=HC.out W N;have u:=aa.out;have q:=a7.out;have O:=a9.out;have C1:=fN (C.out W N);go_simp
     first
     |refine a0 _ _ ⟨g,?_,N⟩
     |refine C1.out.mono ?_;rintro e W2 ⟨rfl,k⟩;refine a0 _ _ ⟨g,?_,N.trans k⟩
     simp[ot,uP,kX,uY,Cu,hc]
   .rintro g W N;simp only[uF,Ms];have a6:=fN N;clear N;rename_i KK a3;refine a3 _ _ ?_;clear a3 KK;go_wp2;go_ret;exact⟨by rw[a8.out,<-a5.out];rfl,I.out.trans a6.out⟩
  .have q:((d.length:Int)==(h.length:Int))=false:=beq_eq_false_iff_ne.2 (by omega);have ab:(d.length==h.length)=false:=beq_eq_false_iff_ne.2 hl;go_enter func317,ntmps317;go_wp21;rw[HW.out]
   go_quiet (fail)
   go_wp2;go_ret;exact⟨by rw[ab];rfl,I.out.drewN _⟩
section
attribute [local go_sem] Oper.semAt_some
attribute [local go_sem] pW
attribute [local simp] pW
def Ab.th (σ:Ab) (j:Nat) (c:jb×Nat) (i:Nat):jb×Nat:=if σ.Vv i j then (some i,c.2+1)else c
def zU (σ:Ab) (j:Nat):∀(d:kL) (c:jb×Nat),σ.rT j d c=(zG d).foldl (σ.th j) c
 |[],_=>rfl
 |none::_,_=>rfl
 |some i::r,c=>by
  show(if σ.Vv i j then σ.rT j r (some i,c.2+1)else σ.rT j r c)=(zG r).foldl (σ.th j) (σ.th j c i);unfold Ab.th;split<;>exact zU σ j r _
theorem Iy (σ:Ab) (j:Nat):∀(d:List Nat) (c:jb×Nat),(d.foldl (σ.th j) c).2<=c.2+d.length
 |[],c=>by simp
 |x::d,c=>by
  have h:=Iy σ j d (σ.th j c x);grind[Ab.th]
theorem Tl:∀(d:kL),(zG d).length<=d.length
 |[]=>gW _
 |none::_=>iP _
 |some _::r=>by have:=Tl r;grind[zG]
def Rel.aeb {σ:Ab} (h:Rel E L σ w) {a b : zz} (hi:σ.gV i=some a) (d:σ.gV j=some b):
  Calls prog 317 #[gF (L.gH i),gF (L.gH j)] w λe w'=>e=ir (.bool (σ.Vv i j))/\Kept [] w w':=by
 have⟨h1,h2,h3⟩:=h.su i _ (Ab.jd hi);have⟨g1,g2,g3⟩:=h.su j _ (Ab.jd d);refine(Vk _ _ _ _ _ _ _ _ _ _ _ _ w h1.ik g1.ik h2 g2 h3 g3).mono ?_;rintro e w' ⟨rfl,k⟩;refine⟨?_,k⟩;unfold Ab.Vv;rw[hi,d];rfl
def BO {k : Nat} {t : TypeId} (d:w.heap[D]?=some o) (l:o.isCells=false) (h:w.heap[k]?=some (.cells c t m)):(w.putObj D o').heap[k]?=some (.cells c t m):=
 (rG (λe=>by subst e;rw[d]at h;cases h;cases l)).trans h
def kM.aaU {nd : A0} (h:kM bs L w i nd) (d:w.heap[D]?=some o) (k:o.isCells=false):kM bs L (w.putObj D o') i nd:=by
 cases nd with
 |el e=>exact⟨⟨BO d k h.1.ik,EW h.1.row o' d k,h.1.le,h.1.Tg⟩,EW h.2.1 o' d k,h.2.2⟩
 |tx s=>exact BO d k h
 |cm s=>exact BO d k h
 |dt s=>exact BO d k h
theorem Fr.take (h:Fr bs w W) (d:w.heap.size<=D) (o:Obj):Fr bs w (W.putObj D o):=by
 have⟨S,hk,hS⟩:=h;exact⟨S,hk.grown (Bl W D o) (λk e=>by grind),hS⟩
def Rel.aaU {σ:Ab} (h:Rel E L σ w) (d:w.heap[D]?=some o) (k:o.isCells=false) (l:E.w0.heap.size<=D):Rel E L σ (w.putObj D o'):=by
 have⟨C,hb,hC⟩:=h.ik;exact
  {fr:=h.fr.take l o'
   env:=h.env
   Dt:=h.Dt
   su:=λi p hi=>(h.su i p hi).aaU d k
   inj:=h.inj,AL:=h.AL,FJ:=h.FJ,uq:=h.uq,D0:=h.D0,wf:=h.wf
   ik:=⟨C,BO d k hb,hC⟩
   oP:=EW h.oP o' d k
   pR:=EW h.pR o' d k
   FP:=h.FP,wC:=h.wC,D7:=h.D7
   oL:=EW h.oL o' d k
   KJ:=h.KJ
   rd:=BO d k h.rd
   P9:=h.P9
   tok:=EW h.tok o' d k
   KG:=h.KG,bz:=h.bz,bB:=h.bB,bR:=h.bR,bN:=h.bN,Ck:=h.Ck,ab:=h.ab,tb:=h.tb,KI:=h.KI}
def Fr.other (h:Fr bs w W) (k:w.heap[D]?=some o) (p:o.isCells=false):W.heap[D]?=some o:=by
 have⟨S,hk,hS⟩:=h;have d:D < w.heap.size:=(Array.getElem?_eq_some_iff.1 k).1;refine(hk.block D d λl=>?_).trans k;have⟨⟨c,t,m,h3,_⟩,_⟩:=hS D l d;rw[k]at h3;cases h3;cases p
def Yj {α F:Type} {σ:Ab} {k : Nat} {m:M α} {l:(Nat->Nat)->α->gG} (C:m σ≠ .stuck->Calls prog k A w (jS E f σ.nodes.length w (m σ) l)) (H:At E f0 n0 w0 f σ w) {R:pC F} {K:α->M F} (h:R=(m>>=K) σ) (N:R≠ .stuck)
  (u:∀c p j w',R= .stop c p->lL w' j c p->Fr E.bs w0 w'->Fr E.bs w w'->Q (qs j) w')
  (q:∀a d w',At E f0 n0 w0 f d w'->Fr E.bs w w'->R=K a d->Q (ir (l f a)) w'):Calls prog k A w Q:=by
 rw[M.gm]at h;have z:m σ≠ .stuck:=λe=>N (by rw[h,e]);refine(C z).mono ?_;intro e w' hl;cases hr:m σ with
 |ok a d=>
  rw[hr]at hl h;obtain⟨rfl,I,y,J⟩:=hl;exact q a d w' (H.to I J y) y h
 |stop c p=>
  rw[hr]at hl h;obtain⟨j,rfl,G,x⟩:=hl;exact u c p j w' h G (H.fr.trans x) x
 |stuck=>exact absurd hr z
def Po {d:Ab} {r : pC Unit} (H:At E f n w f d w2) (k:w2.heap[D]?=some (.deferred (some []))) (h:w.heap.size<=D) (hr:r= .ok () d):jS E f n w r uV (o9) (w2.putObj D (.deferred none)):=by
 subst hr;have⟨L,e,hr⟩:=H.rel;exact⟨rfl,⟨L,e,hr.aaU k rfl (jH H.hw h)⟩,H.fr.take h _,H.le⟩
def IC {c p k : Nat} {r : pC Unit} (q:lL w2 k c p) (l:Fr E.bs w w2) (h:w2.heap[D]?=some (.deferred (some []))) (d:w.heap.size<=D) (hr:r= .stop c p):jS E f n w r uV (qs k) (w2.putObj D (.deferred none)):=by
 subst hr;exact⟨k,rfl,BO h rfl q,l.take d _⟩
def UB {σ:Ab} (h:Rel E L σ w) (x:jb) (u:σ.gQ x=true):
  Calls prog 177 #[lK E.bB 189,oV L.gH x] w λe w'=>e=o9/\RF E L.gH {σ with act:=σ.act.erase x} w'/\Fr E.bs w w'/\Kept (E.bB::L.cv.ownBlock.toList) w w':=by
 have⟨C,hL,hC⟩:=h.Gg;refine(zS E.bs E.bB 189 _ C _ _ (iw L.gH x) w hL h.elA (h.gQ u)).mono ?_;rintro e w' ⟨rfl,d⟩;have⟨_,_,hk,_⟩:=id d;obtain⟨k,l,p,q⟩:=h.An hL hC (by rw[<-vo h.inj];exact d) λy z=>h.wf.act y (Ax z);exact⟨rfl,⟨k,l,p⟩,q,hk⟩
theorem adT {σ:Ab} (h:RF E f σ w) (j:Nat) (am:σ.gV j=some ej) (Z:Mb j σ≠ .stuck):Calls prog 274 #[Bp E,nV f j] w (jS E f σ.nodes.length w (Mb j σ) uV):=by
 have H:=At.start h;obtain⟨L,rfl,hr⟩:=h;refine(xk (n:=9)).1 ?_;refine xl func274 rfl trivial ?_ rfl;simp only[ntmps274,wS,sW,wx,Nat.reduceAdd,Nat.reduceSub,wT,wU,wV,wW,sC,uT];obtain⟨V,N⟩:∃V,V=((w.alloc (gy #[nV L.gH j] 65)).alloc (gy #[.pointer none] 65)).alloc (gy #[ga 0] 3):=⟨_,rfl⟩;have a5:Kept [] w V:=by rw[N];exact(((Kept.refl _ _).alloc _).alloc _).alloc _
 have⟨B0,B1,B2⟩:=oc w (gy #[nV L.gH j] 65) (gy #[.pointer none] 65) (gy #[ga 0] 3);rw[<-N]at B0 B1 B2;have u:V.heap.size=w.heap.size+1+1+1:=by rw[N];simp
 have ad:=hr.ib a5;have av:=hr.lt;have au:=hr.D7;have HB:=GR E.bB V;have ac:=(λ(W:gr) (Y:Kept [] w W) (i:Nat) (e:zz) (hi:σ.gV i=some e)=>(hr.ib Y).aeb hi am);have af:=(λ(W:gr) (Y:Kept [] w W)=>hr.ib Y);have HA:=(λ(i:Nat) (hi:some i∈σ.act)=>hr.wf.act (some i) hi);have HO:=(λg (hg:L.cv.ownBlock=some g)=>(hr.pR.lt g hg).2);have HZ:=fN u;have HW:=fN N;have HS:=Z;clear u N
 gi_wp2_with fail
 rw[<-HW.out];refine(callsIn_wide.2 HB).mono ?_;rintro e w' ⟨rfl,rfl⟩;gi_wp2;refine Uh (by omega) ad rfl [w.heap.size+1,w.heap.size+1+1] ?_
  (λpre W=>Kept [] w W/\W.heap[w.heap.size]?=some (gy #[nV L.gH j] 65)/\W.heap[w.heap.size+1]?=some (gy #[oV L.gH (pre.foldl (σ.th j) (none,0)).1] 65)/\W.heap[w.heap.size+1+1]?=some (gy #[ga ((pre.foldl (σ.th j) (none,0)).2)] 3))
  (λ_ _ _=>False)
  ?_ ?_ ?_ (λx=>{tmps:=#[Bp E,nV L.gH j,undef,gF w.heap.size,gF (w.heap.size+1),gF (w.heap.size+1+1),jY (some x),Bp E,KS V.heap.size,jY (some x),undef,undef,undef,undef,undef,undef,undef,undef,undef,undef,undef,undef,undef,undef,undef,undef],defers:=[]}) ?assign ?body ?done ?stop
 .grind
 .rintro pre A B row ⟨h1,P,I,X⟩ hg hr;have u:=HZ.out;exact⟨lX h1 hg hr (by omega),ky P hg hr (by omega),ky I hg hr (by omega),ky X hg hr (by omega)⟩
 .rintro c pre A B row h _ _;exact h
 .have Y:Kept [] V (V.alloc (gy #[Bp E] 117)):=(Kept.refl _ _).alloc _;exact⟨a5.trans Y,Y.at B0 (by simp),Y.at B1 (by simp),Y.at B2 (by simp)⟩
 case assign=>
  intro l x W K hK;gi_wp2;exact hK
 case body=>
  rintro l pre i W hi ⟨HK,B3,B4,B5⟩ ap;have ar:(pre.foldl (σ.th j) (none,0)).2<=4096:=by have:=Iy σ j pre (none,0);simp at this;omega
  have U:=HA i hi;obtain⟨e0,al⟩:∃e0,σ.gV i=some e0:=Option.isSome_iff_exists.1 U;have C:=ac W HK i e0 al;have c1:=fO B3 0;dsimp at c1;have O:=fN (show(pre++[i]).foldl (σ.th j) (none,0)=σ.th j (pre.foldl (σ.th j) (none,0)) i by simp);rw[show jY (some (L.gH i))=gF (L.gH i)from rfl];generalize pre.foldl (σ.th j) (none,0)=c at *
  gi_wp2_with fail
  refine(qu l (callsIn_wide.2 C)).mono ?_;rintro e W3 ⟨rfl,J⟩;have G3:=J.at B3 (by simp);have G4:=J.at B4 (by simp);have G5:=J.at B5 (by simp);have d4:=fO G4 0;have d5:=fO G5 0;have f4:=gu G4 0;have f5:=gu G5 0;dsimp at d4 d5;have a6:=HK.trans J;have a7:=J.mono (S':=[w.heap.size+1,w.heap.size+1+1]) (by simp);cases hq:σ.Vv i j with
  |true=>
   have HQ:=fN (show σ.th j c i=(some i,c.2+1) by unfold Ab.th;rw[hq];rfl);gi_wp2;have k6:Kept [w.heap.size+1,w.heap.size+1+1] W3 ((W3.setCell ⟨w.heap.size+1,0,none⟩ (gF (L.gH i))).setCell ⟨w.heap.size+1+1,0,none⟩ (ga ((c.2:Int)+1))):=((Kept.refl _ W3).setCell (.inl (by simp)) _).setCell (.inl (by simp)) _;refine⟨a7.trans k6,((a6.setCell (.inr (by simp)) _).setCell (.inr (by simp;omega)) _),k6.at G3 (by simp;omega),?_,?_⟩
   .rw[O.out,HQ.out];exact(Below.heap_setCell _ _ _ _ (by simp)).trans (fV G4 0 _)
   .rw[O.out,HQ.out];exact fV ((Below.heap_setCell _ _ _ _ (by simp)).trans G5) 0 _
  |false=>
   have HQ:=fN (show σ.th j c i=c by unfold Ab.th;rw[hq];rfl);gi_wp2;exact⟨a7,a6,G3,by rw[O.out,HQ.out];exact G4,by rw[O.out,HQ.out];exact G5⟩
 case done=>
  rintro D W HD ⟨a8,a4,I,X⟩ y;rw[<-zU]at I X;have ax:(σ.rT j σ.act.reverse (none,0)).2<=4096:=by
   rw[zU];have a1:=Iy σ j (zG σ.act.reverse) (none,0);have a2:=Tl σ.act.reverse;simp at a1 a2;omega
  obtain⟨R,z⟩:∃R,R=Mb j σ:=⟨_,rfl⟩;have Z:=HS;rw[<-z]at Z;have F:R=if 3<=(σ.rT j σ.act.reverse (none,0)).2 then (kD (σ.rT j σ.act.reverse (none,0)).1>>=λ_=>(lj (some j)>>=λ_=>(Pure.pure ():M Unit))) σ else (lj (some j)>>=λ_=>(Pure.pure ():M Unit)) σ:=z
  generalize σ.rT j σ.act.reverse (none,0)=c at *;have c1:=fO a4 0;have c2:=fO I 0;have c3:=fO X 0;dsimp at c1 c2 c3;replace H:=H.k0 a8;replace HS:=Z;by_cases I:3<=c.2
  .rw[gN I]at F;have HR:=fN F;clear F;have U:σ.gQ c.1=true:=by
    cases hq:σ.gQ c.1 with
    |true=>rfl
    |false=>
     refine absurd ?_ HS;rw[HR.out,M.gm];unfold kD;rw[hq];rfl
   have ae:Hid (R=(lj (some j)>>=λ_=>(Pure.pure ():M Unit)) {σ with act:=σ.act.erase c.1}):=by
    refine fN ?_;rw[HR.out,M.gm];unfold kD;rw[U];rfl
   have a9:=UB (af _ a8.drew) c.1 U;have aw:=H.lt
   gi_wp2_with fail
   refine wpIn_wide.2 ?_;rename_i K ak _;refine wp_mono (Q:=Exit.then (λa W'=>∃d e b,a={tmps:=#[Bp E,nV L.gH j,undef,gF w.heap.size,gF (w.heap.size+1),gF (w.heap.size+1+1),undef,Bp E,KS V.heap.size,undef,undef,undef,undef,undef,undef,undef,ga c.2,b,Bp E,d,lK E.bB 189,oV L.gH c.1,e,undef,undef,undef],defers:=[{target:=Target.collected D,args:=#[]}]}/\At E L.gH σ.nodes.length w L.gH {σ with act:=σ.act.erase c.1} W'/\Fr E.bs W W'/\Kept (E.bB::L.cv.ownBlock.toList) W W') (λ_ _ _=>False)) ?_ ?_
   .go_region_with (go_at_call 177;refine a9.mono ?_;rintro e w5 ⟨rfl,q2,q3,q4⟩;have ag:=fN ((H.k0 ((Kept.refl _ W).drew)).to q2 (rS _ _ rfl) q3);have aa:=fN q3;have ab:=fN (((Kept.refl _ W).drew).trans q4);clear q2 q3 q4)
    all_goals exact⟨_,_,_,rfl,ag.out,(Fr.gP ((Kept.refl _ W).drew)).trans aa.out,ab.out⟩
   .intro e a W' hq;cases e with
    |normal=>
     obtain⟨d,e,b,rfl,ah,ai,aj⟩:=hq;have b2:W'.heap[w.heap.size]?=some (gy #[nV L.gH j] 65):=by
      refine aj.at a4 λhm=>?_;rcases List.mem_cons.1 hm with hm|hm
      .omega
      .grind
     have c1:=fO b2 0;dsimp at c1;have k:=Fr.other (o:= .deferred (some [])) ai y rfl;replace H:=ah;replace y:=k;replace HR:=ae;refine ak _ _ ?_
     gi_wp2_with fail
     refine callsIn_wide.2 ?_;refine Yj (λZ=>Bq E (some j) _ _ _ H.rel Z) H HR.out HS ?_ ?_
     .intro c p q ws h1 P I X;have k:=Fr.other (o:= .deferred (some [])) X y rfl;refine⟨by simp,.inl ⟨_,_,rfl,oM k,?_⟩⟩;have u:=HZ.out;have hD:=HD;exact IC P I k (by omega) (z.symm.trans h1)
     .rintro a an w2 a0 P a3;have k:=Fr.other (o:= .deferred (some [])) P y rfl;have G:=k;gi_wp2;refine⟨by simp,.inl ⟨_,_,rfl,oM G,?_⟩⟩;have u:=HZ.out;have hD:=HD;refine⟨.tuple #[],?_,Po a0 G (by omega) (z.symm.trans a3)⟩;simp[results,results274,go_sem]
    |_=>exact hq.elim
  .rw[gI I]at F;have HR:=fN F;clear F
   gi_wp2_with fail
   refine callsIn_wide.2 ?_;refine Yj (λZ=>Bq E (some j) _ _ _ H.rel Z) H HR.out HS ?_ ?_
   .intro c p q ws h1 P I X;have k:=Fr.other (o:= .deferred (some [])) X y rfl;refine⟨by simp,.inl ⟨_,_,rfl,oM k,?_⟩⟩;have u:=HZ.out;have hD:=HD;exact IC P I k (by omega) (z.symm.trans h1)
   .rintro a an w2 a0 P a3;have k:=Fr.other (o:= .deferred (some [])) P y rfl;have G:=k;gi_wp2;refine⟨by simp,.inl ⟨_,_,rfl,oM G,?_⟩⟩;have u:=HZ.out;have hD:=HD;refine⟨.tuple #[],?_,Po a0 G (by omega) (z.symm.trans a3)⟩;simp[results,results274,go_sem]
 case stop=>rintro D c pre W hD aq h;exact h.elim
end
def Dk (σ:Ab) (x:jb) (d:Nat):∀h:kL,({σ with form:=x}:Ab).nQ d h=σ.nQ d h
 |[]=>rfl
 |y::r=>by
  unfold Ab.nQ;rw[Dk σ x d r];rfl
def Kw (E:Env) (t:gz) (N:iY E t):iU E 189 (λ_=>#[Bp E,iA E t]) (oX t) uV:=by
 refine dI λf x w R k HS H=>?_;unfold oX at k;go_enter func189,ntmps189;have⟨kb,lbb,cb,HQ⟩:=H.rel.bounds;have F:=H.lt;have z:=cb;have J:=(Kept.refl [] w).drew;go_wp21
 go_cut [11]from 4 to 10 (λr wc=>r= .bool (x.inScope (hH [gS]) (iJ))/\At E f x.nodes.length w f (x.close (hH [gS]) (iJ)) wc)
 case first=>
  go_region_with (first
   |(go_at_call 215;refine(ni E [gS] w.drew (by simp)).mono ?_;rintro e P ⟨Y,O,rfl,l,u⟩;have h:=J.trans u;have X:P.cell? ⟨E.bB,186,none⟩=some (.func (.func kb) #[] lbb):=(h.cell (p:=⟨E.bB,186,none⟩) F (by simp)).trans z;have y:=fN l;have d:=fN h;clear l u h)
   |(go_at_call 218;refine(Cx (p:=hH [gS]) (q:=iJ) (H.k0 d).rel y (HQ.k0 d)).mono ?_;rintro e w2 ⟨rfl,G,I⟩;have K:=fN ((H.k0 d).to G (xB _ _ _) I);clear G I))
  all_goals (try (go_wp21))
  all_goals (go_meet;exact⟨rfl,K⟩)
 case rest=>
  obtain⟨rfl,C⟩:=hcut;replace H:=C;replace k:Hid (R=(lw t>>=λ_=>(pure ():M Unit)) (x.close (hH [gS]) iJ)):=by
   have:=k;rw[M.gm,tw]at this;exact fN this
  go_wp21;refine dC (qS E (iF E) t N) H k HS rfl lT ?_;rintro(_) f x w H V U k;go_wp2;go_end0;exact fZ k H rfl
def OI (E:Env) (t:gz):iU E 208 (λ_=>#[Bp E,iA E t]) (sq) uV:=by
 refine dI λf k w R d HS H=>?_;unfold sq at d;go_enter func208,ntmps208;have⟨kb,lbb,cb,HQ⟩:=H.rel.bounds;have F:=H.lt;have x:=cb;have I:=(Kept.refl [] w).drew;go_wp21
 go_cut [11]from 4 to 10 (λr wc=>r= .bool (k.inScope (hH [gO]) (iJ))/\At E f k.nodes.length w f (k.close (hH [gO]) (iJ)) wc)
 case first=>
  go_region_with (first
   |(go_at_call 215;refine(ni E [gO] w.drew (by simp)).mono ?_;rintro e P ⟨X,O,rfl,y,C⟩;have u:=I.trans C;have V:P.cell? ⟨E.bB,186,none⟩=some (.func (.func kb) #[] lbb):=(u.cell (p:=⟨E.bB,186,none⟩) F (by simp)).trans x;have G:=fN y;have l:=fN u;clear y C u)
   |(go_at_call 218;refine(Cx (p:=hH [gO]) (q:=iJ) (H.k0 l.out).rel G.out (HQ.k0 l.out)).mono ?_;rintro e w2 ⟨rfl,J,K⟩;have N:=fN ((H.k0 l.out).to J (xB _ _ _) K);clear J K))
  all_goals (try (go_wp21))
  all_goals (go_meet;exact⟨rfl,N.out⟩)
 case rest=>
  obtain⟨rfl,z⟩:=hcut;replace H:=z;clear z HQ x I cb F;have h:=d.out;rw[M.gm,tw]at h;simp only at h;cases hc:k.inScope (hH [gO]) iJ with
  |true=>
   rw[hc]at h;replace d:Hid (R=(yW>>=λa=>(pure a:M Unit)) (k.close (hH [gO]) iJ)):=fN (M.tail (by simpa using h));clear hc h;go_wp21;refine mC (QC E) H d HS rfl lT ?_;clear H d;rintro(_) k w H U d;go_wp2;go_end0;exact fZ d.out H rfl
  |false=>
   rw[hc]at h;replace d:Hid (R= .ok () (k.close (hH [gO]) iJ)):=fN (show R=(pure ():M Unit) (k.close (hH [gO]) iJ)from by simpa using h);clear hc h;go_wp2;go_end0;exact fZ d.out H rfl
def U5 (E:Env) (t:gz):iU E 206 (λ_=>#[Bp E,iA E t]) yu uV:=by
 refine dI λf h w R d HS H=>?_;unfold yu at d;go_enter func206,ntmps206;have p:=H.Rg;have F:=H.free 191;have hl:=H.lt;cases hf:h.form with
 |none=>
  rw[hf]at p d;replace d:Hid (R= .ok () h):=d;rw[show oV f none= .pointer none from rfl]at p;have x:=H.uy none rfl;rw[show({h with form:=none}:Ab)=h from by rw[<-hf]]at x;replace H:=x;go_wp2;go_end0;exact fZ d H rfl
 |some i=>
  have y:=H.rel.acL;rw[hf]at p d y;rw[show oV f (some i)=gF (f i)from rfl]at p;replace H:=H.uy none rfl;have C:=FH H.rel i y;have l:({h with form:=none}:Ab).oB i=h.oB i:=Dk h none i _;rw[l]at C;cases hc:h.oB i with
  |true=>
   rw[hc]at C;have q:=fN C;have k:=d;simp only[hc,xm]at k;replace d:Hid (R=(wm (λh=>h.mG)>>=λ_=>(do j8 (some i);return ():M Unit)) {h with form:=none}):=fN k;clear C k;go_wp21;refine q.mono ?_;rintro e w ⟨rfl,u⟩;replace H:=H.k0 u;go_wp21;refine zV (λ_=>Kd H.rel) H d HS lT ?_;rintro(_) h w H z d;go_wp21;refine mC (Dy E (some i)) H d HS rfl lT ?_;rintro(_) h w H z d;go_wp2;go_end0;exact fZ d H rfl
  |false=>
   rw[hc]at C;have q:=fN C;have k:=d;simp only[hc,wX,Ce]at k;replace d:Hid (R= .ok () {h with form:=none}):=fN k;clear C k;go_wp21;refine q.mono ?_;rintro e w ⟨rfl,u⟩;replace H:=H.k0 u;go_wp2;go_end0;exact fZ d H rfl
attribute [local go_sem] Oper.semAt_some
def RF.wf {σ:Ab} (h:RF E f σ w):Wf σ:=by have⟨L,_,hr⟩:=h;exact hr.wf
theorem AH {xs : kL} {n : Int} (h:io xs n=some i):some i∈xs:=by
 unfold io at h;grind
def Wf.Is {σ:Ab} (h:Wf σ) (hi:σ.last=some i):∃e,σ.gV i=some e:=by
 have d:some i∈σ.gq:=AH hi;exact Option.isSome_iff_exists.1 (h.gq _ d)
theorem Vs {h:Type} {σ:Ab} {R:pC h} {K:Nat->M h} (d:R=(Iu>>=K) σ) (k:R≠ .stuck):∃i,σ.last=some i/\R=K i σ:=by
 rw[M.gm]at d;unfold Iu at d;grind
def oa (E:Env) (t:gz) (u:iY E t):iU E 196 (λ_=>#[Bp E,iA E t]) (iQ t) uV:=by
 refine dI λf h w R d HS H=>?_;unfold iQ at d;go_enter func196,ntmps196;go_wp21;refine dC (qS E (iF E) t u) H d HS rfl lT ?_;rintro(_) f h w H x p d;have hl:=H.lt;have⟨i,hi,hR2⟩:=Vs d HS;have⟨e,he⟩:=H.rel.wf.Is hi;have l:=H.rel.Pk;replace d:=fN hR2;clear hR2;go_wp21;refine l.mono ?_;rintro e k ⟨rfl,rfl⟩;rw[hi];go_wp21;refine zV (λq=>(show Calls prog 274 #[Bp E,nV f i] k (jS E f h.nodes.length k (Mb i h) uV)from adT H.rel i he q)) H d HS lT ?_;rintro(_) h w H p d;go_wp2;go_end0;exact fZ d H rfl
attribute [local go_sem] Oper.semAt_some
def RF.ado {σ:Ab} (h:RF E f σ w) (x:jb) (d:σ.gQ x=true):Calls prog 236 #[lK E.bB 188,oV f x] w λe w'=>e=ir (oV f (io σ.gq (posOf σ.gq x - 1)))/\w'=w:=by
 obtain⟨L,rfl,hr⟩:=h;exact yI hr x d
theorem zt (E:Env) (t:gz):iU E 141 (λ_=>#[Bp E,iA E t]) jf uV:=by
 intro f l w h hs;obtain⟨R,X⟩:∃R,R=jf l:=⟨_,rfl⟩;rw[<-X]at hs|-;have HS:=fN hs;have C:=fN h;have Y:=fN (λW (hk:Kept [] w W)=>mf h.lt hk.size);cases hcu:l.current (hH [gE])with
 |false=>
  have q:=fN (show R=(pS (hH [fU])>>=λ_=>(Pure.pure ():M Unit)) l by rw[X];grind[jf]);have O:=fN hcu;clear h hs X hcu;go_enter func141,ntmps141;go_wp21;refine uU (by rfl) ?_;refine od (λ(g:gG) z=>⟨#[Bp E,iA E t,undef,undef,cd z 0 (Bp E),cd z 1 (g),cd z 2 (.bool false),cd z 3 (.bool false),undef,undef,undef,undef,undef,undef,undef,undef,undef,undef,undef,undef,undef,cd z 17 (.bool false),undef,undef,undef,undef,undef,undef,undef],[]⟩) (λg z W=>Kept [] w W/\(dn z 1=true->N4 E g (hH [gE]) W)) 18 [[],[],[0,1],[2],[3],[3],[3],[3],[3],[3],[3],[3],[3],[3],[3],[3],[3],[3]] (undef) rfl (by rfl) (⟨(Kept.refl _ _).drew,λh=>by cases h⟩) ?_ ?_
  .repeat' first|exact lp|refine ln ?_ ?_
   all_goals
    rintro g z W d G hn;simp[zE]at G;refine mK rfl ?_;intro K' p;simp only[kX,G];have a6:=Y.out W d.1;go_simp
    first
    |refine p _ _ ⟨g,?_,d.1,ph d.2 (by decide)⟩
    |refine(tM E W).mono ?_;rintro e P ⟨k,N,rfl,K,y⟩;refine p _ _ ⟨_,?_,d.1.trans y,λ_=>⟨k,N,rfl,K⟩⟩
    |refine(AD (C.out.ib d.1) (d.2 G.2.1).choose_spec.choose_spec.2).mono ?_;rintro e P ⟨rfl,rfl⟩;rw[O.out];refine p _ _ ⟨g,?_,d.1,ph d.2 (by decide)⟩
    simp[ot,uP,kX,G]
  .rintro g W d;simp only[uF];have H:=fN ((At.start C.out).k0 d.1);clear d;go_wp21;refine(qL E _).mono ?_;rintro e w1 ⟨k1,a1,rfl,u,x⟩;replace H:=fN (H.out.k0 x);have F:=fN u;clear u x;go_wp21;refine zV (λ_=>vi H.out.rel F.out) H q HS lT ?_;clear H q;rintro(_) l w H HF q;go_wp2;go_end0;exact fZ q.out H.out rfl
 |true=>
  obtain⟨i,V⟩:∃i,io l.gq (posOf l.gq l.last - 1)=some i:=by
   cases hq:io l.gq (posOf l.gq l.last - 1)with
   |some i=>simp
   |none=>unfold jf at X;grind
  have Z:=fN (show R=(if kh (l.nm i) fU then (do
    let _ <-xP
    pS (hH [fU])
    return ():M Unit) l else (do pS (hH [fU]);return ():M Unit) l) by rw[X];grind[jf])
  have a0:some i∈l.gq:=AH V;obtain⟨ei,U⟩:∃e,l.gV i=some e:=Option.isSome_iff_exists.1 (h.wf.gq _ a0);have I:l.gQ l.last=true:=by
   cases hl:l.last with
   |none=>rfl
   |some j=>exact Ab.vf (h.wf.gq _ (AH hl))
  have a3:=fN I;have a2:=fN V;have a5:=fN (λW (hk:Kept [] w W)=>(by
   have⟨L,e,hr⟩:=h.ib hk;rw[<-e];exact hr.uK U:W.cell? ⟨f i,0,none⟩=some (gw (l.nm i))))
  have a4:=fN (λW (hk:Kept [] w W)=>(by
   have⟨L,e,hr⟩:=h.ib hk;rw[<-e];exact hr.GQ (Ab.ic U):f i < W.heap.size))
  have O:=fN hcu;clear h hs X hcu V a0 U I;go_enter func141,ntmps141;go_wp21;refine uU (by rfl) ?_;refine od (λ(g:gG×gG) z=>⟨#[Bp E,iA E t,undef,undef,cd z 0 (Bp E),cd z 1 (g.1),cd z 2 (.bool true),cd z 3 (.bool true),cd z 4 (g.2),cd z 5 (Bp E),cd z 6 (gF E.bB),cd z 7 (lK E.bB 188),cd z 8 (Bp E),cd z 9 (gF E.bB),cd z 10 (lK E.bB 188),cd z 11 (oV f l.last),cd z 12 (nV f i),cd z 13 (gF (f i)),cd z 14 (gF (f i)),cd z 15 (gw (l.nm i)),cd z 16 (.bool (hH [fU] (l.nm i))),cd z 17 (.bool (hH [fU] (l.nm i))),undef,undef,undef,undef,undef,undef,undef],[]⟩) (λg z W=>Kept [] w W/\(dn z 1=true->N4 E g.1 (hH [gE]) W)/\(dn z 4=true->N4 E g.2 (hH [fU]) W)) 18 [[],[],[0,1],[2],[3],[3],[3,5],[3,6],[3],[3,8],[3,9],[3,10],[3,7,11],[3,12],[3,13],[3,14],[3,4,15],[3,16]] ((undef,undef)) rfl (by rfl) (⟨(Kept.refl _ _).drew,λh=>(by cases h),λh=>(by cases h)⟩) ?_ ?_
  .repeat' first|exact lp|refine ln ?_ ?_
   all_goals
    rintro g z W d G hn;simp[zE]at G;refine mK rfl ?_;intro K' p;simp only[kX,G];have a6:=Y.out W d.1;have a7:=a4.out W d.1;have cc:=a5.out W d.1;go_simp
    first
    |refine p _ _ ⟨g,?_,d.1,ph d.2.1 (by decide),ph d.2.2 (by decide)⟩
    |refine(tM E W).mono ?_;rintro e P ⟨k,N,rfl,K,y⟩;refine p _ _ ⟨(.func (.func k) #[] N,g.2),?_,d.1.trans y,λ_=>⟨k,N,rfl,K⟩,ph (λh=>(d.2.2 h).k y) (by decide)⟩
    |refine(qL E W).mono ?_;rintro e P ⟨k,N,rfl,K,y⟩;refine p _ _ ⟨(g.1,.func (.func k) #[] N),?_,d.1.trans y,ph (λh=>(d.2.1 h).k y) (by decide),λ_=>⟨k,N,rfl,K⟩⟩
    |refine(AD (C.out.ib d.1) (d.2.1 G.2.1).choose_spec.choose_spec.2).mono ?_;rintro e P ⟨rfl,rfl⟩;rw[O.out];refine p _ _ ⟨g,?_,d.1,ph d.2.1 (by decide),ph d.2.2 (by decide)⟩
    |refine(C.out.ib d.1).Pk.mono ?_;rintro e P ⟨rfl,rfl⟩;refine p _ _ ⟨g,?_,d.1,ph d.2.1 (by decide),ph d.2.2 (by decide)⟩
    |refine((C.out.ib d.1).ado l.last a3.out).mono ?_;rintro e P ⟨rfl,rfl⟩;rw[a2.out,show oV f (some i)=nV f i from rfl];refine p _ _ ⟨g,?_,d.1,ph d.2.1 (by decide),ph d.2.2 (by decide)⟩
    |have⟨k,N,e4,K⟩:=d.2.2 (by simp[G]);rw[e4]at K;have⟨k2,lb2,e5,eg,hcl⟩:=K.call;cases e5;simp only[e4];go_simp;refine(hcl W (vE.refl _ _) _).mono ?_;rintro e P ⟨rfl,rfl⟩;refine p _ _ ⟨g,?_,d.1,ph d.2.1 (by decide),ph d.2.2 (by decide)⟩;simp[uP,ot,kX,G,e4]
    all_goals simp[ot,uP,kX,G]
  .rintro g W d;simp only[uF];have H:=fN ((At.start C.out).k0 d.1);clear d;cases hq:hH [fU] (l.nm i)with
   |false=>
    have J:kh (l.nm i) fU=false:=by simpa [hH]using hq
    replace q:=fN (show R=(pS (hH [fU])>>=λ_=>(Pure.pure ():M Unit)) l by rw[Z.out,J];rfl);clear hq J;go_wp21;refine(qL E _).mono ?_;rintro e w1 ⟨k1,a1,rfl,u,x⟩;replace H:=fN (H.out.k0 x);have F:=fN u;clear u x;go_wp21;refine zV (λ_=>vi H.out.rel F.out) H q HS lT ?_;clear H q;rintro(_) l w H HF q;go_wp2;go_end0;exact fZ q.out H.out rfl
   |true=>
    have J:kh (l.nm i) fU=true:=by simpa [hH]using hq
    replace q:=fN (show R=(xP>>=λ_=>pS (hH [fU])>>=λ_=>(Pure.pure ():M Unit)) l by rw[Z.out,J];rfl);clear hq J;have a8:=H.out.lt;go_wp21;refine mC (YC E) H q HS rfl lT ?_;clear H q;rintro(_) l w H HF q;go_wp21;refine(qL E _).mono ?_;rintro e w1 ⟨k1,a1,rfl,u,x⟩;replace H:=fN (H.out.k0 x);have F:=fN u;clear u x;go_wp21;refine zV (λ_=>vi H.out.rel F.out) H q HS lT ?_;clear H q;rintro(_) l w H HF q;go_wp2;go_end0;exact fZ q.out H.out rfl
attribute [local go_sem] Oper.semAt_some
theorem TW (E:Env) {σ σ':Ab} (h:RF E f σ W) (s:gn) (c:Bool) (k:Nat) (Y:W.heap[k]?=some (gy #[gw s] (if c then 235 else 239))) (I:∀i,i < σ.nodes.length->f i < k) (z:E.bs<=k) (pl:Nat×Nat) (l:oH pl (if c then .cm s else .dt s) (if c then Nd.cm else Nd.dt) σ= .ok () σ'):
  Calls prog 165 #[pV f pl,((if c then Nd.cm else Nd.dt) k).val] W λe W'=>e=o9/\∃g,QZ σ.nodes.length f g/\σ.nodes.length<=σ'.nodes.length/\RF E g σ' W'/\Fr E.bs W W':=by
 obtain⟨L,rfl,hr⟩:=h;obtain⟨q,p⟩:∃q:A0,q=if c then .cm s else .dt s:=⟨_,rfl⟩
 obtain⟨x,d⟩:∃x:Nat->Nd,x=if c then Nd.cm else Nd.dt:=⟨_,rfl⟩
 rw[<-p,<-d]at l;rw[<-d];have J:∀e,q≠ .el e:=by intro e;rw[p];cases c<;>simp
 have H:∀i j,x i≠ .el j:=by intro i j;rw[d];cases c<;>simp
 have K:Rel E (L.new σ.nodes.length k (jV) (jV)) (σ.add q) W:=by
  refine hr.abL q k (jV) (jV) σ.fresh (Kept.refl _ _) I z ?_ rfl (λe U=>absurd U (J e)) (λ_ _ _ _ _ u=>by cases u) (λ_ _ _ _ _ _ u=>by cases u) (λ_=>rfl) (λV=>⟨V,λ_ _=>by simp[Value.ownBlock]⟩) (λ_ u=>by cases u);rw[p];cases c with
  |true=>show _=_;grind[Loc.new]
  |false=>show _=_;grind[Loc.new]
 unfold oH zl at l;cases hi:(σ.add q).gV pl.1 with
 |none=>rw[hi]at l;cases l
 |some ei=>
  rw[hi]at l;dsimp only at l;split at l
  .rename_i F;cases l;have G:pl.1 < σ.nodes.length:=by
    have u:=Ab.ic hi;have X:(σ.add q).nodes.length=σ.nodes.length+1:=by simp[Ab.add]
    rcases uW pl.1 σ.nodes.length with h|h
    .exact h
    .have e1:pl.1=σ.nodes.length:=by omega
     rw[e1,Ab.tY]at hi;grind
   have C:=Qs K hi F.1 (H _) F.2.1 F.2.2;have e1:place ((L.new σ.nodes.length k (jV) (jV)).gH pl.1) pl.2=pV L.gH pl:=by rw[Loc.zX G]
   have e2:(Nd.map (L.new σ.nodes.length k (jV) (jV)).gH (x σ.nodes.length))=x k:=by
    have y:(L.new σ.nodes.length k (jV) (jV)).gH σ.nodes.length=k:=Loc.sP;rw[d];cases c
    .show Nd.dt _=Nd.dt k;rw[y]
    .show Nd.cm _=Nd.cm k;rw[y]
   rw[e1,e2]at C;refine C.mono ?_;rintro e W' ⟨rfl,N,y,P,O⟩;refine⟨rfl,N.gH,λi hi=>?_,?_,⟨N,rfl,P⟩,O⟩
   .rw[y];exact Loc.zX hi
   .rw[Ab.ny];simp[Ab.add]
  .cases l
structure Cl (E:Env) (pf:Nat) (own:Bool) (pm:M (Nat×Nat)):Prop where
 Xv:∀args w,(callFunc pf args).run prog w= .ok (.enter pf args) w
 same:∀σ pl σ1,pm σ= .ok pl σ1->σ1=σ
 Nc:∀σ c p,pm σ≠ .stop c p
 Z0:∀f σ w,RF E f σ w->pm σ≠ .stuck->Calls prog pf #[iq (if own then E.bB else f 0)] w (jS E f σ.nodes.length w (pm σ) pV)
def nO (h:M (Nat×Nat)) (t:gz):M Unit:=match t.k with
 | .gJ s=>do
  let d <-h
  oH d (.cm s) .cm
  return ()
 |_=>return ()
def Wn (E:Env) (f:Nat->Nat) (σ:Ab) (T:TypeId) (s:gn) (v:gG) (W:gr):Prop:=∃k,v=gF k/\W.heap[k]?=some (gy #[gw s] T)/\(∀i,i < σ.nodes.length->f i < k)/\E.bs<=k
def Wn.fr {σ:Ab} (h:Wn E f σ 235 s v W) (d:Fr E.bs W W'):Wn E f σ 235 s v W':=by
 have⟨k,e,h1,h2⟩:=h;exact⟨k,e,d.zf h1 (by decide),h2⟩
def Wn.frD {σ:Ab} (h:Wn E f σ 239 s v W) (d:Fr E.bs W W'):Wn E f σ 239 s v W':=by
 have⟨k,e,h1,h2⟩:=h;exact⟨k,e,d.zf h1 (by decide),h2⟩
def Wn.new {σ:Ab} (h:RF E f σ W) (s:gn):Wn E f σ T s (gF W.heap.size) (W.alloc (gy #[gw s] T)):=by
 obtain⟨L,rfl,hr⟩:=h;exact⟨_,rfl,fQ W _,λi hi=>hr.GQ hi,hr.bw⟩
theorem Ro (E:Env) (pf:Nat) (own:Bool) (I:M (Nat×Nat)) (P:Cl E pf own I) (t:gz) (Y:Nat) {σ:Ab} (h:RF E f σ w) (hs:nO I t σ≠ .stuck) (J:box w Y (.func (.func pf) #[iq (if own then E.bB else f 0)] #[]) 207):
  Calls prog 164 #[iA E t,iq Y] w (Leaves E f σ.nodes.length w (nO I t σ) uV):=by
 have O:=fN (At.start h);have⟨a,b,k,gx⟩:=t;cases k with
 |gJ s=>
  have hx:∃x l,I σ= .ok x σ/\oH x (.cm s) .cm σ= .ok () l/\nO I ⟨a,b,.gJ s,gx⟩ σ= .ok () l:=by
   have Z:nO I ⟨a,b,.gJ s,gx⟩ σ=(I>>=λx=>oH x (.cm s) .cm>>=λ_=>(Pure.pure ():M Unit)) σ:=rfl;rw[M.gm]at Z;cases hq:I σ with
   |ok x σ1=>
    obtain rfl:=P.same _ _ _ hq;rw[hq]at Z;cases hq2:oH x (.cm s) .cm σ1 with
    |ok u l=>exact⟨x,l,rfl,hq2,by rw[Z];dsimp only;rw[M.gm,hq2];rfl⟩
    |stop c p=>
     exfalso;unfold oH zl at hq2;grind
    |stuck=>exact absurd (by rw[Z];dsimp only;rw[M.gm,hq2]) hs
   |stop c p=>exact absurd hq (P.Nc _ _ _)
   |stuck=>grind
  have⟨x,l,hq1,hq2,hq3⟩:=hx;rw[hq3];have K:=λW (hW:RF E f σ W)=>P.Z0 f σ W hW (by grind);rw[hq1]at K;have eg:=P.Xv;simp only[iA];have d:=qt underlying194;obtain⟨F,C⟩:∃F,F=w.alloc (gy #[ga a,ga b,gw s] 194):=⟨_,rfl⟩;have N:Kept [] w F:=by rw[C];exact(Kept.refl _ _).alloc _
  have V:F.heap[w.heap.size]?=some (gy #[ga a,ga b,gw s] 194):=by rw[C];exact fQ w _
  have G:=N.at J (by simp);have HC:=fN (λW (hF:Fr E.bs F W)=>(⟨by rw[fO (hF.zf G (by decide))];rfl,by rw[fO (hF.zf V (by decide))];rfl⟩:W.cell? ⟨Y,0,none⟩=some (.func (.func pf) #[iq (if own then E.bB else f 0)] #[])/\W.cell? ⟨w.heap.size,2,none⟩=some (gw s)));have HW:=fN C.symm;have HA:=fN (O.out.k0 N);have a1:=fN K;have a0:=fN eg;have a2:=fN hq2;have HN:=fN (λi (hi:i < σ.nodes.length)=>(show f i < F.heap.size by
   have⟨L,e,hr⟩:=(O.out.k0 N).rel;rw[<-e];exact hr.GQ hi))
  have a4:=fN (show E.bs<=F.heap.size by
   have⟨L,e,hr⟩:=(O.out.k0 N).rel;exact hr.bw)
  clear h hs J P hq1 hq2 hq3 K eg V G N C O;go_enter func164,ntmps164;go_wp21;rw[HW.out];refine uU (by rfl) ?_;refine od (λ(g:gG) z=>⟨#[.iface 194 (.agg #[ga a,ga b,gw s]),iq Y,undef,gF w.heap.size,.bool true,.tuple #[.agg #[ga a,ga b,gw s],.bool true],.iface 194 (.agg #[ga a,ga b,gw s]),.tuple #[.agg #[ga a,ga b,gw s],.bool true],.agg #[ga a,ga b,gw s],.bool true,.bool true,cd z 0 (.func (.func pf) #[iq (if own then E.bB else f 0)] #[]),cd z 1 (pV f x),cd z 2 (lK w.heap.size 2),cd z 3 (gw s),cd z 4 (.agg #[gw s]),cd z 5 (g),cd z 6 (.iface 233 g),cd z 7 (.tuple #[])],[]⟩) (λg z W=>if dn z 7=true then (∃f',QZ σ.nodes.length f f'/\σ.nodes.length<=l.nodes.length/\RF E f' l W/\Fr E.bs F W)else (RF E f σ W/\Fr E.bs F W/\(dn z 5=true->Wn E f σ 235 s g W))) 8 [[],[0],[],[2],[3],[4],[5],[0,1,2,3,4,5,6]] (undef) rfl (by rfl) (⟨HA.out.rel.ib (Kept.refl _ _).drew,Fr.gP (Kept.refl _ _).drew,λh=>by cases h⟩) ?_ ?_
  .repeat' first|exact lp|refine ln ?_ ?_
   all_goals
    rintro g z W hI U hn;simp[zE]at U;refine mK rfl ?_;intro K' y;simp only[kX,U];have hb:dn z 7=false:=by simp[U,hn]
    have q:=(gI (by simp[hb])).mp hI;have⟨cc,c2⟩:=HC.out W q.2.1;have eg:=a0.out;go_simp
    first
    |refine y _ _ ⟨g,?_,(gI (by simp[lR,hb])).mpr ⟨q.1,q.2.1,ph q.2.2 (by decide)⟩⟩
    |refine(a1.out W q.1).mono ?_;rintro e W2 ⟨rfl,a3,X,_⟩;refine y _ _ ⟨g,?_,(gI (by simp[lR,hb])).mpr ⟨a3,q.2.1.trans X,ph (λh=>(q.2.2 h).fr X) (by decide)⟩⟩
    |have ka:Kept [] W (W.alloc (gy #[gw s] 235)):=(Kept.refl _ _).alloc _;refine y _ _ ⟨_,?_,(gI (by simp[lR,hb])).mpr ⟨q.1.ib ka,q.2.1.trans (.gP ka),λ_=>Wn.new q.1 s⟩⟩;have h9:dn z 6=false:=(by simp[hn]);simp[ot,uP,kX,abM,U,h9]
    |obtain⟨k,rfl,N,k2,k3⟩:=q.2.2 (by simp[U]);refine(TW E q.1 s true k N k2 k3 x a2.out).mono ?_;rintro e W2 ⟨rfl,f',g1,g2,g3,g4⟩;refine y _ _ ⟨gF k,?_,(gN pi).mpr ⟨f',g1,g2,g3,q.2.1.trans g4⟩⟩
    all_goals simp[ot,uP,kX,U]
  .rintro g W hI;have⟨f2,g1,g2,g3,g4⟩:=(gN uH).mp hI;simp only[uF];have G3:=fN g3;have G4:=fN (HA.out.fr.trans g4);clear hI g3 g4;go_wp2
   all_goals go_end0
   all_goals exact⟨f2,g1,g2,rfl,G3.out,G4.out⟩
 |_=>
  change Calls _ _ _ _ (Leaves E f _ w (.ok () σ) uV);simp only[iA];have d:=sr;have H:=fN (O.out.k0 ((Kept.refl [] w).alloc (gy #[ga 0,ga 0,gw kC] 194)));clear h hs J P O;go_enter func164,ntmps164;go_wp2;go_end0;exact fZ rfl H.out rfl
attribute [local go_sem] Oper.semAt_some
theorem Gm (E:Env) (t:gz):iU E 90 (λ_=>#[Bp E,iA E t]) (oi t) uV:=by
 intro f l w h hs;have P:=fN (At.start h);have⟨a,b,k,gx⟩:=t;cases k with
 |iH n q=>
  have hx:∃F C,jt 0 l= .ok F l/\oH F (.dt n) .dt l= .ok () C/\oi ⟨a,b,.iH n q,gx⟩ l= .ok () {C with jB:=q||!kh n fP,mode:=1}:=by
   have e0:oi ⟨a,b,.iH n q,gx⟩ l=(jt 0>>=λF=>oH F (.dt n) .dt>>=λ_=>(do wm λl=>{l with jB:=q||!kh n fP};jD 1;return ():M Unit)) l:=rfl;rw[M.gm]at e0;cases hq:jt 0 l with
   |ok F σ1=>
    obtain rfl:=pj hq;rw[hq]at e0;cases d:oH F (.dt n) .dt σ1 with
    |ok u C=>exact⟨F,C,rfl,d,by rw[e0];dsimp only;rw[M.gm,d];rfl⟩
    |stop c p=>
     exfalso;unfold oH zl at d;grind
    |stuck=>exact absurd (by rw[e0];dsimp only;rw[M.gm,d]) hs
   |stop c p=>
    exfalso;unfold jt at hq;grind
   |stuck=>grind
  have⟨F,C,hq1,d,hq3⟩:=hx;obtain⟨R,hR⟩:∃R,R=oi ⟨a,b,.iH n q,gx⟩ l:=⟨_,rfl⟩;rw[<-hR];have x:=fN (hR.trans hq3);have N:=λW (hW:RF E f l W)=>Fv E 0 f l W hW (by grind);rw[hq1]at N;simp only[iA];have y:=qt underlying196;obtain⟨J,I⟩:∃J,J=w.alloc (gy #[ga a,ga b,gw n,.bool q] 196):=⟨_,rfl⟩;have k1:Kept [] w J:=by rw[I];exact(Kept.refl _ _).alloc _
  have K:J.heap[w.heap.size]?=some (gy #[ga a,ga b,gw n,.bool q] 196):=by rw[I];exact fQ w _
  have a0:=fN K;have HC:=fN (λW (hF:Fr E.bs J W)=>(by rw[fO (hF.zf K (by decide))];rfl:W.cell? ⟨w.heap.size,2,none⟩=some (gw n)));have U:=fN (λW (hW:RF E f l W)=>(show W.cell? ⟨E.bB,187,none⟩=some (nV f 0) by have h1:=(At.start hW).wZ;exact h1));have a1:=fN (λW (hF:Fr E.bs J W)=>(mf (P.out.k0 k1).lt hF.size:E.bB < W.heap.size));have HW:=fN I.symm;have HA:=fN (P.out.k0 k1);have a2:=fN N;have a3:=fN d;clear h hs hq1 d hq3 N K k1 I P hR;go_enter func90,ntmps90;go_wp21;rw[HW.out];refine uU (by rfl) ?_;refine od (λ(g:gG) z=>⟨#[Bp E,.iface 196 (.agg #[ga a,ga b,gw n,.bool q]),undef,undef,gF w.heap.size,.bool true,.tuple #[.agg #[ga a,ga b,gw n,.bool q],.bool true],.iface 196 (.agg #[ga a,ga b,gw n,.bool q]),.tuple #[.agg #[ga a,ga b,gw n,.bool q],.bool true],.agg #[ga a,ga b,gw n,.bool q],.bool true,.bool true,cd z 0 (Bp E),cd z 1 (gF E.bB),cd z 2 (lK E.bB 187),cd z 3 (nV f 0),cd z 4 (pV f F),cd z 5 (lK w.heap.size 2),cd z 6 (gw n),cd z 7 (.agg #[gw n]),cd z 8 (g),cd z 9 (.iface 237 g),cd z 10 (.tuple #[]),undef,undef,undef,undef,undef,undef,undef,undef,undef,undef,undef,undef,undef],[]⟩) (λg z W=>if dn z 10=true then (∃f',QZ l.nodes.length f f'/\l.nodes.length<=C.nodes.length/\RF E f' C W/\Fr E.bs J W)else (RF E f l W/\Fr E.bs J W/\(dn z 8=true->Wn E f l 239 n g W))) 11 [[],[0],[1],[2],[3],[],[5],[6],[7],[8],[0,1,2,3,4,5,6,7,8,9]] (undef) rfl rfl (⟨HA.out.rel.ib (Kept.refl _ _).drew,Fr.gP (Kept.refl _ _).drew,λh=>by cases h⟩) ?_ ?_
  .repeat' first|exact lp|refine ln ?_ ?_
   all_goals
    rintro g z W hI O hn;simp[zE]at O;refine mK rfl ?_;intro K' G;simp only[kX,O];have hb:dn z 10=false:=by simp[O,hn]
    have q:=(gI (by simp[hb])).mp hI;have a6:=a1.out W q.2.1;have cc:=U.out W q.1;have c2:=HC.out W q.2.1;go_simp
    first
    |refine G _ _ ⟨g,?_,(gI (by simp[lR,hb])).mpr ⟨q.1,q.2.1,ph q.2.2 (by decide)⟩⟩
    |refine(a2.out W q.1).mono ?_;rintro e W2 ⟨rfl,a5,Z,_⟩;refine G _ _ ⟨g,?_,(gI (by simp[lR,hb])).mpr ⟨a5,q.2.1.trans Z,ph (λh=>(q.2.2 h).frD Z) (by decide)⟩⟩
    |have ka:Kept [] W (W.alloc (gy #[gw n] 239)):=(Kept.refl _ _).alloc _;refine G _ _ ⟨_,?_,(gI (by simp[lR,hb])).mpr ⟨q.1.ib ka,q.2.1.trans (.gP ka),λ_=>Wn.new q.1 n⟩⟩;have h9:dn z 9=false:=(by simp[hn]);simp[ot,uP,kX,abM,O,h9]
    |obtain⟨k,rfl,k1,k2,k3⟩:=q.2.2 (by simp[O]);refine(TW E q.1 n false k k1 k2 k3 F a3.out).mono ?_;rintro e W2 ⟨rfl,f',g1,g2,g3,Y⟩;refine G _ _ ⟨gF k,?_,(gN pi).mpr ⟨f',g1,g2,g3,q.2.1.trans Y⟩⟩
    all_goals simp[ot,uP,kX,O]
  .rintro g W hI;have⟨f2,g1,g2,g3,Y⟩:=(gN uH).mp hI;simp only[uF];have H:=fN (HA.out.go g3 g1 g2 Y);have V:=fN (Y.zf a0.out (by decide));clear hI g3 Y HC U;have c0:W.cell? ⟨w.heap.size,2,none⟩=some (gw n):=by rw[fO V.out];rfl
   have c4:W.cell? ⟨w.heap.size,3,none⟩=some (.bool q):=by rw[fO V.out];rfl
   have c1:=H.out.Xd;have f1:=H.out.free 196;have c2:=H.out.ru;have f2:=H.out.free 192;have a4:=H.out.lt;cases q with
   |true=>
    have X:=fN ((H.out.qp true).iW 1);clear H;go_wp2;go_end0;exact fZ x.out X.out rfl
   |false=>
    cases hq:kh n fP with
    |true=>
     have d:(n.toList==[104,116,109,108])=true:=by
      have e4:(fP:gn).toList=[104,116,109,108]:=by first|rfl|decide|simp
      rw[<-e4];exact hq
     have X:=fN ((H.out.qp false).iW 1);rw[hq]at x;clear H hq;go_wp2;go_end0;exact fZ x.out X.out rfl
    |false=>
     have d:(n.toList==[104,116,109,108])=false:=by
      have e4:(fP:gn).toList=[104,116,109,108]:=by first|rfl|decide|simp
      rw[<-e4];exact hq
     have X:=fN ((H.out.qp true).iW 1);rw[hq]at x;clear H hq;go_wp2;go_end0;exact fZ x.out X.out rfl
 |_=>
  change Calls _ _ _ _ (Leaves E f _ w (.ok () {l with mode:=1}) uV);simp only[iA];have y:=vy;have H:=fN (P.out.k0 ((Kept.refl [] w).alloc (gy #[ga 0,ga 0,gw kC,.bool false] 196)));have c2:=H.out.ru;have f2:=H.out.free 192;have a4:=H.out.lt;replace H:=fN (H.out.iW 1);clear h hs P;go_enter func90,ntmps90;go_wp2;go_end0;exact fZ rfl H.out rfl
def VC {σ:Ab} (h:Rel E L σ w) (x:jb) (k:σ.gQ x=true):
  Calls prog 177 #[lK E.bB 188,jY (iw L.gH x)] w λe w'=>e=o9/\WI E L {σ with gq:=σ.gq.erase x} w w':=by
 have⟨C,hL,hC⟩:=h.yD;refine(zS E.bs E.bB 188 _ C _ _ (iw L.gH x) w hL h.elO (h.gQ k)).mono ?_;rintro e w' ⟨rfl,d⟩;exact⟨rfl,h.NQ hL hC (by rw[<-vo h.inj];exact d) λy l=>h.wf.gq y (Ax l)⟩
def Sf {σ:Ab} (h:Rel E L σ w) (x y:jb) (l:σ.gQ x=true) (p:σ.lV y=true):
  Calls prog 266 #[lK E.bB 188,jY (iw L.gH x),jY (iw L.gH y)] w λe w'=>e=o9/\WI E L {σ with gq:=pI σ.gq x y} w w':=by
 have⟨C,hL,hC⟩:=h.yD;refine(Eo E.bs E.bB 188 _ C _ _ (iw L.gH x) (iw L.gH y) w hL h.elO (h.gQ l)).mono ?_;rintro e w' ⟨rfl,k⟩;exact⟨rfl,h.NQ hL hC (by rw[<-I5 h.inj];exact k) λz d=>by rcases I7 d with d|rfl;exact h.wf.gq z d;exact p⟩
def UC {σ:Ab} (h:Rel E L σ w) (x:jb) (k:σ.gQ x=true):
  Calls prog 177 #[lK E.bB 189,jY (iw L.gH x)] w λe w'=>e=o9/\WI E L {σ with act:=σ.act.erase x} w w':=by
 have⟨C,hL,hC⟩:=h.Gg;refine(zS E.bs E.bB 189 _ C _ _ (iw L.gH x) w hL h.elA (h.gQ k)).mono ?_;rintro e w' ⟨rfl,d⟩;exact⟨rfl,h.NP hL hC (by rw[<-vo h.inj];exact d) λy l=>h.wf.act y (Ax l)⟩
def Ra {σ:Ab} (h:Rel E L σ w) (x y:jb) (l:σ.gQ x=true) (p:σ.gQ y=true):
  Calls prog 266 #[lK E.bB 189,jY (iw L.gH x),jY (iw L.gH y)] w λe w'=>e=o9/\WI E L {σ with act:=pI σ.act x y} w w':=by
 have⟨C,hL,hC⟩:=h.Gg;refine(Eo E.bs E.bB 189 _ C _ _ (iw L.gH x) (iw L.gH y) w hL h.elA (h.gQ l)).mono ?_;rintro e w' ⟨rfl,k⟩;exact⟨rfl,h.NP hL hC (by rw[<-I5 h.inj];exact k) λz d=>by rcases I7 d with d|rfl;exact h.wf.act z d;exact p⟩
theorem Rel.ab7 {σ σ':Ab} (h:Rel E L σ w) (i:Nat) (l:gG) (hi:(σ.gV i).isSome=true) (N:KT E.bs [136,138,280] w w') (K:l.ownBlock=(L.kv i).ownBlock\/∀g,l.ownBlock=some g->w.heap.size<=g)
  (d:σ'.nodes.length=σ.nodes.length) (J:∀j P,σ'.gV j=some P->∃e,σ.gV j=some e/\P.name=e.name) (F:∀j,σ'.gV j=none->σ.gV j=none)
  (O:∀j X,σ'.nodes[j]?=some X->kM E.bs {L with kv:=λx=>if x=i then l else L.kv x} w' j X) (wf:Wf σ')
  (s0:σ'.gq=σ.gq:=by rfl) (s9:σ'.act=σ.act:=by rfl) (s1:σ'.head=σ.head:=by rfl) (s2:σ'.form=σ.form:=by rfl) (s3:σ'.mode=σ.mode:=by rfl) (s4:σ'.kept=σ.kept:=by rfl) (s5:σ'.iL=σ.iL:=by rfl) (s6:σ'.jB=σ.jB:=by rfl) (s7:σ'.gH=σ.gH:=by rfl) (s8:σ'.behind=σ.behind:=by rfl) (sw:σ'.waiting=σ.waiting:=by rfl) (so:σ'.nD=σ.nD:=by rfl) (sp:σ'.iX=σ.iX:=by rfl) (sf:σ'.fresh=σ.fresh:=by rfl) (Y:σ'.pL=σ.pL:=by rfl) (Z:σ'.qH=σ.qH:=by rfl) (d3:σ'.oO=σ.oO:=by rfl):WI E L σ' w w':=by
 have H:=Ab.lN (σ:=σ) (i:=i) hi;have U:∀j g,j < σ.nodes.length->j≠i->l.ownBlock=some g->(L.kv j).ownBlock≠some g:=by
  intro j g p u hg z;rcases K with e|e
  .rw[e]at hg;exact h.AL i j g H p (wR u) hg z
  .have⟨c,m,hc⟩:=h.yA p z;grind
 refine⟨{L with kv:=λx=>if x=i then l else L.kv x},rfl,h.Ug (L':={L with kv:=λx=>if x=i then l else L.kv x}) N (λ_ _=>rfl) rfl rfl rfl O h.inj ?_ ?_ ?_ ?_ wf ?_ (nf d) s0 s9 s1 s2 s3 s4 s5 s6 s7 s8 sw so sp Y Z d3,N.fr (by decide),λk v V=>⟨N.at V.1 (by decide),V.2⟩⟩
 .intro a b g G y q hg;rw[d]at G y;by_cases h1:a=i
  .grind
  .simp only[gI h1]at hg;by_cases h2:b=i
   .grind
   .simp only[gI h2];exact h.AL a b g G y q hg
 .intro j p I;rw[d]at p;have C:=F j I;have u:j≠i:=by rintro rfl;rw[C]at hi;cases hi
  simp only[gI u];exact h.FJ j p C
 .intro a b e g G a0 y q hg;rw[d]at y;have⟨e0,h0,hnm'⟩:=J a e G;exact h.uq a b e0 g h0 (by grind) y q hg
 .intro j p I;rw[d]at p;exact h.D0 j p (F j I)
 .rw[d,sf];exact h.Ck
theorem V0 {σ:Ab} (h:Rel E L σ w) (hi:σ.gV i=some ei) (F:σ.gV j=some ej) (z:j≠i) (hn:n<=ei.kids.length) (hl:ei.kids.length < 1048576):
  Calls prog 165 #[place (L.gH i) n,(Nd.el (L.gH j)).val] w λe w'=>e=o9/\WI E L ((σ.gU i {ei with kids:=ins ei.kids n (.el j)}).gU j {ej with ja:=some i}) w w':=by
 have y:=Ab.ic hi;have K:=Ab.ic F;have q:(σ.gV i).isSome=true:=by rw[hi];rfl
 have H:(σ.gV j).isSome=true:=by rw[F];rfl
 have X:=h.vF hi;have lI:=h.zq hi;have aJ:=h.vF F;have lJ:=h.zq F;refine(Sv E.bs _ n _ _ _ _ _ _ _ _ _ _ _ w (h.us hi) (h.us F) (λe=>z (h.inj _ _ e)) (λg hg=>h.AL j i g K y z hg) (by grind) (by grind) h.bw).mono ?_;rintro e w' ⟨rfl,⟨C,V,Y⟩,E2,P⟩;have O:∀s∈L.gH j::L.gH i::(L.kv i).ownBlock.toList,∃x∈[j,i],s=L.gH x\/(L.kv x).ownBlock=some s:=by
  intro s I;rcases List.mem_cons.1 I with rfl|I
  .simp
  rcases List.mem_cons.1 I with rfl|I
  .simp
  .grind
 have U:=h.ktJ [j,i] (by grind) O P;have J:((σ.gU i {ei with kids:=ins ei.kids n (.el j)}).gV j).isSome=true:=by rw[Ab.iM z];exact H
 have G:∀x e,x < σ.nodes.length->yi w (L.av x) e->yi w' (L.av x) e:=λx e _ ha=>U.row ha (by decide);refine⟨rfl,h.ab7 i C q U Y (by simp[Ab.gU]) ?_ ?_ ?_ ?_⟩
 .intro x e' d;by_cases p:x=j
  .subst p;rw[Ab.iR (by grind[Ab.gU])]at d;grind
  .rw[Ab.iM p]at d;by_cases l:x=i
   .subst l;rw[Ab.iR y]at d;grind
   .rw[Ab.iM l]at d;grind
 .intro x d;by_cases p:x=j
  .subst p;rw[Ab.iR (by grind[Ab.gU])]at d;cases d
  .rw[Ab.iM p]at d;by_cases l:x=i
   .subst l;rw[Ab.iR y]at d;cases d
   .rwa [Ab.iM l]at d
 .intro x nd d;rcases Ab.nS d with⟨rfl,rfl⟩|⟨p,d⟩
  .grind[kM]
  .rcases Ab.nS d with⟨rfl,rfl⟩|⟨l,d⟩
   .show El E.bs w' _ _ _ _ (if x=x then C else L.kv x) _/\_;rw[gN rfl];refine⟨?_,G x _ y X,lI⟩;show El E.bs w' (L.gH x) ei.name (L.av x) (iw L.gH ei.ja) C ((ins ei.kids n (.el j)).map (Nd.map L.gH));rw[Df];exact V
   .have Z:=h.iy [j,i] (by grind) O P d (by grind);have N:x < σ.nodes.length:=(List.getElem?_eq_some_iff.1 d).1;exact Z.ext (σ:=σ) (Fb.refl _ _) N rfl (gI l) (h.wfn d)
 .refine(h.wf.gU (e:={ei with kids:=ins ei.kids n (.el j)}) q (h.wf.ja i ei hi) ?_).gU J ?_ ?_
  .intro k u;rcases Dg u with u|rfl
   .exact h.wf.kids i ei hi k u
   .exact H
  .rw[Ab.qh q];exact q
  .intro k u;rw[Ab.kP q];exact h.wf.kids j ej F k u
theorem SM {σ:Ab} (h:Rel E L σ w) {p : Nat} {l : zz} (I:σ.gV j=some ej) (J:ej.ja=some p) (C:σ.gV p=some l) (y:j≠p) (hn:n < l.kids.length) (a0:pZ l.kids (Nd.gQ j)=(n:Int)):
  Calls prog 364 #[gF (L.gH j)] w λe w'=>e=o9/\WI E L ((σ.gU p {l with kids:=l.kids.eraseIdx n}).gU j {ej with ja:=none}) w w':=by
 have G:=Ab.ic C;have U:=Ab.ic I;have H:(σ.gV p).isSome=true:=by rw[C];rfl
 have P:(σ.gV j).isSome=true:=by rw[I];rfl
 have Y:=h.us I;rw[J]at Y;have aP:=h.vF C;have lP:=h.zq C;have aJ:=h.vF I;have lJ:=h.zq I;refine(F4 E.bs _ _ n _ _ _ _ _ _ _ _ _ w Y (h.us C) ?_ (λe=>y (h.inj _ _ e)) (λg hg=>h.AL j p g U G y hg) (by grind) (by rw[IX h.inj];omega)).mono ?_
 .intro x d;obtain⟨k,K,rfl⟩:=List.mem_map.1 d;exact h.Vl (h.wf.kids p l C k K)
 rintro e w' ⟨rfl,⟨z,E1,f1⟩,E2,K⟩;have Z:∀s∈L.gH j::L.gH p::(L.kv p).ownBlock.toList,∃x∈[j,p],s=L.gH x\/(L.kv x).ownBlock=some s:=by
  intro s N;rcases List.mem_cons.1 N with rfl|N
  .simp
  rcases List.mem_cons.1 N with rfl|N
  .simp
  .grind
 have X:=h.ktJ [j,p] (by grind) Z K;have O:((σ.gU p {l with kids:=l.kids.eraseIdx n}).gV j).isSome=true:=by rw[Ab.iM y];exact P
 refine⟨rfl,h.ab7 p z H X (.inl f1) (by simp[Ab.gU]) ?_ ?_ ?_ ?_⟩
 .intro x e' d;by_cases u:x=j
  .subst u;rw[Ab.iR (by grind[Ab.gU])]at d;grind
  .rw[Ab.iM u]at d;by_cases q:x=p
   .subst q;rw[Ab.iR G]at d;grind
   .rw[Ab.iM q]at d;grind
 .intro x d;by_cases u:x=j
  .subst u;rw[Ab.iR (by grind[Ab.gU])]at d;cases d
  .rw[Ab.iM u]at d;by_cases q:x=p
   .subst q;rw[Ab.iR G]at d;cases d
   .rwa [Ab.iM q]at d
 .intro x nd d;rcases Ab.nS d with⟨rfl,rfl⟩|⟨u,d⟩
  .show El E.bs w' _ _ _ _ (if x=p then z else L.kv x) _/\_;rw[gI y];exact⟨E2,X.row aJ (by decide),lJ⟩
  .rcases Ab.nS d with⟨rfl,rfl⟩|⟨q,d⟩
   .show El E.bs w' _ _ _ _ (if x=x then z else L.kv x) _/\_;rw[gN rfl];refine⟨?_,X.row aP (by decide),lP⟩;show El E.bs w' (L.gH x) l.name (L.av x) (iw L.gH l.ja) z ((l.kids.eraseIdx n).map (Nd.map L.gH));rw[map_eraseIdx];exact E1
   .have hN:=h.iy [j,p] (by grind) Z K d (by grind);have V:x < σ.nodes.length:=(List.getElem?_eq_some_iff.1 d).1;exact hN.ext (σ:=σ) (Fb.refl _ _) V rfl (gI q) (h.wfn d)
 .refine(h.wf.gU (e:={l with kids:=l.kids.eraseIdx n}) H (h.wf.ja p l C) ?_).gU O rfl ?_
  .intro k F;exact h.wf.kids p l C k (List.mem_of_mem_eraseIdx F)
  .intro k F;rw[Ab.kP H];exact h.wf.kids j ej I k F
theorem SK {σ:Ab} (h:Rel E L σ w) (hi:σ.gV i=some e) (hg:nh e.name=false):
  Calls prog 265 #[gF (L.gH i)] w λq w'=>∃l,Fb σ.nodes.length L l/\q=ir (gF (l.gH σ.nodes.length))/\Rel E l (σ.add (.el {name:=e.name,gM:=e.gM,ja:=none,kids:=[]})) w'/\Fr E.bs w w'/\∀k v,Sd L w k v->Sd l w' k v:=by
 have H:=h.vF hi;have O:=h.zq hi;refine(GP E.bs _ _ _ _ _ _ w (h.us hi)).mono ?_;rintro q w' ⟨rfl,K,p⟩;have d:=Ab.ic hi;refine⟨L.new σ.nodes.length w.heap.size (L.av i) (jV),λj y=>Loc.zX y,by simp[Loc.new],?_,.gP p,λk v G=>⟨p.at G.1 (by simp),G.2⟩⟩;refine h.add (.el {name:=e.name,gM:=e.gM,ja:=none,kids:=[]}) w.heap.size (L.av i) (jV) σ.fresh p (gW _) ?_ rfl (λq N=>by grind) ?_ ?_ (λC=>absurd rfl (C _)) ?_ (λg hg=>h.ab i g d hg)
 .show El E.bs w' _ _ _ _ _ _/\yi w' _ _/\_;rw[Loc.sP,Loc.AM,Loc.GC];exact⟨K,p.ownsRow H (by simp),O⟩
 .intro j e2 g y x I J;by_cases z:j=i
  .grind
  .exact h.uq j i e2 g y x d z J I
 .grind
 .intro F;exact⟨F,λg u=>h.Ck F i g d u⟩
def Rel.aeY {σ:Ab} (h:Rel E L σ w) {k : Nat} (l:Sd L w k v) (H:E.bs<=k) (I:E.w0.heap.size<=k) (u:gG):Rel E L σ (w.setCell ⟨k,0,none⟩ u)/\Sd L (w.setCell ⟨k,0,none⟩ u) k u/\(∀j x,j≠k->Sd L w j x->Sd L (w.setCell ⟨k,0,none⟩ u) j x)/\Fr E.bs w (w.setCell ⟨k,0,none⟩ u):=by
 have p:Kept [k] w (w.setCell ⟨k,0,none⟩ u):=(Kept.refl _ w).setCell (.inl (by simp)) _;have d:KT E.bs [65] w (w.setCell ⟨k,0,none⟩ u):= .jC p (λj y _=>by
  rw[List.mem_singleton.1 y];exact⟨⟨_,_,_,l.1,by simp⟩,H⟩)
 obtain⟨C,G,q⟩:=h.ik;refine⟨?_,⟨fV l.1 0 u,l.2⟩,λj x y F=>⟨p.at F.1 (by simpa using y),F.2⟩,d.fr (by decide)⟩;exact {h with
  fr:=h.fr.trans (d.fr (by decide))
  su:=λi J hi=>((h.su i J hi).kt d (by decide)).loc rfl rfl rfl
  ik:=⟨C,d.at G (by decide),q⟩
  oP:=p.ownsRow h.oP (λg hg z=>l.2.1 (by rw[<-List.mem_singleton.1 z];exact hg))
  pR:=p.ownsRow h.pR (λg hg z=>l.2.2 (by rw[<-List.mem_singleton.1 z];exact hg))
  oL:=d.row h.oL (by decide)
  rd:=d.at h.rd (by decide)
  tok:=d.row h.tok (by decide)}
def SF (E:Env) (f:Nat->Nat) (σ:Ab) (w:gr) (S:List (Nat×gG)):Prop:=∃L,L.gH=f/\Rel E L σ w/\∀p∈S,Sd L w p.1 p.2
def SF.rf {σ:Ab} (h:SF E f σ w S):RF E f σ w:=by have⟨L,e,hr,_⟩:=h;exact⟨L,e,hr⟩
def SF.at {σ:Ab} (h:SF E f σ w S) {k : Nat} (d:(k,v)∈S):w.heap[k]?=some (gy #[v] 65):=by
 have⟨L,e,hr,hs⟩:=h;exact(hs _ d).1
def SF.ib {σ:Ab} (h:SF E f σ w S) (d:Kept [] w w'):SF E f σ w' S:=by
 have⟨L,e,hr,hs⟩:=h;exact⟨L,e,hr.ib d,λp k=>⟨d.at (hs p k).1 (by simp),(hs p k).2⟩⟩
def S4 {α:Type} (E:Env) (f:Nat->Nat) (n:Nat) (S:List (Nat×gG)) (w:gr) (r:pC α) (d:(Nat->Nat)->α->gG) (e:Ending) (w':gr):Prop:=match r with
 | .ok a σ'=>∃g,QZ n f g/\n<=σ'.nodes.length/\e=ir (d g a)/\SF E g σ' w' S/\Fr E.bs w w'
 |_=>False
def abB {α:Type} (E:Env) (k:Nat) (args:(Nat->Nat)->jE) (m:M α) (h:(Nat->Nat)->α->gG):Prop:=
 ∀f d w S,SF E f d w S->m d≠ .stuck->Calls prog k (args f) w (S4 E f d.nodes.length S w (m d) h)
theorem aeo {α l:Type} {k : Nat} {args : (Nat->Nat)->jE} {m:M α} {h:(Nat->Nat)->α->gG} (D:abB E k args m h) {σ:Ab} (H:SF E f σ w S) {R:pC l} {K:α->M l} (p:R=(m>>=K) σ) (x:R≠ .stuck) (hA:A=args f)
  (u:∀a g d w',QZ σ.nodes.length f g->σ.nodes.length<=d.nodes.length->SF E g d w' S->Fr E.bs w w'->R=K a d->m σ= .ok a d->Q (ir (h g a)) w'):Calls prog k A w Q:=by
 subst hA;rw[M.gm]at p;have q:m σ≠ .stuck:=λe=>x (by grind);refine(D f σ w S H q).mono ?_;grind[S4]
def L7 {α:Type} (E:Env) (f:Nat->Nat) (n:Nat) (S:List (Nat×gG)) (w:gr) (r:pC α) (d:(Nat->Nat)->α->gG) (e:Ending) (w':gr):Prop:=match r with
 | .ok a σ'=>n<=σ'.nodes.length/\e=ir (d f a)/\SF E f σ' w' S/\Fr E.bs w w'
 |_=>False
def zB {α:Type} (E:Env) (k:Nat) (args:(Nat->Nat)->jE) (m:M α) (h:(Nat->Nat)->α->gG):Prop:=
 ∀f d w S,SF E f d w S->m d≠ .stuck->Calls prog k (args f) w (L7 E f d.nodes.length S w (m d) h)
theorem BE {α l:Type} {k : Nat} {args : (Nat->Nat)->jE} {m:M α} {h:(Nat->Nat)->α->gG} (D:zB E k args m h) {σ:Ab} (H:SF E f σ w S) {R:pC l} {K:α->M l} (p:R=(m>>=K) σ) (x:R≠ .stuck) (hA:A=args f)
  (u:∀a d w',σ.nodes.length<=d.nodes.length->SF E f d w' S->Fr E.bs w w'->R=K a d->m σ= .ok a d->Q (ir (h f a)) w'):Calls prog k A w Q:=by
 subst hA;rw[M.gm]at p;have q:m σ≠ .stuck:=λe=>x (by grind);refine(D f σ w S H q).mono ?_;grind[L7]
def WI.ls {σ':Ab} (h:WI E L σ' w w') (q:∀p∈S,Sd L w p.1 p.2) (k:n<=σ'.nodes.length) {e : Ending} (d:e=o9):L7 E L.gH n S w (.ok () σ') uV e w':=by
 have⟨L',h1,h2,h3,h4⟩:=h;exact⟨k,d,⟨L',h1,h2,λp l=>h4 _ _ (q p l)⟩,h3⟩
def Ys (E:Env) (x:jb):zB E 177 (λf=>#[lK E.bB 188,oV f x]) (j8 x) uV:=by
 rintro f p w S ⟨L,rfl,hr,l⟩ d;unfold j8 at d|-;by_cases k:p.gQ x=true
 .rw[gN k];exact(VC hr x k).mono (λe w' h=>h.2.ls l (rS _ _ rfl) h.1)
 .rw[gI k]at d;exact absurd rfl d
def WJ (E:Env) (x:jb):zB E 177 (λf=>#[lK E.bB 189,oV f x]) (kD x) uV:=by
 rintro f p w S ⟨L,rfl,hr,l⟩ d;unfold kD at d|-;by_cases k:p.gQ x=true
 .rw[gN k];exact(UC hr x k).mono (λe w' h=>h.2.ls l (rS _ _ rfl) h.1)
 .rw[gI k]at d;exact absurd rfl d
def aaC (E:Env) (x y:jb):zB E 266 (λf=>#[lK E.bB 188,oV f x,oV f y]) (zk x y) uV:=by
 rintro f l w S ⟨L,rfl,hr,p⟩ k;unfold zk at k|-;by_cases d:(l.gQ x&&l.lV y)=true
 .rw[gN d];simp at d;exact(Sf hr x y d.1 d.2).mono (λe w' h=>h.2.ls p (rS _ _ rfl) h.1)
 .rw[gI d]at k;exact absurd rfl k
def ZF (E:Env) (x y:jb):zB E 266 (λf=>#[lK E.bB 189,oV f x,oV f y]) (qW x y) uV:=by
 rintro f l w S ⟨L,rfl,hr,p⟩ k;unfold qW at k|-;by_cases d:(l.gQ x&&l.gQ y)=true
 .rw[gN d];simp at d;exact(Ra hr x y d.1 d.2).mono (λe w' h=>h.2.ls p (rS _ _ rfl) h.1)
 .rw[gI d]at k;exact absurd rfl k
def Wb (E:Env) (j:Nat):zB E 364 (λf=>#[nV f j]) (mw j) uV:=by
 rintro f q w S ⟨L,rfl,hr,l⟩ d;unfold mw at d|-;cases hj:q.gV j with
 |none=>rw[hj]at d;exact absurd rfl d
 |some ej=>
  simp only[hj]at d|-;cases hp:ej.ja with
  |none=>
   simp only[hp]at d|-;refine(DK hr hj hp).mono ?_;rintro e w' ⟨rfl,rfl⟩;exact⟨gW _,rfl,⟨L,rfl,hr,l⟩,Fr.refl _⟩
  |some p=>
   simp only[hp]at d|-;cases hep:q.gV p with
   |none=>rw[hep]at d;exact absurd rfl d
   |some ep=>
    simp only[hep]at d|-;by_cases k:j≠p/\0<=pZ ep.kids (Nd.gQ j)/\(pZ ep.kids (Nd.gQ j)).toNat < ep.kids.length
    .rw[gN k];exact(SM hr hj hp hep k.1 k.2.2 (by omega)).mono (λe w' h=>h.2.ls l (by simp[Ab.gU]) h.1)
    .rw[gI k]at d;exact absurd rfl d
theorem UK (E:Env) (i:Nat):abB E 265 (λf=>#[nV f i]) (kI i) nV:=by
 rintro f z w S ⟨L,rfl,hr,x⟩ d;unfold kI at d|-;cases hi:z.gV i with
 |none=>rw[hi]at d;exact absurd rfl d
 |some e=>
  simp only[hi]at d|-;by_cases hg:nh e.name=true
  .rw[gN hg]at d;exact absurd rfl d
  .rw[gI hg];refine(SK hr hi (by grind)).mono ?_;rintro C w' ⟨h,k,rfl,l,q,u⟩;exact⟨h.gH,k,by simp[Ab.add],rfl,⟨h,rfl,l,λp y=>u _ _ (x p y)⟩,q⟩
def Z2 (E:Env) (i:Nat):zB E 89 (λf=>#[nV f i]) (jt i) pV:=by
 rintro f l w S ⟨L,rfl,hr,k⟩ d;unfold jt at d|-;cases he:l.gV i with
 |none=>rw[he]at d;exact absurd rfl d
 |some e=>
  refine(Qq hr he).mono ?_;rintro p w' ⟨rfl,q,h⟩;exact⟨gW _,rfl,SF.ib ⟨L,rfl,hr,k⟩ h,.gP h⟩
def aaS (E:Env) (pl:Nat×Nat) (j:Nat):zB E 165 (λf=>#[pV f pl,.iface 65 (nV f j)]) (mP pl j) uV:=by
 rintro f l w S ⟨L,rfl,hr,p⟩ d;unfold mP at d|-;cases h1:l.gV pl.1 with
 |none=>rw[h1]at d;exact absurd rfl d
 |some ei=>
  cases h2:l.gV j with
  |none=>rw[h1,h2]at d;exact absurd rfl d
  |some ej=>
   simp only[h1,h2]at d|-;by_cases k:j≠pl.1/\pl.2<=ei.kids.length/\ei.kids.length < 1048576
   .rw[gN k];exact(V0 hr h1 h2 k.1 k.2.1 k.2.2).mono (λe w' h=>h.2.ls p (by simp[Ab.gU]) h.1)
   .rw[gI k]at d;exact absurd rfl d
def Zv {α:Type} (m:M α):Prop:=∀h a d,m h= .ok a d->∀i,h.gQ (some i)=true->d.gQ (some i)=true
theorem Rv (x:jb):Zv (j8 x):=by
 intro k a d h i hi;unfold j8 at h;split at h
 .cases h;exact hi
 grind
theorem Ho (x:jb):Zv (kD x):=by
 intro k a d h i hi;unfold kD at h;split at h
 .cases h;exact hi
 grind
theorem K7 (x y:jb):Zv (zk x y):=by
 intro k a d h i hi;unfold zk at h;split at h
 .cases h;exact hi
 grind
theorem K4 (x y:jb):Zv (qW x y):=by
 intro k a d h i hi;unfold qW at h;split at h
 .cases h;exact hi
 grind
theorem K5 (j:Nat):Zv (jt j):=by
 grind[Zv,jt]
theorem OD (j:Nat):Zv (kI j):=by
 intro k a d h i hi;unfold kI at h;split at h
 .split at h
  .cases h
  .cases h;exact Ab.zP hi
 grind
theorem Gy {σ:Ab} (d:σ.gV j=some ej) (hi:σ.gQ (some i)=true):(σ.gU j e).gQ (some i)=true:=by
 rw[Ab.qh (by grind)];exact hi
theorem K8 (pl:Nat×Nat) (j:Nat):Zv (mP pl j):=by
 intro q a p h i hi;unfold mP at h;split at h
 .rename_i ei ej d k;split at h
  .rename_i l;cases h;exact Gy (ej:=ej) (by rw[Ab.iM l.1];exact k) (Gy d hi)
  grind
 grind
theorem Fu (j:Nat):Zv (mw j):=by
 intro x a q h i hi;unfold mw at h;split at h
 .cases h
 .rename_i ej d;split at h
  .grind
  .split at h
   .cases h
   .rename_i p u k;split at h
    .rename_i l;cases h;exact Gy (ej:=ej) (by rw[Ab.iM l.1];exact d) (Gy k hi)
    grind
theorem SF.set {E:Env} {f:Nat->Nat} {σ:Ab} {w:gr} {S:List (Nat×gG)} (h:SF E f σ w S) {k:Nat} {v:gG} (q:(k,v)∈S) (l:E.bs<=k) (d:E.w0.heap.size<=k) (u:gG) (S':List (Nat×gG)) (x:∀p∈S',p=(k,u)\/(p.1≠k/\p∈S)):SF E f σ (w.setCell ⟨k,0,none⟩ u) S'/\Fr E.bs w (w.setCell ⟨k,0,none⟩ u):=by
 have⟨L,e,hr,hs⟩:=h;have⟨h1,h2,h3,h4⟩:=hr.aeY (hs _ q) l d u;grind[SF]
section
variable {W W':gr} {row:jb} (hg:W.grownBy W' row) {B:Nat} (hr:∀r,row=some r->B<=r/\∃o:Obj,W.heap[r]?=some o/\o.isCells=false)
include hg hr
def qf {k:Nat} {c:jE} {t:TypeId} {m:Nat×Nat} (h:W.heap[k]?=some (.cells c t m)):W'.heap[k]?=some (.cells c t m):=by
 refine(hg.block k (Array.getElem?_eq_some_iff.1 h).1 (λe=>?_)).trans h;have⟨_,o,ho,hc⟩:=hr k e.symm;rw[h]at ho;cases ho;cases hc
def vp {base:Nat} {e:TypeId} {d:Nat} {v:gG} {k:Nat} {xs:List gG} (h:W.ownsRow base e d v k xs):W'.ownsRow base e d v k xs:=by
 refine h.kept hg ?_;rcases h.2 with⟨rfl,_⟩|⟨g,p,q,rfl,_,l,_⟩
 .exact .inl rfl
 .refine .inr λu=>?_;have⟨_,o,ho,hc⟩:=hr g (by simpa [Value.ownBlock]using u.symm);rw[l]at ho;cases ho;cases hc
def Fr.grown {bs:Nat} {w:gr} (h:Fr bs w W) (d:w.heap.size<=B):Fr bs w W':=by
 have⟨S,hk,hS⟩:=h;exact⟨S,hk.grown hg (λk e=> .inr (jH d (hr k e).1)),hS⟩
def Rel.grown {E:Env} {L:Loc} {σ:Ab} (h:Rel E L σ W) (l:E.w0.heap.size<=B):Rel E L σ W':=by
 have⟨C,hb,hC⟩:=h.ik;exact
  {fr:=Fr.grown hg hr h.fr l
   env:=h.env
   Dt:=h.Dt
   su:=λi k hi=>by
    have d:=h.su i k hi;cases k with
    |el e=>exact⟨⟨qf hg hr d.1.ik,vp hg hr d.1.row,d.1.le,d.1.Tg⟩,vp hg hr d.2.1,d.2.2⟩
    |tx s=>exact qf hg hr d
    |cm s=>exact qf hg hr d
    |dt s=>exact qf hg hr d
   inj:=h.inj,AL:=h.AL,FJ:=h.FJ,uq:=h.uq,D0:=h.D0,wf:=h.wf
   ik:=⟨C,qf hg hr hb,hC⟩
   oP:=vp hg hr h.oP
   pR:=vp hg hr h.pR
   FP:=h.FP,wC:=h.wC,D7:=h.D7
   oL:=vp hg hr h.oL
   KJ:=h.KJ
   rd:=qf hg hr h.rd
   P9:=h.P9
   tok:=vp hg hr h.tok
   KG:=h.KG,bz:=h.bz,bB:=h.bB,bR:=h.bR,bN:=h.bN,Ck:=h.Ck,ab:=h.ab,tb:=h.tb,KI:=h.KI}
def SF.grown {E:Env} {f:Nat->Nat} {σ:Ab} {S:List (Nat×gG)} (h:SF E f σ W S) (k:E.w0.heap.size<=B):SF E f σ W' S:=by
 have⟨L,e,h1,h2⟩:=h;exact⟨L,e,h1.grown hg hr k,λp d=>⟨qf hg hr (h2 p d).1,(h2 p d).2⟩⟩
end
def Fr.oD (h:Fr bs w W) (B:Nat):KeepsFrom B w W:=⟨h.size,λ_ _ _ d k=>h.other d k⟩
theorem Fr.at (h:Fr bs w W) {k : Nat} {t : TypeId} (l:w.heap[k]?=some (.cells c t m)) (q:t∉Uv):W.heap[k]?=some (.cells c t m):=by
 have⟨S,hkk,hS⟩:=h;have d:k < w.heap.size:=(Array.getElem?_eq_some_iff.1 l).1;refine(hkk.block k d λp=>?_).trans l;grind
attribute [local go_sem] Oper.semAt_some
theorem adv {x:Type} (m:Nat) (a1:1<=m) (b j n V U l:Nat) (a0:n<=4096) (Y:x->jb) (d:x->Nat) (J P:x->gr->Prop)
  (X:∀s W,J s W->W.cell? ⟨V,0,none⟩=some (ga n)) (hL:∀s W,J s W->W.cell? ⟨U,0,none⟩=some (lK b j))
  (G:∀s W q,J s W->d s < n->q=n - 1 - d s->Calls prog 238 #[lK b j,ga q] W λe w'=>e=ir (jY (Y s))/\w'=W)
  (hY:∀s W,J s W->d s < n->YieldAt Fence.wide (m - 1) prog l #[jY (Y s)] W λe W'=>
   (e=ir (.bool true)/\∃h,d h=d s+1/\J h W')\/(e=ir (.bool false)/\∃h,P h W'))
  (W:gr) (O:x) (a3:d O=0) (h0:J O W):
  CallsIn Fence.wide m prog 347 #[.func (.yield l) #[] #[],gF V,gF U] W λe W'=>(∃r,e=ir r)/\
   ((∃s,d s=n/\J s W')\/(∃s,P s W')):=by
 refine callsIn_of_wp func347 rfl trivial ?_ rfl;simp only[ntmps347,wS,sW,wx,Nat.reduceAdd,Nat.reduceSub,wT,wU,wV,wW,sC,uT];have cN:=X O W h0;have HY:=hY;have HN:=X;have HL:=hL;have z:=G;gi_wp2
 gi_loopw [4] (λi wr=>∃s:x,d s<=n/\i=ga ((n:Int) - 1 - d s)/\J s wr)
  (λi _=>((intOf i)+1).toNat)
 case atStart=>grind
 case round=>
  obtain⟨s,hk,rfl,y⟩:=hrel;have cL:=HL s wr y;by_cases p:d s < n
  .obtain⟨q,K⟩:∃q:Nat,q=n - 1 - d s:=⟨_,rfl⟩;have N:(n:Int) - 1 - d s=(q:Int):=by omega
   rw[N];have Z:=z s wr q y p K;have⟨fn,tmps,assign,body,hy,HR⟩:=HY s wr y p;have HQ:=fN K;have a2:q < 4096:=by omega
   clear K
   gi_wp2_with (refine⟨trivial,?_⟩;gi_at_call 238;refine(callsIn_wide.2 Z).mono ?_;rintro e w' ⟨rfl,rfl⟩)
   refine HR.mono ?_;rintro e W3 (⟨rfl,h,I,H⟩|⟨rfl,h,k⟩)
   .have C:=I;gi_wp2;go_roundw
    case rel=>exact⟨h,by omega,by have:=HQ;have:=C;congr 1;omega,H⟩
    case measure=>simp[intOf]
   .gi_wp2;refine o0 (F8 rfl _ _ _) rfl ?_;exact⟨⟨_,rfl⟩,.inr ⟨h,k⟩⟩
  .have F:d s=n:=by omega
   have u:(n:Int) - 1 - d s= -1:=by omega
   rw[u];gi_wp2;go_end0;exact⟨⟨_,rfl⟩,.inl ⟨s,F,y⟩⟩
def abu {k:Type} (B:Nat) (I:k->gr->Prop) (l:Code->k->gr->Prop) (h:k->Nat) (s:k) (W:gr):Exit->Act->gr->Prop
 | .normal,_,W'=>KeepsFrom B W W'/\∃d,h d=h s+1/\I d W'
 | .ret,_,W'=>KeepsFrom B W W'/\∃d,l .ret d W'
 | .exit id,_,W'=>KeepsFrom B W W'/\∃d,l (.exit id) d W'
 | .goto t,_,W'=>KeepsFrom B W W'/\∃d,l (.goto t) d W'
 | .panic _,_,_=>False
 | .outgrown,_,_=>False
theorem Za {V:Type} {m : Nat} {g:Operand} {p:Tmp} {assign body : Code} {Q:Exit->Act->gr->Prop} {a : Act} (h1:2<=m) (a9:n<=4096) (hg:a.eval g=uz bs)
  (nx:V->jb) (C:V->Nat) (I:V->gr->Prop) (Ix:Code->V->gr->Prop) (hI:OwnFrom w.heap.size I) (O:∀c,OwnFrom w.heap.size (Ix c))
  (hN:∀s W,I s W->W.cell? ⟨bs+1,0,none⟩=some (ga n)) (hL:∀s W,I s W->W.cell? ⟨bs,0,none⟩=some (lK b j))
  (a1:∀s W q,I s W->C s < n->q=n - 1 - C s->Calls prog 238 #[lK b j,ga q] W λe w'=>e=ir (jY (nx s))/\w'=W)
  (s0:V) (ab:C s0=0) (h0:I s0 w) (U:jb->Act)
  (H:∀(l:Nat) (x:jb) (W:gr) (K:Act->gr->Prop),K (U x) W->assign.wpIn (Fence.wide.inRound l) (m - 1 - 1) prog (Exit.then K (λ_ _ _=>False)) {tmps:=a.tmps.setIfInBounds p (jY x),defers:=[]} W)
  (X:∀(l:Nat) (s:V) (W:gr),I s W->C s < n->body.wpIn (Fence.wide.inRound l) (m - 1 - 1) prog (abu w.heap.size I Ix C s W) (U (nx s)) W)
  (Y:∀(D:Nat) (s:V) (W:gr),w.heap.size<=D->C s=n->I s W->W.heap[D]?=some (.deferred (some []))->Q .normal {a with defers:={target:= .collected D,args:=#[]}::a.defers} W)
  (Z:∀(D:Nat) (c:Code) (s:V) (W:gr),w.heap.size<=D->Ix c s W->W.heap[D]?=some (.deferred (some []))->c.wpIn Fence.wide m prog Q {a with defers:={target:= .collected D,args:=#[]}::a.defers} W):
  (Code.rangeFunc g #[p] assign body).wpIn Fence.wide m prog Q a w:=by
 refine wpIn_rangeFunc ?_;intro fn a6;obtain⟨rec,k⟩:∃rec:LoopState->Option Code->Loop,rec=λst pe=>{state:=st,pending:=pe,fn,tmps:=a.tmps,params:=#[p],assign,body,defers:=w.heap.size}:=⟨_,rfl⟩;obtain⟨J,G⟩:∃J,(w.alloc (.deferred (some []))).alloc (.loop (rec .ready none))=J:=⟨_,rfl⟩;have ad:J.heap.size=w.heap.size+2:=by rw[<-G];simp
 have a5:J.heap[w.heap.size+1]?=some (.loop (rec .ready none)):=by
  rw[<-G];have:=EU (w.alloc (.deferred (some []))) (.loop (rec .ready none));rwa [yc]at this
 have a4:J.heap[w.heap.size]?=some (.deferred (some [])):=by
  rw[<-G];exact(Below.heap_alloc _ _ _ (by simp)).trans (EU w _)
 have a2:I s0 J:=by rw[<-G];exact hI.alloc _ (hI.alloc _ h0)
 refine⟨w.heap.size+1,[{target:= .collected w.heap.size,args:=#[]}],J,{target:= .fn (.func 347) #[gF (bs+1),gF bs],args:=#[.func (.yield (w.heap.size+1)) #[] #[]]},J,347,
  #[.func (.yield (w.heap.size+1)) #[] #[],gF (bs+1),gF bs],J,?_,?_,?_,?_,λ_=>by omega,?_⟩
 .rw[<-G,k];exact run_enterLoop_outer _ _ _ _ _
 .simp only[resolve,hg];simp[go_sem]
 .intro f' ac;trivial
 .exact enters_of func347 (by rfl) rfl _ _
 refine(adv (m - 1) (by omega) b j n (bs+1) bs (w.heap.size+1) a9 nx C
  (λs W=>I s W/\W.heap[w.heap.size+1]?=some (.loop (rec .ready none))/\W.heap[w.heap.size]?=some (.deferred (some [])))
  (λs W=>∃c,Ix c s W/\W.heap[w.heap.size+1]?=some (.loop (rec .done (some c)))/\W.heap[w.heap.size]?=some (.deferred (some [])))
  (λs W h=>hN s W h.1) (λs W h=>hL s W h.1) (λs W q h=>a1 s W q h.1) ?_ J s0 ab ⟨a2,a5,a4⟩).mono ?_
 .rintro s W ⟨hi,hl,hk⟩ a0;have aa:w.heap.size+1 < W.heap.size:=(Array.getElem?_eq_some_iff.1 hl).1;have hy:=run_yield (P:=prog) (args:=#[jY (nx s)]) hl (by rw[k];rfl);rw[k]at hy;have hz:(#[p].zip #[jY (nx s)]).foldl (λt (p,v)=>t.setIfInBounds p v) a.tmps=a.tmps.setIfInBounds p (jY (nx s)):=by simp
  refine⟨fn,_,assign,body,hy,roundIn_of_wpIn a6 ((pJ (λz=>assign.wpIn (Fence.wide.inRound (w.heap.size+1)) (m - 1 - 1) prog (Exit.then _ (λ_ _ _=>False)) {tmps:=z,defers:=[]} W) hz).mpr (H _ (nx s) W _ ?_))⟩;refine⟨_,run_beginRound hl (by rw[k]),?_⟩;have a8:(W.putObj (w.heap.size+1) (.loop {rec .ready none with state:= .busy})).heap[w.heap.size+1]?=some (.loop {rec .ready none with state:= .busy}):=Cf aa;have a7:(W.putObj (w.heap.size+1) (.loop {rec .ready none with state:= .busy})).heap[w.heap.size]?=some (.deferred (some [])):=(rG (by omega)).trans hk;refine Bk (X _ s _ (hI.putObj _ hi (by omega) hl rfl) a0) ?_;have N:∀(d:Option Code) (F:gr),KeepsFrom w.heap.size (W.putObj (w.heap.size+1) (.loop {rec .ready none with state:= .busy})) F->
    (Instr.endRound (w.heap.size+1) d).run prog F= .ok (.bool d.isNone) (F.putObj (w.heap.size+1) (.loop (rec (if d.isNone then .ready else .done) d)))/\
    F.heap[w.heap.size+1]?=some (.loop {rec .ready none with state:= .busy})/\
    (F.putObj (w.heap.size+1) (.loop (rec (if d.isNone then .ready else .done) d))).heap[w.heap.size+1]?=some (.loop (rec (if d.isNone then .ready else .done) d))/\
    (F.putObj (w.heap.size+1) (.loop (rec (if d.isNone then .ready else .done) d))).heap[w.heap.size]?=some (.deferred (some [])):=λd F u=>by
   have y:=u.same _ _ (by omega) a8 rfl;have:=run_endRound (P:=prog) d y;rw[k]at this|-;exact⟨this,by grind,Cf (Array.getElem?_eq_some_iff.1 y).1,(rG (by omega)).trans (u.same _ _ (gW _) a7 rfl)⟩
  rintro e a3 F hp;cases e with
  |normal=>
   have⟨u,s',hc',hi3⟩:=hp;have⟨hr,y,hl4,hk4⟩:=N none F u;exact⟨_,_,hr,.inl ⟨rfl,s',hc',hI.putObj _ hi3 (by omega) y rfl,hl4,hk4⟩⟩
  |ret=>
   have⟨u,s',hi3⟩:=hp;have⟨hr,y,hl4,hk4⟩:=N (some .ret) F u;exact⟨_,_,hr,.inr ⟨rfl,s',.ret,(O _).putObj _ hi3 (by omega) y rfl,hl4,hk4⟩⟩
  |exit id=>
   have⟨u,s',hi3⟩:=hp;have⟨hr,y,hl4,hk4⟩:=N (some (.exit id)) F u;exact⟨_,_,hr,.inr ⟨rfl,s',.exit id,(O _).putObj _ hi3 (by omega) y rfl,hl4,hk4⟩⟩
  |goto t=>
   have⟨u,s',hi3⟩:=hp;have⟨hr,y,hl4,hk4⟩:=N (some (.goto t)) F u;exact⟨_,_,hr,.inr ⟨rfl,s',.goto t,(O _).putObj _ hi3 (by omega) y rfl,hl4,hk4⟩⟩
  |panic ch=>exact hp.elim
  |outgrown=>exact hp.elim
 .rintro e W2 ⟨⟨v,rfl⟩,(⟨s,hS,hi,hl,hk⟩|⟨s,c,hi,hl,hk⟩)⟩
  .exact⟨none,_,by have:=EV (P:=prog) hl (by rw[k];simp);rw[k]at this;exact this,Y _ s _ (gW _) hS (hI.putObj _ hi (by omega) hl rfl) ((rG (by omega)).trans hk)⟩
  .exact⟨some c,_,by have:=EV (P:=prog) hl (by rw[k];simp);rw[k]at this;exact this,Z _ c s _ (gW _) ((O c).putObj _ hi (by omega) hl rfl) ((rG (by omega)).trans hk)⟩
section
attribute [local go_sem] Oper.semAt_some
attribute [local go_sem] pW
attribute [local simp] pW
def RF.acq {σ:Ab} (h:RF E f σ w) (x:jb) (d:σ.gQ x=true):Calls prog 375 #[lK E.bB 188,oV f x] w λe w'=>e=ir (uz w.heap.size)/\w'=mx E.bB 188 (posOf σ.gq x) w:=by
 obtain⟨L,rfl,hr⟩:=h;have⟨C,hL,hC⟩:=hr.yD;have:=aap E.bs E.bB 188 _ C _ _ (iw L.gH x) w hL hr.elO (hr.gQ d)
 rwa [LA hr.inj]at this
theorem OS (w:gr) (d h k l p:Obj):(((((w.alloc d).alloc h).alloc k).alloc l).alloc p).heap[w.heap.size]?=some d/\(((((w.alloc d).alloc h).alloc k).alloc l).alloc p).heap[w.heap.size+1]?=some h/\(((((w.alloc d).alloc h).alloc k).alloc l).alloc p).heap[w.heap.size+1+1]?=some k/\(((((w.alloc d).alloc h).alloc k).alloc l).alloc p).heap[w.heap.size+1+1+1]?=some l/\(((((w.alloc d).alloc h).alloc k).alloc l).alloc p).heap[w.heap.size+1+1+1+1]?=some p:=by
 have⟨h1,h2,h3,h4⟩:=FC w d h k l;refine⟨(Below.heap_alloc _ _ _ (by grind)).trans h1,(Below.heap_alloc _ _ _ (by simp)).trans h2,(Below.heap_alloc _ _ _ (by simp)).trans h3,(Below.heap_alloc _ _ _ (by simp)).trans h4,?_⟩;have:=fQ ((((w.alloc d).alloc h).alloc k).alloc l) p;simp_all
theorem RF.sf {σ:Ab} (h:RF E f σ w) (k:Kept [] w W) (d:∀p∈S,w.heap.size<=p.1/\W.heap[p.1]?=some (gy #[p.2] 65)):SF E f σ W S:=by
 have⟨L,e,hr⟩:=h;refine⟨L,e,hr.ib k,λp l=>⟨(d p l).2,λq=>?_,λq=>?_⟩⟩
 .have:=(hr.oP.lt _ q).2;grind
 .have:=(hr.pR.lt _ q).2;grind
theorem RN {xs : kL} {n : Int} (h:io xs n=some i):some i∈xs:=by
 unfold io at h;grind
def adL (R:pC (Nat×Nat)):Prop:=∀r d,R= .ok r d->r.1 < d.nodes.length/\r.2 < d.nodes.length
structure Gh where
 g:Nat->Nat
 σ:Ab
 c:Nat
 last:Nat
 mark:Nat
structure RI (E:Env) (f:Nat->Nat) (σ:Ab) (w:gr) (n fi ik:Nat) (s:Gh) (W:gr):Prop where
 le:s.c<=n
 ex:QZ σ.nodes.length f s.g
 nl:σ.nodes.length<=s.σ.nodes.length
 ll:s.last < s.σ.nodes.length
 ml:s.mark < s.σ.nodes.length
 fe:s.σ.gQ (some fi)=true
 be:s.σ.gQ (some ik)=true
 te:s.σ.gQ (some s.last)=true
 sf:SF E s.g s.σ W [(w.heap.size+1,nV f fi),(w.heap.size+1+1,nV f ik),(w.heap.size+1+1+1,nV s.g s.last),(w.heap.size+1+1+1+1,nV s.g s.mark)]
 b3:W.heap[w.heap.size]?=some (gy #[Bp E] 117)
 b8:W.heap[w.heap.size+1+1+1+1+1]?=some (gy #[ga s.c] 3)
 bl:W.heap[w.heap.size+1+1+1+1+1+1]?=some (gy #[lK E.bB 188] 276)
 bn:W.heap[w.heap.size+1+1+1+1+1+1+1]?=some (gy #[ga n] 3)
 fr:Fr E.bs w W
def RI.grown {σ:Ab} {s:Gh} {row : jb} {B : Nat} (h:RI E f σ w n fi ik s W) (hg:W.grownBy W' row) (hr:∀r,row=some r->B<=r/\∃o:Obj,W.heap[r]?=some o/\o.isCells=false) (d:E.w0.heap.size<=B) (k:w.heap.size<=B):RI E f σ w n fi ik s W':=
 ⟨h.le,h.ex,h.nl,h.ll,h.ml,h.fe,h.be,h.te,h.sf.grown hg hr d,qf hg hr h.b3,qf hg hr h.b8,qf hg hr h.bl,qf hg hr h.bn,h.fr.grown hg hr k⟩
def SF.side {σ:Ab} (h:SF E f σ w S) (x:w.heap[b]?=some (.cells c T m)) (q:∀t∈Ux,t≠T) (d:E.w0.heap.size<=b) (j:Nat) (u:gG):SF E f σ (w.setCell ⟨b,j,none⟩ u) S:=by
 have⟨L,e,hr,hs⟩:=h;refine⟨L,e,hr.side x q d j u,λp k=>⟨?_,(hs p k).2⟩⟩;have y:Kept [b] w (w.setCell ⟨b,j,none⟩ u):=(Kept.refl _ w).setCell (.inl (by simp)) _;refine y.at (hs p k).1 λz=>?_;have l:=List.mem_singleton.1 z;have:=(hs p k).1;rw[l,x]at this;injection this with this;injection this with _ e2;exact q 65 (by decide) e2.symm
def Fr.adq (h:Fr bs w W) {k : Nat} (d:w.heap.size<=k) (j:Nat) (u:gG):Fr bs w (W.setCell ⟨k,j,none⟩ u):=by
 have⟨S,h1,h2⟩:=h;exact⟨S,h1.setCell (.inr d) _,h2⟩
theorem RI.next {σ:Ab} {s:Gh} (h:RI E f σ w n fi ik s W) (k:s.c < n) (p:E.w0.heap.size<=w.heap.size) (u:gG) (l:u=ga ((s.c+1:Nat))):RI E f σ w n fi ik ⟨s.g,s.σ,s.c+1,s.last,s.mark⟩ (W.setCell ⟨w.heap.size+1+1+1+1+1,0,none⟩ u):=by
 subst l;have d:Kept [w.heap.size+1+1+1+1+1] W (W.setCell ⟨w.heap.size+1+1+1+1+1,0,none⟩ (ga ((s.c+1:Nat)))):=(Kept.refl _ W).setCell (.inl (by simp)) _;exact
  {le:=k,ex:=h.ex,nl:=h.nl,ll:=h.ll,ml:=h.ml,fe:=h.fe,be:=h.be,te:=h.te
   sf:=h.sf.side h.b8 (by decide) (by omega) 0 _
   b3:=d.at h.b3 (by grind)
   b8:=fV h.b8 0 _
   bl:=d.at h.bl (by simp)
   bn:=d.at h.bn (by grind)
   fr:=h.fr.adq (by omega) 0 _}
def RI.step {σ:Ab} {s:Gh} (h:RI E f σ w n fi ik s W) {k : Nat->Nat} {σ':Ab} (q:QZ s.σ.nodes.length s.g k) (p:s.σ.nodes.length<=σ'.nodes.length) (l:Fr E.bs W W') (d:∀i,s.σ.gQ (some i)=true->σ'.gQ (some i)=true)
  (u:SF E k σ' W' [(w.heap.size+1,nV f fi),(w.heap.size+1+1,nV f ik),(w.heap.size+1+1+1,nV s.g s.last),(w.heap.size+1+1+1+1,nV s.g s.mark)]):RI E f σ w n fi ik ⟨k,σ',s.c,s.last,s.mark⟩ W':=by
 have e1:nV s.g s.last=nV k s.last:=by unfold nV;rw[q _ h.ll]
 have e2:nV s.g s.mark=nV k s.mark:=by unfold nV;rw[q _ h.ml]
 rw[e1,e2]at u;exact
  {le:=h.le,ex:=λi hi=>(q i (mf hi h.nl)).trans (h.ex i hi),nl:=jH h.nl p,ll:=mf h.ll p,ml:=mf h.ml p,fe:=d _ h.fe,be:=d _ h.be,te:=d _ h.te
   sf:=u
   b3:=l.at h.b3 (by decide),b8:=l.at h.b8 (by decide),bl:=l.at h.bl (by decide),bn:=l.at h.bn (by decide)
   fr:=h.fr.trans l}
def RI.aa8 {σ:Ab} {s:Gh} (h:RI E f σ w n fi ik s W) (x:Nat) (d:s.σ.gQ (some x)=true) (p:E.w0.heap.size<=w.heap.size) (l:E.bs<=w.heap.size):RI E f σ w n fi ik ⟨s.g,s.σ,s.c,x,s.mark⟩ (W.setCell ⟨w.heap.size+1+1+1,0,none⟩ (nV s.g x))/\Fr E.bs W (W.setCell ⟨w.heap.size+1+1+1,0,none⟩ (nV s.g x)):=by
 have⟨q1,q2⟩:=h.sf.set (k:=w.heap.size+1+1+1) (v:=nV s.g s.last) (by simp) (by omega) (by omega) (nV s.g x) [(w.heap.size+1,nV f fi),(w.heap.size+1+1,nV f ik),(w.heap.size+1+1+1,nV s.g x),(w.heap.size+1+1+1+1,nV s.g s.mark)] (by
  simp)
 exact⟨{le:=h.le,ex:=h.ex,nl:=h.nl,ll:=Ab.lN (σ:=s.σ) (i:=x) d,ml:=h.ml,fe:=h.fe,be:=h.be,te:=d,sf:=q1,b3:=q2.at h.b3 (by decide),b8:=q2.at h.b8 (by decide),bl:=q2.at h.bl (by decide),bn:=q2.at h.bn (by decide),fr:=h.fr.trans q2},q2⟩
def RI.aa9 {σ:Ab} {s:Gh} (h:RI E f σ w n fi ik s W) (x:Nat) (p:s.σ.gQ (some x)=true) (l:E.w0.heap.size<=w.heap.size) (d:E.bs<=w.heap.size):RI E f σ w n fi ik ⟨s.g,s.σ,s.c,s.last,x⟩ (W.setCell ⟨w.heap.size+1+1+1+1,0,none⟩ (nV s.g x))/\Fr E.bs W (W.setCell ⟨w.heap.size+1+1+1+1,0,none⟩ (nV s.g x)):=by
 have⟨q1,q2⟩:=h.sf.set (k:=w.heap.size+1+1+1+1) (v:=nV s.g s.mark) (by simp) (by omega) (by omega) (nV s.g x) [(w.heap.size+1,nV f fi),(w.heap.size+1+1,nV f ik),(w.heap.size+1+1+1,nV s.g s.last),(w.heap.size+1+1+1+1,nV s.g x)] (by
  simp)
 exact⟨{le:=h.le,ex:=h.ex,nl:=h.nl,ll:=h.ll,ml:=Ab.lN (σ:=s.σ) (i:=x) p,fe:=h.fe,be:=h.be,te:=h.te,sf:=q1,b3:=q2.at h.b3 (by decide),b8:=q2.at h.b8 (by decide),bl:=q2.at h.bl (by decide),bn:=q2.at h.bn (by decide),fr:=h.fr.trans q2},q2⟩
theorem Rb {d : Nat} {σ σ':Ab} (h:kI j σ= .ok d σ'):σ'.gQ (some d)=true:=by
 unfold kI at h;split at h
 .split at h
  .cases h
  .cases h;show((σ.add _).gV σ.nodes.length).isSome=true;rw[Ab.tY];rfl
 grind
def RI.k0 {σ:Ab} {s:Gh} (h:RI E f σ w n fi ik s W) (d:Kept [] W W'):RI E f σ w n fi ik s W':=
 ⟨h.le,h.ex,h.nl,h.ll,h.ml,h.fe,h.be,h.te,h.sf.ib d,d.at h.b3 (by simp),d.at h.b8 (by simp),d.at h.bl (by simp),d.at h.bn (by simp),h.fr.trans (.gP d)⟩
def Sy (f ik k c last h e:Nat):M (Nat×Nat):=λl=>if some e∉l.act then (j8 (some e)>>=λ_=>mr f ik k (c+1) last h) l else
 (kI e>>=λd=>zk (some e) (some d)>>=λ_=>qW (some e) (some d)>>=λ_=>mw last>>=λ_=>jt d>>=λp=>mP p last>>=λ_=>mr f ik k (c+1) d (if last=ik then d else h)) l
theorem P5 {f k c last d : Nat} {σ:Ab} {R : pC (Nat×Nat)} (p:R=mr f ik (k+1) c last d σ) (q:R≠ .stuck):∃e,io σ.gq (k:Int)=some e/\((e=f/\R= .ok (last,d) σ)\/(e≠f/\R=((if 3 < c+1 then kD (some e)else pure ())>>=λ_=>Sy f ik k c last d e) σ)):=by
 have h:R=(FW k>>=λe=>if e=f then pure (last,d)else ((if 3 < c+1 then kD (some e)else pure ())>>=λ_=>Sy f ik k c last d e)) σ:=p;rw[M.gm]at h;unfold FW at h;cases hq:io σ.gq (k:Int)with
 |none=>grind
 |some e=>
  rw[hq]at h;dsimp only at h;refine⟨e,rfl,?_⟩;by_cases l:e=f
  .rw[gN l]at h;exact .inl ⟨l,h⟩
  grind
def RF.eql {g : Nat->Nat} {σ:Ab} (h:RF E g σ W) (hi:σ.gQ (some i)=true) (d:σ.gQ (some j)=true):(binOp .eql 65 (nV g i) (nV g j)).run prog W= .ok (.bool (decide (i=j))) W:=by
 obtain⟨L,rfl,hr⟩:=h;have:=Bx (hr.gQ hi) (hr.gQ d);rw[show decide (iw L.gH (some i)=iw L.gH (some j))=decide (i=j)from decide_eq_decide.2 ⟨λe=>hr.inj _ _ (jz e),λe=>by rw[e]⟩]at this;exact this
theorem YO {σ:Ab} (h:RF E f σ w) (fi ik:Nat) (aT:(σ.gV fi).isSome=true) (bm:some ik∈σ.gq) (hs:xg fi ik σ≠ .stuck):
  Calls prog 363 #[Bp E,nV f fi,nV f ik] w (λe w'=>Leaves E f σ.nodes.length w (xg fi ik σ) (λg r=> .tuple #[nV g r.1,nV g r.2]) e w'/\adL (xg fi ik σ)):=by
 obtain⟨R,hR⟩:∃R,R=xg fi ik σ:=⟨_,rfl⟩;rw[<-hR]at hs|-;obtain⟨n,hn⟩:∃n,n=(posOf σ.gq (some ik)).toNat:=⟨_,rfl⟩;have bk:R=mr fi ik n 0 ik fi σ:=by rw[hR,hn];rfl
 have bv:posOf σ.gq (some ik)=(n:Int):=by
  rw[hn];rcases sv σ.gq (some ik)with⟨bO,_⟩|⟨m,hp,_⟩
  .grind
  .omega
 have bx:Wf σ:=by have⟨L,_,hr⟩:=h;exact hr.wf
 have V:(σ.gV ik).isSome=true:=bx.gq _ bm;have bo:σ.gQ (some ik)=true:=Ab.vf (bx.gq _ bm);have bT:σ.gq.length<=4096:=by have⟨L,_,hr⟩:=h;exact hr.wC
 have bN:n<=4096:=by
  rcases sv σ.gq (some ik)with⟨bO,_⟩|⟨m,hp,hm,_⟩
  .omega
  .omega
 have c0:=h.lt;have aU:E.w0.heap.size<=w.heap.size:=by have⟨L,_,hr⟩:=h;exact hr.fr.size
 have bp:E.bs<=w.heap.size:=by have⟨L,_,hr⟩:=h;have:=hr.bB;omega
 have HF:=fN h;have HR:=fN bk;have HS:=fN hs;have bC:=fN bo;have HP:=fN bv;clear h hR bk hs;refine(xk (n:=9)).1 ?_;refine xl func363 rfl trivial ?_ rfl;simp only[ntmps363,wS,sW,wx,Nat.reduceAdd,Nat.reduceSub,wT,wU,wV,wW,sC,uT];obtain⟨w5,am⟩:∃w5,w5=((((w.alloc (gy #[Bp E] 117)).alloc (gy #[nV f fi] 65)).alloc (gy #[nV f ik] 65)).alloc (gy #[.pointer none] 65)).alloc (gy #[.pointer none] 65):=⟨_,rfl⟩;have br:Kept [] w w5:=by rw[am];exact(((((Kept.refl _ _).alloc _).alloc _).alloc _).alloc _).alloc _
 have bz:w5.heap.size=w.heap.size+1+1+1+1+1:=by rw[am];simp
 have⟨b3,b4,b5,b6,b7⟩:=OS w (gy #[Bp E] 117) (gy #[nV f fi] 65) (gy #[nV f ik] 65) (gy #[.pointer none] 65) (gy #[.pointer none] 65);rw[<-am]at b3 b4 b5 b6 b7;have c4:=fO b4 0;have c5:=fO b5 0;have c6:=fO b6 0;have c7:=fO b7 0;have f6:=gu b6 0;have f7:=gu b7 0;dsimp at c4 c5 c6 c7;have ar:=fN am;have aY:=fN br;have ba:=fN bz;have B3:=fN b3;have B4:=fN b4;have B5:=fN b5;have B6:=fN b6;have B7:=fN b7;clear am br bz b3 b4 b5 b6 b7
 gi_wp2_with fail
 rw[<-ar.out];rename_i K1 bf;refine Bk (Q:=Exit.then (λa W'=>a={tmps:=#[Bp E,nV f fi,nV f ik,gF w.heap.size,gF (w.heap.size+1),gF (w.heap.size+1+1),gF (w.heap.size+1+1+1),gF (w.heap.size+1+1+1+1),undef,undef,undef,nV f ik,nV f fi,undef,undef,undef,undef,undef,undef,undef,undef,undef,undef,undef,undef,undef,undef,undef,undef,undef,undef,undef,undef,undef,undef,undef,undef,undef,undef,undef,undef,undef,undef,undef,undef,undef,undef,undef,undef,undef,undef,undef,undef,undef,undef,undef,undef,undef,undef,undef,undef,undef,undef,undef,undef,undef,undef,undef,undef,undef],defers:=[]}/\W'.heap.size=w5.heap.size/\Kept [] w W'/\Kept [w.heap.size+1+1+1,w.heap.size+1+1+1+1] w5 W'/\W'.heap[w.heap.size+1+1+1]?=some (gy #[nV f ik] 65)/\W'.heap[w.heap.size+1+1+1+1]?=some (gy #[nV f fi] 65)) (λ_ _ _=>False)) ?_ ?_
 .refine wpIn_wide.2 ?_;go_region;refine⟨rfl,by simp,((aY.out.setCell (.inr (by simp;omega)) _).setCell (.inr (by simp;omega)) _).drew,(((Kept.refl _ w5).setCell (.inl (by simp)) _).setCell (.inl (by simp)) _).drew,?_,?_⟩
  .exact(Below.heap_setCell _ _ _ _ (by simp)).trans (fV B6.out 0 _)
  .exact fV ((Below.heap_setCell _ _ _ _ (by simp)).trans B7.out) 0 _
 .intro e a W' hq;cases e with
  |normal=>
   obtain⟨rfl,aV,bt,aD,g6,g7⟩:=hq;show K1 _ W';dsimp only;refine bf _ _ ?_;have g3:=aD.at B3.out (by simp;omega);have g4:=aD.at B4.out (by simp);have g5:=aD.at B5.out (by simp);rw[ba.out]at aV;have av:=fN aV;have aZ:=fN bt;have G3:=fN g3;have G4:=fN g4;have G5:=fN g5;have G6:=fN g6;have G7:=fN g7;clear aV bt aD g3 g4 g5 g6 g7 c4 c5 c6 c7 f6 f7 B3 B4 B5 B6 B7 aY ba ar w5 bf
   gi_wp2_with fail
   rw[av.out];have a1:Kept [] W' (W'.alloc (gy #[ga 0] 3)):=(Kept.refl _ _).alloc _;have g8:(W'.alloc (gy #[ga 0] 3)).heap[w.heap.size+1+1+1+1+1]?=some (gy #[ga 0] 3):=by rw[<-av.out];exact fQ W' _
   have bA:(W'.alloc (gy #[ga 0] 3)).heap.size=w.heap.size+1+1+1+1+1+1:=by rw[yc,av.out]
   have ad:=fN (aZ.out.trans a1);replace G3:=fN (a1.at G3.out (by simp));replace G4:=fN (a1.at G4.out (by simp));replace G5:=fN (a1.at G5.out (by simp));replace G6:=fN (a1.at G6.out (by simp));replace G7:=fN (a1.at G7.out (by simp));have G8:=fN g8;have ag:=fN bA;clear a1 g8 bA aZ av;generalize W'.alloc (gy #[ga 0] 3)=W8 at *;have c3:=fO G3.out 0;have c5:=fO G5.out 0;dsimp at c3 c5;have bL:=(HF.out.ib ad.out).lt;have aI:=fN ((HF.out.ib ad.out.drew).acq (some ik) bC.out);rw[HP.out]at aI;rename_i Kb bY Ka bh;obtain⟨P3,bj⟩:∃P3:Act->gr->Prop,P3=(λa G=>∃aw ax ay az,a={tmps:=#[Bp E,nV f fi,nV f ik,gF w.heap.size,gF (w.heap.size+1),gF (w.heap.size+1+1),gF (w.heap.size+1+1+1),gF (w.heap.size+1+1+1+1),gF (w.heap.size+1+1+1+1+1),undef,undef,nV f ik,nV f fi,aw,ax,ay,az,uz (w.heap.size+1+1+1+1+1+1),undef,undef,undef,undef,undef,undef,undef,undef,undef,undef,undef,undef,undef,undef,undef,undef,undef,undef,undef,undef,undef,undef,undef,undef,undef,undef,undef,undef,undef,undef,undef,undef,undef,undef,undef,undef,undef,undef,undef,undef,undef,undef,undef,undef,undef,undef,undef,undef,undef,undef,undef,undef],defers:=[]}/\Kept [] W8 G/\G.heap[w.heap.size+1+1+1+1+1+1]?=some (gy #[lK E.bB 188] 276)/\G.heap[w.heap.size+1+1+1+1+1+1+1]?=some (gy #[ga n] 3)):=⟨_,rfl⟩;have aK:=fN bj;clear bj;refine Bk (Q:=Exit.then P3 (λ_ _ _=>False)) ?_ ?_
   .refine wpIn_wide.2 ?_
    go_region_with (go_at_call 375;refine aI.out.mono ?_;rintro e w9 ⟨rfl,bw⟩;have aM:=fN bw;clear bw)
    all_goals
     show P3 _ w9;rw[aK.out,ag.out];refine⟨_,_,_,_,rfl,?_,?_,?_⟩
     .rw[aM.out];exact(((Kept.refl [] W8).drew).alloc _).alloc _
     .rw[aM.out,<-ag.out];exact(sd W8.drew _ _).1
     .rw[aM.out,<-ag.out];exact(sd W8.drew _ _).2
   .intro e a G hq;cases e with
    |normal=>
     replace hq:P3 a G:=hq;rw[aK.out]at hq;obtain⟨aw,ax,ay,az,rfl,I,g9,bd⟩:=hq;show Ka _ G;dsimp only;refine bh _ _ ?_;have c2:w.heap.size+1+1+1+1+1+1<=G.heap.size:=by have:=ag.out;have:=I.size;omega
     have bq:RI E f σ w n fi ik ⟨f,σ,0,ik,fi⟩ G:=
      {le:=iP _,ex:=λ_ _=>rfl,nl:=gW _,ll:=Ab.lN (σ:=σ) (i:=ik) V,ml:=Ab.lN (σ:=σ) (i:=fi) aT,fe:=aT,be:=V,te:=V
       sf:=HF.out.sf (ad.out.trans I) (by
        intro p hp;simp only[se,sg,sV]at hp;rcases hp with rfl|rfl|rfl|rfl
        .exact⟨by simp,I.at G4.out (by simp)⟩
        .exact⟨by omega,I.at G5.out (by simp)⟩
        .exact⟨by omega,I.at G6.out (by simp)⟩
        .exact⟨by omega,I.at G7.out (by simp)⟩)
       b3:=I.at G3.out (by simp),b8:=I.at G8.out (by simp),bl:=g9,bn:=bd
       fr:= .gP (ad.out.trans I)}
     have bD:=fN bq;clear bq I g9 bd G3 G4 G5 G6 G7 G8 ad ag aI aK c3 c5 bL bh Ka P3 W8
     gi_wp2_with fail
     refine Za (b:=E.bB) (j:=188) (bs:=w.heap.size+1+1+1+1+1+1) (by omega) bN rfl (λs:Gh=>iw s.g (io s.σ.gq ((n - 1 - s.c:Nat):Int))) Gh.c
      (λs W=>RI E f σ w n fi ik s W/\R=mr fi ik (n - s.c) s.c s.last s.mark s.σ)
      (λc s W=>c= .exit 0/\RI E f σ w n fi ik s W/\R= .ok (s.last,s.mark) s.σ)
      ?_ ?_ ?_ ?_ ?_ ⟨f,σ,0,ik,fi⟩ rfl ⟨bD.out,HR.out⟩ (λx=>{tmps:=#[Bp E,nV f fi,nV f ik,gF w.heap.size,gF (w.heap.size+1),gF (w.heap.size+1+1),gF (w.heap.size+1+1+1),gF (w.heap.size+1+1+1+1),gF (w.heap.size+1+1+1+1+1),jY x,undef,nV f ik,nV f fi,aw,ax,ay,az,uz (w.heap.size+1+1+1+1+1+1),jY x,undef,undef,undef,undef,undef,undef,undef,undef,undef,undef,undef,undef,undef,undef,undef,undef,undef,undef,undef,undef,undef,undef,undef,undef,undef,undef,undef,undef,undef,undef,undef,undef,undef,undef,undef,undef,undef,undef,undef,undef,undef,undef,undef,undef,undef,undef,undef,undef,undef,undef,undef],defers:=[]}) ?assign ?body ?done ?stop
     .rintro s A B row ⟨u,Y⟩ hg hr;exact⟨u.grown hg hr (by omega) (by omega),Y⟩
     .rintro c s A B row ⟨h0,u,Y⟩ hg hr;exact⟨h0,u.grown hg hr (by omega) (by omega),Y⟩
     .rintro s W ⟨u,_⟩;rw[fO u.bn];rfl
     .rintro s W ⟨u,_⟩;rw[fO u.bl];rfl
     .rintro s W q ⟨u,_⟩ bu rfl;exact u.sf.rf.atO _
     case assign=>
      intro l x W K hK;dsimp only;gi_wp2;exact hK
     case body=>
      rintro l s W ⟨u,Y⟩ bu;dsimp only;obtain⟨k,hk⟩:∃k,k=n - 1 - s.c:=⟨_,rfl⟩;have bK:n - s.c=k+1:=by omega
      rw[bK]at Y;have⟨e,hge,hcase⟩:=P5 Y HS.out;rw[<-hk,hge];rw[show jY (iw s.g (some e))=nV s.g e from rfl];have a5:s.σ.gQ (some e)=true:=by
       have⟨L,_,hr,_⟩:=u.sf;exact hr.wf.gq _ (RN hge)
      have c3:=fO u.b3 0;dsimp at c3;have c4:W.cell? ⟨w.heap.size+1,0,none⟩=some (nV s.g fi):=by
       rw[fO (u.sf.at (v:=nV f fi) (by simp)),show nV s.g fi=nV f fi by unfold nV;rw[u.ex fi (Ab.lN (σ:=σ) (i:=fi) aT)]];rfl
      have c8:=fO u.b8 0;have f8:=gu u.b8 0;dsimp at c8;have aS:=u.sf.rf.eql a5 u.fe;have bZ:s.c < 4096:=by omega
      rcases hcase with⟨rfl,ai⟩|⟨bM,ai⟩
      .rw[uR rfl]at aS;have H1:=fN u;have H3:=fN ai;clear u Y ai hge a5;unfold nV at *;gi_wp2;exact⟨KeepsFrom.refl _ _,s,rfl,H1.out,H3.out⟩
      .rw[wQ bM]at aS;have aO:=u.next bu aU (ga ((s.c:Int)+1)) (by simp);obtain⟨W6,aB⟩:∃W6,W6=W.setCell ⟨w.heap.size+1+1+1+1+1,0,none⟩ (ga ((s.c:Int)+1)):=⟨_,rfl⟩;have aF:KeepsFrom G.heap.size W W6:=by rw[aB];exact(NV _ _ _).from _
       rw[<-aB]at aO;have ab:=fN aO;have a2:=fN aF;have au:=fN aB;have a0:=fN ai;have an:=fN a5;clear u Y ai hge aO aF aB a5;unfold nV at *;by_cases h3:3 < s.c+1;have af:Hid (R=(kD (some e)>>=λ_=>Sy fi ik k s.c s.last s.mark e) s.σ):=by
        refine fN ?_;have:=a0.out
        rwa [gN h3]at this
       gi_wp2_with fail
       rw[<-au.out];refine qu l (callsIn_wide.2 (BE (WJ E (some e)) ab.out.sf af.out HS.out rfl ?_));rintro a P WA J N z O C;have hA:=ab.out.step (λ_ _=>rfl) J z (Ho _ _ _ _ C) N;have X:=Ho _ _ _ _ C e an.out;have aP:=a2.out.trans (z.oD G.heap.size);have aQ:=O;clear J N z O C ab af a0 a2 an au c3 c4 c8 f8 aS
       rotate_left
       have af:Hid (R=Sy fi ik k s.c s.last s.mark e s.σ):=by
        refine fN ?_;have:=a0.out
        rwa [gI h3]at this
       obtain⟨P,a7⟩:∃P,P=s.σ:=⟨_,rfl⟩;obtain⟨WA,aC⟩:∃WA,WA=W6:=⟨_,rfl⟩;have hA:RI E f σ w n fi ik ⟨s.g,P,s.c+1,s.last,s.mark⟩ WA:=by rw[a7,aC];exact ab.out
       have X:P.gQ (some e)=true:=by rw[a7];exact an.out
       have aP:KeepsFrom G.heap.size W WA:=by rw[aC];exact a2.out
       have aQ:R=Sy fi ik k s.c s.last s.mark e P:=by rw[a7];exact af.out
       have bI:=fN (aC.trans au.out);clear ab a0 a2 an af a7 aC au
       all_goals
        have c3:=fO hA.b3 0;dsimp at c3;have aH:=fN (hA.sf.rf.ad3 (some e) X);have HA:=fN hA;have aq:=fN aQ;have F:=fN aP;clear hA aQ aP
        gi_wp2_with fail
        try rw[<-bI.out]
        refine(qu l (callsIn_wide.2 aH.out)).mono ?_;rintro e' w_ ⟨rfl,bQ⟩;subst bQ;by_cases U:some e∈P.act
        .have aj:R=(kI e>>=λd=>zk (some e) (some d)>>=λ_=>qW (some e) (some d)>>=λ_=>mw s.last>>=λ_=>jt d>>=λpl=>mP pl s.last>>=λ_=>mr fi ik k (s.c+1) d (if s.last=ik then d else s.mark)) P:=by
          rw[aq.out];unfold Sy;rw[gI (by simpa using U)]
         have ae:=fN aj;rw[uR U];clear aj U aq aH
         gi_wp2_with fail
         refine qu l (callsIn_wide.2 (aeo (UK E e) HA.out.sf ae.out HS.out rfl ?_));rintro d y bR W2 x1 J N z O C;have Y:=HA.out.step x1 J z (OD _ _ _ _ C) N;have bS:y e=s.g e:=x1 e (Ab.lN (σ:=P) (i:=e) X);have Z:=fN (Rb C);have ac:=fN Y;have b9:=fN O;replace F:=fN (F.out.trans (z.oD G.heap.size));have c3:=fO Y.b3 0;dsimp at c3;clear Y x1 J N z O C HA ae X
         gi_wp2_with fail
         refine qu l (callsIn_wide.2 (BE (aaC E (some e) (some d)) ac.out.sf b9.out HS.out (by show _=#[_,nV y e,nV y d];simp) ?_));rintro a3 ca W3 J N z O C;have aN:=ac.out.step (λ_ _=>rfl) J z (K7 _ _ _ _ _ C) N;replace Z:=fN (K7 _ _ _ _ _ C d Z.out);have aJ:=fN aN;have a0:=fN O;replace F:=fN (F.out.trans (z.oD G.heap.size));have c3:=fO aN.b3 0;dsimp at c3;clear aN J N z O C ac b9
         gi_wp2_with fail
         refine qu l (callsIn_wide.2 (BE (ZF E (some e) (some d)) aJ.out.sf a0.out HS.out (by show _=#[_,nV y e,nV y d];simp) ?_));rintro a4 bB W4 J N z O C;have h4:=aJ.out.step (λ_ _=>rfl) J z (K4 _ _ _ _ _ C) N;replace Z:=fN (K4 _ _ _ _ _ C d Z.out);have ap:=fN h4;have ak:=O;replace F:=fN (F.out.trans (z.oD G.heap.size));have c5:W4.cell? ⟨w.heap.size+1+1,0,none⟩=some (nV y ik):=by
          have c1:y ik=f ik:=h4.ex ik (Ab.lN (σ:=σ) (i:=ik) V);rw[fO (h4.sf.at (k:=w.heap.size+1+1) (v:=nV f ik) (by simp)),show nV y ik=nV f ik by simp];rfl
         have c6:=fO (h4.sf.at (k:=w.heap.size+1+1+1) (v:=nV y s.last) (by simp)) 0;have c7:=fO (h4.sf.at (k:=w.heap.size+1+1+1+1) (v:=nV y s.mark) (by simp)) 0;have f7:=gu (h4.sf.at (k:=w.heap.size+1+1+1+1) (v:=nV y s.mark) (by simp)) 0;dsimp at c6 c7;have al:(binOp .eql 65 (nV y s.last) (nV y ik)).run prog W4= .ok (.bool (decide (s.last=ik))) W4:=h4.sf.rf.eql h4.te h4.be;clear h4 J N z O C aJ a0;unfold nV at c5 c6 c7 al;generalize hmk:(if s.last=ik then d else s.mark)=mk at ak;by_cases a9:s.last=ik;rw[uR a9]at al;have⟨q1,q2⟩:=ap.out.aa9 d Z.out aU bp;obtain⟨W5,aA⟩:∃W5,W5=W4.setCell ⟨w.heap.size+1+1+1+1,0,none⟩ (gF (y d)):=⟨_,rfl⟩;have q3:RI E f σ w n fi ik ⟨y,bB,s.c+1,s.last,mk⟩ W5:=by rw[aA,<-hmk,gN a9];exact q1
         have q4:KeepsFrom G.heap.size W4 W5:=by rw[aA];exact q2.oD G.heap.size
         have H5:=fN q3;replace F:=fN (F.out.trans q4);have ar:=fN aA;have aL:=fN ak;clear q1 q2 q3 q4 aA ap ak a9 hmk
         gi_wp2_with fail
         rw[<-ar.out]
         rotate_left
         rw[wQ a9]at al;have H5:=fN (show RI E f σ w n fi ik ⟨y,bB,s.c+1,s.last,mk⟩ W4 by rw[<-hmk,gI a9];exact ap.out);have aL:=fN ak;clear ap ak a9 hmk
         gi_wp2_with fail
         all_goals
          refine qu l (callsIn_wide.2 (BE (Wb E s.last) H5.out.sf aL.out HS.out rfl ?_));rintro a6 cb W7 J N z O C;have h6:=H5.out.step (λ_ _=>rfl) J z (Fu _ _ _ _ C) N;have h7:=h6.k0 ((Kept.refl _ W7).drew);have c6:=fO (h6.sf.at (k:=w.heap.size+1+1+1) (v:=nV y s.last) (by simp)) 0;dsimp at c6;replace Z:=fN (Fu _ _ _ _ C d Z.out);have H7:=fN h7;have bG:=fN O;replace F:=fN ((F.out.trans (z.oD G.heap.size)).trans ((Fr.gP (bs:=E.bs) ((Kept.refl _ W7).drew)).oD G.heap.size));clear h6 h7 J N z O C H5 aL;unfold nV at c6
          gi_wp2_with fail
          have aW:Hid (Calls prog 89 #[nV y d] W7.drew λe WE=>∃pl H,e=ir (pV y pl)/\RI E f σ w n fi ik ⟨y,H,s.c+1,s.last,mk⟩ WE/\KeepsFrom G.heap.size W WE/\R=(mP pl s.last>>=λ_=>mr fi ik k (s.c+1) d mk) H/\H.gQ (some d)=true):=by
           refine fN ?_;refine BE (Z2 E d) H7.out.sf bG.out HS.out rfl ?_;rintro pl H WE J N z O C;exact⟨pl,H,rfl,H7.out.step (λ_ _=>rfl) J z (K5 _ _ _ _ C) N,F.out.trans (z.oD G.heap.size),O,K5 _ _ _ _ C d Z.out⟩
          have aX:Hid (∀pl H WE,RI E f σ w n fi ik ⟨y,H,s.c+1,s.last,mk⟩ WE->KeepsFrom G.heap.size W WE->R=(mP pl s.last>>=λ_=>mr fi ik k (s.c+1) d mk) H->H.gQ (some d)=true->Calls prog 165 #[pV y pl,.iface 65 (nV y s.last)] WE λe WP=>e=o9/\∃aa,RI E f σ w n fi ik ⟨y,aa,s.c+1,s.last,mk⟩ WP/\KeepsFrom G.heap.size W WP/\R=mr fi ik k (s.c+1) d mk aa/\aa.gQ (some d)=true):=by
           refine fN ?_;intro pl H WE y1 y2 y3 y4;refine BE (aaS E pl s.last) y1.sf y3 HS.out rfl ?_;rintro a8 aa WP J N z O C;exact⟨rfl,aa,y1.step (λ_ _=>rfl) J z (K8 _ _ _ _ _ C) N,y2.trans (z.oD G.heap.size),O,K8 _ _ _ _ _ C d y4⟩
          unfold nV at aW aX
          gi_region_with (first
           |(refine(qu l (callsIn_wide.2 aW.out)).mono ?_;rintro e' WE ⟨pl,H,rfl,y1,y2,y3,y4⟩;have bU:WE.cell? ⟨w.heap.size+1+1+1,0,none⟩=some (gF (y s.last)):=by {rw[fO (y1.sf.at (k:=w.heap.size+1+1+1) (v:=nV y s.last) (by simp))];rfl};have CP:=fN (aX.out pl H WE y1 y2 y3 y4);clear y1 y2 y3 y4)
           |(refine(qu l (callsIn_wide.2 CP.out)).mono ?_;rintro e' WP ⟨rfl,aa,y1,y2,y3,y4⟩;have bW:WP.cell? ⟨w.heap.size+1+1+1,0,none⟩=some (gF (y s.last)):=by {rw[fO (y1.sf.at (k:=w.heap.size+1+1+1) (v:=nV y s.last) (by simp))];rfl};have bX:=gu (y1.sf.at (k:=w.heap.size+1+1+1) (v:=nV y s.last) (by simp)) 0;have b1:=fN (y1.aa8 d y4 aU bp);have b2:=fN y3;have bF:=fN y2;clear y1 y2 y3 y4))
          all_goals
           gi_wp2;exact⟨bF.out.trans (b1.out.2.oD G.heap.size),_,rfl,b1.out.1,by rw[show n - (s.c+1)=k by omega];exact b2.out⟩
        .have aj:R=(j8 (some e)>>=λ_=>mr fi ik k (s.c+1) s.last s.mark) P:=by
          rw[aq.out];unfold Sy;rw[gN U]
         have ae:=fN aj;rw[wQ U];clear aj U aq aH
         gi_wp2_with fail
         refine qu l (callsIn_wide.2 (BE (Ys E (some e)) HA.out.sf ae.out HS.out rfl ?_));rintro a bR W2 J N z O C;have Y:=HA.out.step (λ_ _=>rfl) J z (Rv _ _ _ _ C) N;have ac:=fN Y;have bJ:=fN O;have b0:=fN (F.out.trans (z.oD G.heap.size));clear Y J N z O C HA ae F c3;gi_wp2;exact⟨b0.out,_,rfl,ac.out,by rw[show n - (s.c+1)=k by omega];exact bJ.out⟩
     rintro D s W hD hc ⟨u,Y⟩ hK;have aR:R= .ok (s.last,s.mark) s.σ:=by
      rw[Y,show n - s.c=0 by omega];rfl
     clear Y hc
     rotate_left
     rintro D c s W hD ⟨rfl,u,aR⟩ hK
     all_goals
      have c6:=fO (u.sf.at (k:=w.heap.size+1+1+1) (v:=nV s.g s.last) (by simp)) 0;have c7:=fO (u.sf.at (k:=w.heap.size+1+1+1+1) (v:=nV s.g s.mark) (by simp)) 0;have f6:=gu (u.sf.at (k:=w.heap.size+1+1+1) (v:=nV s.g s.last) (by simp)) 0;have f7:=gu (u.sf.at (k:=w.heap.size+1+1+1+1) (v:=nV s.g s.mark) (by simp)) 0;dsimp at c6 c7;have s6:=nZ (u.sf.at (k:=w.heap.size+1+1+1) (v:=nV s.g s.last) (by simp)) 0 (nV s.g s.last) rfl;have s7:=nZ (u.sf.at (k:=w.heap.size+1+1+1+1) (v:=nV s.g s.mark) (by simp)) 0 (nV s.g s.mark) rfl;have S6:=fN s6;have S7:=fN s7;have H1:=fN u;have bH:=fN aR;have HD:=fN hD;have bE:=fN hK;clear u aR hD hK s6 s7
      gi_wp2_with fail
      rename_i Kx bi;obtain⟨ah,aG⟩:∃ah:Act->gr->Prop,ah=(λa W'=>∃bb bc,a={tmps:=#[Bp E,nV f fi,nV f ik,gF w.heap.size,gF (w.heap.size+1),gF (w.heap.size+1+1),gF (w.heap.size+1+1+1),gF (w.heap.size+1+1+1+1),gF (w.heap.size+1+1+1+1+1),undef,undef,nV f ik,nV f fi,aw,ax,ay,az,uz (w.heap.size+1+1+1+1+1+1),undef,undef,undef,undef,undef,undef,undef,undef,undef,undef,undef,undef,undef,undef,undef,undef,undef,undef,undef,undef,undef,undef,undef,undef,undef,undef,undef,undef,undef,undef,undef,undef,undef,undef,undef,undef,undef,undef,undef,undef,undef,undef,undef,undef,undef,undef,undef,undef,undef,undef,bb,bc],defers:=[{target:=Target.collected D,args:=#[]}]}/\W'=W.drew):=⟨_,rfl⟩;have aE:=fN aG;clear aG;refine Bk (Q:=Exit.then ah (λ_ _ _=>False)) ?_ ?_
      .refine wpIn_wide.2 ?_;go_region
       all_goals
        show ah _ _;rw[aE.out];refine⟨_,_,rfl,?_⟩;show((W.setCell ⟨w.heap.size+1+1+1,0,none⟩ (nV s.g s.last)).setCell ⟨w.heap.size+1+1+1+1,0,none⟩ (nV s.g s.mark)).drew=W.drew;rw[S6.out,S7.out]
      .intro e a W' hq;cases e with
       |normal=>
        replace hq:ah a W':=hq;rw[aE.out]at hq;obtain⟨bb,bc,rfl,rfl⟩:=hq;show Kx _ _;dsimp only;refine bi _ _ ?_;clear bi;have c6:W.drew.cell? ⟨w.heap.size+1+1+1,0,none⟩=some (nV s.g s.last):=c6;gi_wp2;have bg:W.drew.heap[D]?=some (.deferred (some [])):=bE.out;refine⟨by simp,.inl ⟨_,_,rfl,oM bg,?_⟩⟩;have hD:=HD.out;have h7:=H1.out.k0 ((Kept.refl _ W).drew);have d6:(W.drew.putObj D (.deferred none)).cell? ⟨w.heap.size+1+1+1,0,none⟩=some (nV s.g s.last):=(yk W.drew (by omega)).trans c6;have d7:(W.drew.putObj D (.deferred none)).cell? ⟨w.heap.size+1+1+1+1,0,none⟩=some (nV s.g s.mark):=(yk W.drew (by omega)).trans c7;refine⟨.tuple #[nV s.g s.last,nV s.g s.mark],by simp[results,results363,asAddr,Result.andThen,go_sem,d6,d7],?_⟩;rw[bH.out];have⟨L,hLe,hr,_⟩:=h7.sf;exact⟨⟨s.g,h7.ex,h7.nl,rfl,⟨L,hLe,hr.aaU bg rfl (by omega)⟩,h7.fr.take (by omega) _⟩,λr c9 bP=>by cases bP;exact⟨h7.ll,h7.ml⟩⟩
       |_=>exact hq.elim
    |_=>exact hq.elim
  |_=>exact hq.elim
end
def ToK (E:Env) (L:Loc) (i:Nat) (σ':Ab) (w w':gr):Prop:=∃d,d.gH=L.gH/\(∀x,x≠i->d.kv x=L.kv x)/\Rel E d σ' w'/\Fr E.bs w w'
theorem Rel.ab6 {σ σ':Ab} (h:Rel E L σ w) (i:Nat) (k:gG) (hi:(σ.gV i).isSome=true) (P:KT E.bs [136,138,280] w w') (J:k.ownBlock=(L.kv i).ownBlock\/∀g,k.ownBlock=some g->w.heap.size<=g)
  (d:σ'.nodes.length=σ.nodes.length) (I:∀j N,σ'.gV j=some N->∃e,σ.gV j=some e/\N.name=e.name) (C:∀j,σ'.gV j=none->σ.gV j=none)
  (K:∀j U,σ'.nodes[j]?=some U->kM E.bs {L with kv:=λx=>if x=i then k else L.kv x} w' j U) (wf:Wf σ')
  (s0:σ'.gq=σ.gq:=by rfl) (s9:σ'.act=σ.act:=by rfl) (s1:σ'.head=σ.head:=by rfl) (s2:σ'.form=σ.form:=by rfl) (s3:σ'.mode=σ.mode:=by rfl) (s4:σ'.kept=σ.kept:=by rfl) (s5:σ'.iL=σ.iL:=by rfl) (s6:σ'.jB=σ.jB:=by rfl) (s7:σ'.gH=σ.gH:=by rfl) (s8:σ'.behind=σ.behind:=by rfl) (sw:σ'.waiting=σ.waiting:=by rfl) (so:σ'.nD=σ.nD:=by rfl) (sp:σ'.iX=σ.iX:=by rfl) (sf:σ'.fresh=σ.fresh:=by rfl) (V:σ'.pL=σ.pL:=by rfl) (X:σ'.qH=σ.qH:=by rfl) (Y:σ'.oO=σ.oO:=by rfl):ToK E L i σ' w w':=by
 have G:=Ab.lN (σ:=σ) (i:=i) hi;have O:∀j g,j < σ.nodes.length->j≠i->k.ownBlock=some g->(L.kv j).ownBlock≠some g:=by
  intro j g l q hg y;rcases J with e|e
  .rw[e]at hg;exact h.AL i j g G l (wR q) hg y
  .have⟨c,m,hc⟩:=h.yA l y;grind
 refine⟨{L with kv:=λx=>if x=i then k else L.kv x},rfl,λx hx=>gI hx,h.Ug (L':={L with kv:=λx=>if x=i then k else L.kv x}) P (λ_ _=>rfl) rfl rfl rfl K h.inj ?_ ?_ ?_ ?_ wf ?_ (nf d) s0 s9 s1 s2 s3 s4 s5 s6 s7 s8 sw so sp V X Y,P.fr (by decide)⟩
 .intro a b g F u p hg;rw[d]at F u;by_cases Z:a=i
  .grind
  .simp only[gI Z]at hg;by_cases h2:b=i
   .grind
   .simp only[gI h2];exact h.AL a b g F u p hg
 .intro j l H;rw[d]at l;have z:=C j H;have q:j≠i:=by rintro rfl;rw[z]at hi;cases hi
  simp only[gI q];exact h.FJ j l z
 .intro a b e g F a0 u p hg;rw[d]at u;have⟨e0,h0,hnm'⟩:=I a e F;exact h.uq a b e0 g h0 (by grind) u p hg
 .intro j l H;rw[d]at l;exact h.D0 j l (C j H)
 .rw[d,sf];exact h.Ck
theorem VZ {σ:Ab} (h:Rel E L σ w) (hi:σ.gV i=some ei) (F:σ.gV j=some ej) (z:j≠i) (hn:n<=ei.kids.length) (hl:ei.kids.length < 1048576):
  Calls prog 165 #[place (L.gH i) n,(Nd.el (L.gH j)).val] w λe w'=>e=o9/\ToK E L i ((σ.gU i {ei with kids:=ins ei.kids n (.el j)}).gU j {ej with ja:=some i}) w w':=by
 have y:=Ab.ic hi;have K:=Ab.ic F;have q:(σ.gV i).isSome=true:=by rw[hi];rfl
 have H:(σ.gV j).isSome=true:=by rw[F];rfl
 have X:=h.vF hi;have lI:=h.zq hi;have aJ:=h.vF F;have lJ:=h.zq F;refine(Sv E.bs _ n _ _ _ _ _ _ _ _ _ _ _ w (h.us hi) (h.us F) (λe=>z (h.inj _ _ e)) (λg hg=>h.AL j i g K y z hg) (by grind) (by grind) h.bw).mono ?_;rintro e w' ⟨rfl,⟨C,V,Y⟩,E2,P⟩;have O:∀s∈L.gH j::L.gH i::(L.kv i).ownBlock.toList,∃x∈[j,i],s=L.gH x\/(L.kv x).ownBlock=some s:=by
  intro s I;rcases List.mem_cons.1 I with rfl|I
  .simp
  rcases List.mem_cons.1 I with rfl|I
  .simp
  .grind
 have U:=h.ktJ [j,i] (by grind) O P;have J:((σ.gU i {ei with kids:=ins ei.kids n (.el j)}).gV j).isSome=true:=by rw[Ab.iM z];exact H
 have G:∀x e,x < σ.nodes.length->yi w (L.av x) e->yi w' (L.av x) e:=λx e _ ha=>U.row ha (by decide);refine⟨rfl,h.ab6 i C q U Y (by simp[Ab.gU]) ?_ ?_ ?_ ?_⟩
 .intro x e' d;by_cases p:x=j
  .subst p;rw[Ab.iR (by grind[Ab.gU])]at d;grind
  .rw[Ab.iM p]at d;by_cases l:x=i
   .subst l;rw[Ab.iR y]at d;grind
   .rw[Ab.iM l]at d;grind
 .intro x d;by_cases p:x=j
  .subst p;rw[Ab.iR (by grind[Ab.gU])]at d;cases d
  .rw[Ab.iM p]at d;by_cases l:x=i
   .subst l;rw[Ab.iR y]at d;cases d
   .rwa [Ab.iM l]at d
 .intro x nd d;rcases Ab.nS d with⟨rfl,rfl⟩|⟨p,d⟩
  .grind[kM]
  .rcases Ab.nS d with⟨rfl,rfl⟩|⟨l,d⟩
   .show El E.bs w' _ _ _ _ (if x=x then C else L.kv x) _/\_;rw[gN rfl];refine⟨?_,G x _ y X,lI⟩;show El E.bs w' (L.gH x) ei.name (L.av x) (iw L.gH ei.ja) C ((ins ei.kids n (.el j)).map (Nd.map L.gH));rw[Df];exact V
   .have Z:=h.iy [j,i] (by grind) O P d (by grind);have N:x < σ.nodes.length:=(List.getElem?_eq_some_iff.1 d).1;exact Z.ext (σ:=σ) (Fb.refl _ _) N rfl (gI l) (h.wfn d)
 .refine(h.wf.gU (e:={ei with kids:=ins ei.kids n (.el j)}) q (h.wf.ja i ei hi) ?_).gU J ?_ ?_
  .intro k u;rcases Dg u with u|rfl
   .exact h.wf.kids i ei hi k u
   .exact H
  .rw[Ab.qh q];exact q
  .intro k u;rw[Ab.kP q];exact h.wf.kids j ej F k u
theorem V1 {σ:Ab} (h:Rel E L σ w) {k : Nd} (hi:σ.gV i=some ei) (U:σ.jg k=true) (N:∀j,k≠ .el j) (V:n<=ei.kids.length) (hl:ei.kids.length < 1048576):
  Calls prog 165 #[place (L.gH i) n,(Nd.map L.gH k).val] w λe w'=>e=o9/\ToK E L i (σ.gU i {ei with kids:=ins ei.kids n k}) w w':=by
 have u:=Ab.ic hi;have q:(σ.gV i).isSome=true:=by rw[hi];rfl
 have I:=h.vF hi;have O:=h.zq hi;refine(YH E.bs _ n _ _ _ _ _ (Nd.map L.gH k) w (h.us hi) (by grind) (by grind) h.bw (λj e=>by cases k<;>simp[Nd.map]at e;grind)).mono ?_;rintro e w' ⟨rfl,⟨p,H,J⟩,y⟩;have C:∀s∈L.gH i::(L.kv i).ownBlock.toList,∃x∈[i],s=L.gH x\/(L.kv x).ownBlock=some s:=by
  intro s F;rcases List.mem_cons.1 F with rfl|F
  .simp
  .grind
 have G:=h.ktJ [i] (by grind) C y;refine⟨rfl,h.ab6 i p q G J (by simp[Ab.gU]) ?_ ?_ ?_ ?_⟩
 .intro x P d;by_cases l:x=i
  .subst l;rw[Ab.iR u]at d;grind
  .rw[Ab.iM l]at d;grind
 .intro x d;by_cases l:x=i
  .subst l;rw[Ab.iR u]at d;cases d
  .rwa [Ab.iM l]at d
 .intro x X d;rcases Ab.nS d with⟨rfl,rfl⟩|⟨l,d⟩
  .show El E.bs w' _ _ _ _ (if x=x then p else L.kv x) _/\_;rw[gN rfl];refine⟨?_,G.row I (by decide),O⟩;show El E.bs w' (L.gH x) ei.name (L.av x) (iw L.gH ei.ja) p ((ins ei.kids n k).map (Nd.map L.gH));rw[Df];exact H
  .have K:=h.iy [i] (by grind) C y d (by grind);have z:x < σ.nodes.length:=(List.getElem?_eq_some_iff.1 d).1;exact K.ext (σ:=σ) (Fb.refl _ _) z rfl (gI l) (h.wfn d)
 .refine h.wf.gU q (h.wf.ja i ei hi) ?_;intro x d;rcases Dg d with d|rfl
  .exact h.wf.kids i ei hi x d
  omega
attribute [local go_sem] Oper.semAt_some
def RS (dst:Nat) (k:Nd) (r:List Nd):xI dst (k::r)=(jt dst>>=λd=>(Ey d k>>=λ_=>xI dst r)):=rfl
theorem Vd (E:Env) {σ:Ab} {dst : Nat} (y:b≠dst) {F : zz} (I:σ.gV b=some F) {k : Nd} {r : List Nd} {H:Type} {K:Unit->M H} {R:pC H} (d:R=(xI dst (k::r)>>=K) σ) (C:R≠ .stuck) (G:σ.jg k=true):
  ∃l u,σ.gV dst=some l/\R=(xI dst r>>=K) u/\(∃x,u.gV b=some x/\x.kids=F.kids)/\u.nodes.length=σ.nodes.length/\
   ∀(L:Loc) (w:gr),Rel E L σ w->Calls prog 165 #[place (L.gH dst) l.kids.length,(Nd.map L.gH k).val] w (λe w'=>e=o9/\ToK E L dst u w w'):=by
 rw[RS,M.gm,M.gm]at d;unfold jt at d;cases hd:σ.gV dst with
 |none=>rw[hd]at d;exact absurd d C
 |some l=>
  rw[hd]at d;dsimp only at d;rw[M.gm]at d;cases k with
  |el j=>
   unfold Ey mP at d;dsimp only at d;cases hj:σ.gV j with
   |none=>rw[hd,hj]at d;exact absurd d C
   |some ej=>
    rw[hd,hj]at d;dsimp only at d;by_cases p:j≠dst/\l.kids.length<=l.kids.length/\l.kids.length < 1048576
    .rw[gN p]at d;refine⟨l,_,rfl,?_,?_,?_,λL w h=>VZ h hd hj p.1 p.2.1 p.2.2⟩
     .rw[d,M.gm]
     .by_cases z:b=j
      .subst z;rw[Ab.iR (by rw[Ab.ny];exact Ab.ic hj)];grind
      .rw[Ab.iM z,Ab.iM y];grind
     simp[Ab.gU]
    .rw[gI p]at d;exact absurd d C
  |_=>
   unfold Ey zl at d;dsimp only at d;rw[hd]at d;dsimp only at d;by_cases p:l.kids.length < 1048576
   .rw[gN ⟨G,gW _,p⟩]at d;refine⟨l,_,rfl,?_,?_,?_,λL w h=>V1 h hd G (by simp) (gW _) p⟩
    .rw[d,M.gm]
    .rw[Ab.iM y];grind
    simp[Ab.gU]
   .rw[gI (λq=>p q.2.2)]at d;exact absurd d C
theorem Rel.acx {σ:Ab} (h:Rel E L σ w) (hi:σ.gV i=some ei):To E L (σ.gU i {ei with kids:=[]}) w (w.setCell ⟨L.gH i,3,none⟩ (jV)):=by
 have p:=Ab.ic hi;have l:(σ.gV i).isSome=true:=by rw[hi];rfl
 have F:=h.vF hi;have I:=h.zq hi;have u:=h.us hi;have z:Kept [L.gH i] w (w.setCell ⟨L.gH i,3,none⟩ (jV)):=(Kept.refl _ w).setCell (.inl (by simp)) _;have y:∀s∈[L.gH i],∃x∈[i],s=L.gH x\/(L.kv x).ownBlock=some s:=by
  intro s H;exact⟨i,by simp,.inl (List.mem_singleton.1 H)⟩
 have C:=h.ktJ [i] (by grind) y z;refine h.aa7 i (jV) l C (.inr (by intro g hg;cases hg)) (by simp[Ab.gU]) ?_ ?_ ?_ ?_
 .intro x J k;by_cases d:x=i
  .subst d;rw[Ab.iR p]at k;grind
  .rw[Ab.iM d]at k;grind
 .intro x k;by_cases d:x=i
  .subst d;rw[Ab.iR p]at k;cases k
  .rwa [Ab.iM d]at k
 .intro x K k;rcases Ab.nS k with⟨rfl,rfl⟩|⟨d,k⟩
  .show El E.bs _ _ _ _ _ (if x=x then (jV)else L.kv x) _/\_;rw[gN rfl];refine⟨⟨fV u.ik 3 _,?_,by simp,u.Tg⟩,C.row F (by decide),I⟩;exact⟨rfl,.inl ⟨rfl,rfl⟩⟩
  .have G:=h.iy [i] (by grind) y z k (by grind);have q:x < σ.nodes.length:=(List.getElem?_eq_some_iff.1 k).1;exact G.ext (σ:=σ) (Fb.refl _ _) q rfl (gI d) (h.wfn k)
 .refine h.wf.gU l (h.wf.ja i ei hi) ?_;simp
def Z9 (b:Nat):Unit->M Unit:=λ_ d=>match d.gV b with
 |some eb'=> .ok () (d.gU b {eb' with kids:=[]})
 |none=> .stuck
theorem RU {σ:Ab} (h:RF E f σ w) (b dst:Nat) (hs:handOver b dst σ≠ .stuck):Calls prog 365 #[nV f b,nV f dst] w (jS E f σ.nodes.length w (handOver b dst σ) uV):=by
 obtain⟨R,q⟩:∃R,R=handOver b dst σ:=⟨_,rfl⟩;rw[<-q]at hs|-;obtain⟨L,rfl,I⟩:=h;obtain⟨d,HB⟩:∃d,σ.gV b=some d:=by
  cases hq:σ.gV b with
  |some d=>simp
  |none=>unfold handOver at q;grind
 have J:b≠dst:=by
  intro e;unfold handOver at q;rw[HB]at q;dsimp only at q;rw[gN e]at q;exact absurd q hs
 have HR:R=(xI dst d.kids>>=Z9 b) σ:=by
  unfold handOver at q;rw[HB]at q;dsimp only at q
  rwa [gI J]at q
 have N:=I.us HB;have c3:=fO N.ik 3;dsimp at c3;have Y:=N.le;rw[Bj]at Y;have⟨ao,cap,hkv⟩:=gv N.row;rw[Bj]at hkv;rw[hkv]at c3;obtain⟨n,hn⟩:∃n,n=d.kids.length:=⟨_,rfl⟩;have HN:=fN hn;rw[<-hn]at c3 Y;have H:=fN hkv;have HS:=hs;have HE:=fN N;have af:=I.fr.size;have ab:=je N.ik;clear hn hkv N;go_enter func365,ntmps365;go_wp21
 go_loopw [11] (λv wr=>∃(i:Nat) (K:Loc) (l:Ab) (p:zz),v=ga i/\i<=n/\K.gH=L.gH/\K.kv b=L.kv b/\Rel E K l wr/\l.gV b=some p/\p.kids=d.kids/\l.nodes.length=σ.nodes.length/\Fr E.bs w wr/\R=(xI dst (d.kids.drop i)>>=Z9 b) l) (λv _=>n - (intOf v).toNat)
 case atStart=>exact⟨0,L,σ,d,rfl,iP _,rfl,rfl,I,HB,rfl,rfl,Fr.refl _,HR⟩
 case round=>
  obtain⟨i,K,l,p,rfl,hi,k,G,x,u,V,X,F,C⟩:=hrel;have z:=x.us u;rw[G,V]at z;by_cases a9:i < n
  .have h2:i < d.kids.length:=by rw[<-HN.out];exact a9
   have a7:d.kids.drop i=d.kids[i]::d.kids.drop (i+1):=JI h2;rw[a7]at C;have U:l.jg d.kids[i]=true:=x.wf.kids b p u _ (by grind);have⟨ed,σ2,hd,HR3,⟨eb2,HB2,hkk2⟩,hl2,hput⟩:=Vd E J u C HS U;obtain⟨g,a6⟩:∃g,ao=some ⟨g,0,none⟩:=by
    rcases HE.row.2 with⟨e,h0⟩|⟨g,aa,ag,e,_⟩
    .grind
    .rw[H.out]at e;grind
   subst a6;have hc:wr.cell? ⟨g,i,none⟩=some (Nd.map L.gH d.kids[i]).val:=by
    have:=z.row.cells (g:=g) (by rw[H.out];rfl) i (Nd.map K.gH d.kids[i]).val (by simp[h2]);rw[js]at this;rw[<-k]
    simpa using this
   obtain⟨ty,y,Z, -, -⟩:=Ls (Nd.map L.gH d.kids[i]) wr;have C1:=Qq x hd;have C2:=(λ(W:gr) (hk:Kept [] wr W)=>hput K W (x.ib hk));rw[k]at C1 C2;rw[Z]at hc C2;have ad:=hkk2.trans V;have ae:=hl2.trans X;have a1:=fN F;have a0:=fN k;have a2:=fN G;clear F G k;generalize ed.kids.length=m at *;go_wp21;refine C1.mono ?_;rintro e W2 ⟨rfl, -,O⟩;have C3:=C2 W2 O;go_wp21;refine C3.mono ?_;rintro e W3 ⟨rfl,L2,q1,q2,Q3,q4⟩;have ac:=(a1.trans (Fr.gP O)).trans q4;have Q1:=q1.trans a0;have Q2:=(q2 b J).trans a2;go_wp2;go_roundw
   case rel=>grind
   case measure=>simp[intOf];omega
  .have he:d.kids.drop i=[]:=F7 (by rw[<-HN.out];omega);rw[he]at C;have P:R= .ok () (l.gU b {p with kids:=[]}):=by
    rw[C,M.gm];show Z9 b () l=_;unfold Z9;rw[u]
   have⟨L3,HP1,HP2,p3⟩:=x.acx u;rw[k]at HP1 HP2 p3;have c4:wr.cell? ⟨L.gH b,3,none⟩=some (.slice ao n cap):=by rw[<-k,fO z.ik,H.out,<-HN.out];rfl
   have a8:=gu z.ik 3;rw[k]at a8;have a4:=F.trans p3;have a5:=fN P;have a3:=fN X;clear G k P F;go_wp2;go_end0;rw[a5.out];exact⟨rfl,⟨L3,HP1,HP2⟩,a4,by rw[Ab.ny,a3.out];simp⟩
attribute [local go_sem] Oper.semAt_some
theorem UJ {k:Type} {σ:Ab} {R:pC k} {K:Nat->M k} (d:R=(ahead fi>>=K) σ) (x:R≠ .stuck):∃i,io σ.gq (posOf σ.gq (some fi) - 1)=some i/\R=K i σ/\some fi∈σ.gq:=by
 rw[M.gm]at d;unfold ahead at d;cases hq:io σ.gq (posOf σ.gq (some fi) - 1)with
 |none=>grind
 |some i=>
  rw[hq]at d;refine⟨i,rfl,d,?_⟩;rcases sv σ.gq (some fi)with⟨p,h⟩|⟨m,h,l,u,q⟩
  .rw[h]at hq;cases hq
  grind
theorem Qy {σ σ':Ab} {a : Unit} (h:mw j σ= .ok a σ'):σ'.nodes.length=σ.nodes.length:=by
 unfold mw at h;split at h
 .cases h
 .split at h
  .grind
  .split at h
   .cases h
   .split at h
    .cases h;simp[Ab.gU]
    grind
theorem VI {pl : Nat×Nat} {σ σ':Ab} {a : Unit} (h:mP pl j σ= .ok a σ'):σ'.nodes.length=σ.nodes.length:=by
 unfold mP at h;split at h
 .split at h
  .cases h;simp[Ab.gU]
  grind
 grind
def Ni {σ σ':Ab} {a : Nat×Nat} (h:placeFor i σ= .ok a σ'):σ'.nodes.length=σ.nodes.length:=by
 unfold placeFor at h;split at h
 .rw[oy h]
 .rw[pj h]
def At.nv {σ:Ab} (h:At E f0 n0 w0 f σ w) (hi:i < n0):nV f i=nV f0 i:=by unfold nV;rw[h.ext i hi]
def Vx {k:Ab} (h:RF E f0 k w0) (fi ik:Nat) (K:(k.gV fi).isSome=true) (J:some ik∈k.gq) (V:ui fi ik k≠ .stuck):
  Calls prog 344 #[Bp E,nV f0 fi,nV f0 ik] w0 (Leaves E f0 k.nodes.length w0 (ui fi ik k) uV):=by
 have F:fi < k.nodes.length:=Ab.lN (σ:=k) (i:=fi) K;have z:ik < k.nodes.length:=Ab.lN (σ:=k) (i:=ik) (h.wf.gq _ J);obtain⟨R,O⟩:∃R,R=ui fi ik k:=⟨_,rfl⟩;rw[<-O]at V|-;unfold ui at O;have HS:=V;have H:=fN (At.start h);have d:=fN O;have U:=(λI=>YO h fi ik K J I);clear h V O K J;go_enter func344,ntmps344;go_wp21;have I:xg fi ik k≠ .stuck:=λe=>HS (by rw[d.out,M.gm,e]);refine(U I).mono ?_;rintro e w1 ⟨G,N⟩;have x:=d;rw[M.gm]at x;cases hr:xg fi ik k with
 |stuck=>exact absurd hr I
 |stop c p=>
  rw[hr]at G x;obtain⟨j,rfl,H2,H3⟩:=G;have H1:=fN x;clear x hr I N U d;go_wp2;exact⟨rfl,oU H1 H2 H3⟩
 |ok r u=>
  have⟨last,mark⟩:=r;have⟨hll,q⟩:=N _ _ hr;rw[hr]at G x;obtain⟨f,Y,Z,rfl,h4,h5⟩:=G;replace H:=fN (show At E f0 k.nodes.length w0 f u w1 from⟨h4,Y,Z,h5,H.hw⟩);replace d:=fN x;obtain⟨w,hw⟩:∃w,w=w1:=⟨_,rfl⟩;rw[<-hw]at H|-;clear Y Z h4 h5 x hr I N U hw;dsimp only at hll q d;have hl:=H.lt;go_wp21;refine mE (V5 E last) H d HS rfl lT ?_;clear H d;rintro(_) u w H C d y;replace y:=y;replace q:mark < u.nodes.length:=by rw[Qy y];exact q
  clear y;have hl:=H.lt;have⟨ia,ha,hR2,hin⟩:=UJ d HS;have P:=H.rel.acp (some fi) (Ab.vf (H.rel.wf.gq _ hin));rw[ha,show oV f (some fi)=nV f0 fi from H.out.nv F]at P;replace d:=fN hR2;clear hR2 ha hin;go_wp21;refine P.mono ?_;rintro e w_ ⟨rfl,rfl⟩;clear P;go_wp21;refine mE (IV E (iF E) ia) H d HS rfl lT ?_;clear H d;rintro(pl) u w H C d y;replace y:=y;replace q:mark < u.nodes.length:=by rw[Ni y];exact q
  clear y;go_wp21;refine mE (DA E pl last) H d HS rfl lT ?_;clear H d;rintro(_) u w H C d y;replace y:=y;replace q:mark < u.nodes.length:=by rw[VI y];exact q
  clear y;go_wp21;refine dC (KQ E fi) H d HS ((by show #[nV f fi]=_;rw[H.out.nv F])) lT ?_;clear H d;rintro(l) f u w H HX C d;have a0:=HX mark q;go_wp21;refine zV (λI=>(show Calls prog 365 #[nV f0 ik,nV f l] w (jS E f u.nodes.length w (handOver ik l u) uV)from by rw[<-H.out.nv z];exact RU H.rel ik l I)) H d HS lT ?_;clear H d;rintro(_) u w H C d;have hl:=H.lt;go_wp21;refine mC (Fv E ik) H d HS ((by show #[nV f ik]=_;rw[H.out.nv z])) lT ?_;clear H d;rintro(X) u w H C d;go_wp21;refine mC (DA E X l) H d HS rfl lT ?_;clear H d;rintro(_) u w H C d;have hl:=H.lt;go_wp21;refine mC (Ma E (some mark) (some l)) H d HS ((by show #[_,nV f mark,nV f l]=_;simp)) lT ?_;clear H d;rintro(_) u w H C d;have hl:=H.lt;go_wp21;refine mC (Cn E (some fi)) H d HS ((by show #[_,nV f fi]=_;rw[H.out.nv F])) lT ?_;clear H d;rintro(_) u w H C d;have hl:=H.lt;go_wp21;refine mC (Dy E (some fi)) H d HS ((by show #[_,nV f fi]=_;rw[H.out.nv F])) lT ?_;clear H d;rintro(_) u w H C d;have hl:=H.lt;go_wp21;refine mC (Nh E (some ik) (some l)) H d HS ((by show #[_,nV f ik,nV f l]=_;rw[H.out.nv z])) lT ?_;clear H d;rintro(_) u w H C d;go_wp2;go_end0;exact fZ d H rfl
attribute [local go_sem] Oper.semAt_some
def RF.Xz {g : Nat->Nat} {σ:Ab} (h:RF E g σ W) (hi:σ.gQ (some i)=true):(binOp .eql 65 (nV g i) (.pointer none)).run prog W= .ok (.bool false) W:=by
 obtain⟨L,rfl,hr⟩:=h;have:=Bx (hr.gQ hi) (hr.gQ (x:=none) rfl);rw[wQ (by simp)]at this;exact this
theorem yB {σ:Ab}:∀{d:kL},σ.qj s d=some i->some i∈d
 |[],h=>by cases h
 |none::_,h=>by cases h
 |some k::r,h=>by
  unfold Ab.qj at h;split at h
  .grind
  .exact pX _ (yB h)
theorem GU {σ:Ab} {f : Nat}:∀{d:kL} {b:jb},σ.uE f d b=some i->some i∈d\/b=some i
 |[],b,h=> .inr h
 |x::r,b,h=>by
  unfold Ab.uE at h;split at h
  .grind
  .rcases GU h with h|h
   all_goals grind
def Fj (E:Env) (s:gn):iU E 316 (λ_=>#[Bp E,gw s]) (nu s) bV:=by
 intro f x w h V;obtain⟨R,N⟩:∃R,R=nu s x:=⟨_,rfl⟩;rw[<-N]at V|-;have I:=Dq h s;have H:=At.start h;have HS:=V;have hl:=h.lt;cases hla:x.pn s with
 |none=>
  have l:R=(uu s>>=λ_=>(Pure.pure false:M Bool)) x:=by rw[N];unfold nu;rw[hla]
  have p:=fN l;rw[hla]at I;clear h V N l hla;go_enter func316,ntmps316;go_wp21;refine I.mono ?_;rintro e J ⟨rfl,k⟩;replace H:=H.k0 k;clear k I;go_wp21;refine dC (Hq E s) H p HS rfl lT ?_;clear H p;rintro(_) f x w H HX HF p;go_wp2;go_ret;exact fZ p H rfl
 |some i=>
  have C:some i∈x.act:=by have:=yB hla;simpa using this
  have y:x.gQ (some i)=true:=h.wf.act _ C;rw[hla]at I;have q:=(λ(W:gr) (k:Kept [] w W)=>(h.ib k).ad4 (some i) y);have K:=(λ(W:gr) (k:Kept [] w W)=>(h.ib k).Xz y);by_cases P:some i∈x.gq
  .rw[uR P]at q;have z:=(λ(W:gr) (k:Kept [] w W)=>FH (h.ib k) i y);have F:=(λ(W:gr) (k:Kept [] w W)=>JQ (h.ib k) i y);cases hsc:x.oB i with
   |false=>
    have l:R= .ok false x:=by rw[N];unfold nu;rw[hla];dsimp only;rw[gI (by simpa using P),hsc];rfl
    have p:=fN l;rw[hsc]at z;clear h V N l hla C y P hsc F;go_enter func316,ntmps316;go_wp21;refine I.mono ?_;rintro e J ⟨rfl,d⟩;replace H:=H.k0 d;have O:=q J d;have u:=K J d;clear I q;unfold nV at u;go_wp21;refine O.mono ?_;rintro e w_ ⟨rfl,G⟩;subst G;clear O;go_wp21;refine(z _ d).mono ?_;rintro e w2 ⟨rfl,k⟩;replace H:=H.k0 k;replace d:=d.trans k;clear k z u;go_wp2;go_ret;exact fZ p H rfl
   |true=>
    rw[hsc]at z;cases hbb:x.p9 i with
    |none=>
     have l:R=(zZ (some i)>>=λ_=>kD (some i)>>=λ_=>(Pure.pure false:M Bool)) x:=by rw[N];unfold nu;rw[hla];dsimp only;rw[gI (by simpa using P),hsc,hbb];rfl
     have p:=fN l;rw[hbb]at F;clear h V N l hla C y P hsc hbb;go_enter func316,ntmps316;go_wp21;refine I.mono ?_;rintro e J ⟨rfl,d⟩;replace H:=H.k0 d;have O:=q J d;have u:=K J d;clear I q;unfold nV at u;go_wp21;refine O.mono ?_;rintro e w_ ⟨rfl,G⟩;subst G;clear O;go_wp21;refine(z _ d).mono ?_;rintro e w2 ⟨rfl,k⟩;replace H:=H.k0 k;replace d:=d.trans k;clear k z u;go_wp21;refine(F _ d).mono ?_;rintro e w3 ⟨rfl,k⟩;replace H:=H.k0 k;replace d:=d.trans k;clear k F;have hl:=H.lt;go_wp21;refine mC (Yt E (some i)) H p HS rfl lT ?_;clear H p;rintro(_) x w H HF p;have hl:=H.lt;go_wp21;refine mC (Cn E (some i)) H p HS rfl lT ?_;clear H p;rintro(_) x w H HF p;go_wp2;go_ret;exact fZ p H rfl
    |some b=>
     have U:some b∈x.gq:=by
      rcases GU (b:=none) hbb with h|h
      .simpa using h
      .cases h
     have Y:x.gQ (some b)=true:=Ab.vf (h.wf.gq _ U);have X:=(λ(W:gr) (k:Kept [] w W)=>(h.ib k).Xz Y);have l:R=(ui i b>>=λ_=>(Pure.pure true:M Bool)) x:=by rw[N];unfold nu;rw[hla];dsimp only;rw[gI (by simpa using P),hsc,hbb];rfl
     have p:=fN l;have a0:=(λ(W:gr) (k:Kept [] w W) (hm:ui i b x≠ .stuck)=>Vx (h.ib k) i b y U hm);rw[hbb]at F;clear h V N l hla C y P hsc hbb U Y;go_enter func316,ntmps316;go_wp21;refine I.mono ?_;rintro e J ⟨rfl,d⟩;replace H:=H.k0 d;have O:=q J d;have u:=K J d;clear I q;unfold nV at u;go_wp21;refine O.mono ?_;rintro e w_ ⟨rfl,G⟩;subst G;clear O;go_wp21;refine(z _ d).mono ?_;rintro e w2 ⟨rfl,k⟩;replace H:=H.k0 k;replace d:=d.trans k;clear k z u;go_wp21;refine(F _ d).mono ?_;rintro e w3 ⟨rfl,k⟩;replace H:=H.k0 k;replace d:=d.trans k;clear k F;have Z:=X _ d;unfold nV at Z;go_wp21;refine dcH (λhm=>a0 _ d hm) H p HS lT ?_;clear H p;rintro(_) f x w H HX HF p;go_wp2;go_ret;exact fZ p H rfl
  .rw[wQ P]at q;have l:R=(kD (some i)>>=λ_=>(Pure.pure false:M Bool)) x:=by rw[N];unfold nu;rw[hla];dsimp only;rw[gN P]
   have p:=fN l;clear h V N l hla C y P;go_enter func316,ntmps316;go_wp21;refine I.mono ?_;rintro e J ⟨rfl,k⟩;replace H:=H.k0 k;have O:=q J k;have u:=K J k;clear k I q K;unfold nV at u;go_wp21;refine O.mono ?_;rintro e w_ ⟨rfl,G⟩;subst G;have hl:=H.lt;go_wp21;refine mC (Cn E (some i)) H p HS rfl lT ?_;clear H p;rintro(_) x w H HF p;go_wp2;go_ret;exact fZ p H rfl
attribute [local go_sem] Oper.semAt_some
def Fi {k : Nat} {σ:Ab} {R : pC Unit} (h:R=sH s (k+1) σ):R=(nu s>>=λb=>if b then sH s k else (Pure.pure ():M Unit)) σ:=h
theorem Me (E:Env) (s:gn):iU E 273 (λ_=>#[Bp E,gw s]) (wG s) uV:=by
 intro f0 d w0 h HS;obtain⟨R,P⟩:∃R,R=wG s d:=⟨_,rfl⟩;rw[<-P]at HS|-;obtain⟨i,hi⟩:∃i,d.last=some i:=by
  cases hq:d.last with
  |some i=>simp
  |none=>unfold wG at P;grind
 have⟨ei,hei⟩:=h.wf.Is hi;have O:d.gQ (some i)=true:=by show(d.gV i).isSome=true;rw[hei];rfl
 have J:=h.Pk;rw[hi]at J;have c0:w0.cell? ⟨f0 i,0,none⟩=some (gw (d.nm i)):=by
  obtain⟨L,rfl,hr⟩:=h;exact hr.uK hei
 have F:=h.ad3 (some i) O;have H:=At.start h;have hl:=h.lt;have a0:f0 i < w0.heap.size:=by
  obtain⟨L,rfl,hr⟩:=h;exact hr.GQ (Ab.ic hei)
 have u:R=if kh (d.nm i) s&&!decide (some i∈d.act)then (xP>>=λ_=>(Pure.pure ():M Unit)) d else sH s 8 d:=by
  rw[P];unfold wG;rw[hi]
 clear h P hi hei O;cases hq:kh (d.nm i) s with
 |false=>
  rw[hq]at u;have l:=fN (show R=sH s 8 d from u);have Z:((d.nm i).toList==s.toList)=false:=hq;clear u hq F;go_enter func273,ntmps273;go_wp21;refine J.mono ?_;rintro e U ⟨rfl,y⟩;have x:=y.symm;subst x;clear J;rw[show oV f0 (some i)=gF (f0 i)from rfl];go_wp21
  go_loopw [27] (λv wr=>∃(k:Nat) (g:Nat->Nat) (I:Ab),v=ga k/\k<=8/\At E f0 d.nodes.length w0 g I wr/\R=sH s (8 - k) I) (λv _=>8 - (intOf v).toNat)
  case atStart=>exact⟨0,f0,d,rfl,by omega,H,l⟩
  case round=>
   obtain⟨k,f,z,rfl,X,p,C⟩:=hrel;have Y:d.nodes.length<=z.nodes.length:=p.le;by_cases hk:k < 8
   .have G:=Fi (R:=R) (σ:=z) (s:=s) (k:=7 - k) (by grind);replace H:=p;replace l:=fN G;clear p C G;obtain⟨w,N⟩:∃w,w=wr:=⟨_,rfl⟩;rw[<-N]at H|-;clear N;go_wp21;refine dC (Fj E s) H l HS rfl lT ?_;clear H l;rintro(b) f z w H HX HF l;cases b with
    |false=>
     replace l:Hid (R=(Pure.pure ():M Unit) z):=l;go_wp2;go_end0;exact fZ l H rfl
    |true=>
     have K:Hid (R=sH s (7 - k) z):=l;go_wp2;go_roundw
     case rel=>exact⟨k+1,f,z,by go_num,by omega,H,by rw[show 8 - (k+1)=7 - k by omega];exact K⟩
     case measure=>simp[intOf];omega
   .have V:k=8:=by omega
    subst V;replace H:=p;replace l:=fN (show R=(Pure.pure ():M Unit) z from C);clear p C;go_wp2;go_end0;exact fZ l H rfl
 |true=>
  have Z:((d.nm i).toList==s.toList)=true:=hq;by_cases q:some i∈d.act
  .rw[hq,uR q]at u;have l:=fN (show R=sH s 8 d from u);rw[uR q]at F;clear u hq q;go_enter func273,ntmps273;go_wp21;refine J.mono ?_;rintro e U ⟨rfl,y⟩;have x:=y.symm;subst x;clear J;rw[show oV f0 (some i)=gF (f0 i)from rfl];go_wp21;refine F.mono ?_;rintro e U ⟨rfl,y⟩;have x:=y.symm;subst x;go_wp21
   go_loopw [27] (λv wr=>∃(k:Nat) (g:Nat->Nat) (I:Ab),v=ga k/\k<=8/\At E f0 d.nodes.length w0 g I wr/\R=sH s (8 - k) I) (λv _=>8 - (intOf v).toNat)
   case atStart=>exact⟨0,f0,d,rfl,by omega,H,l⟩
   case round=>
    obtain⟨k,f,z,rfl,X,p,C⟩:=hrel;have Y:d.nodes.length<=z.nodes.length:=p.le;by_cases hk:k < 8
    .have G:=Fi (R:=R) (σ:=z) (s:=s) (k:=7 - k) (by grind);replace H:=p;replace l:=fN G;clear p C G;obtain⟨w,N⟩:∃w,w=wr:=⟨_,rfl⟩;rw[<-N]at H|-;clear N;go_wp21;refine dC (Fj E s) H l HS rfl lT ?_;clear H l;rintro(b) f z w H HX HF l;cases b with
     |false=>
      replace l:Hid (R=(Pure.pure ():M Unit) z):=l;go_wp2;go_end0;exact fZ l H rfl
     |true=>
      have K:Hid (R=sH s (7 - k) z):=l;go_wp2;go_roundw
      case rel=>exact⟨k+1,f,z,by go_num,by omega,H,by rw[show 8 - (k+1)=7 - k by omega];exact K⟩
      case measure=>simp[intOf];omega
    .have V:k=8:=by omega
     subst V;replace H:=p;replace l:=fN (show R=(Pure.pure ():M Unit) z from C);clear p C;go_wp2;go_end0;exact fZ l H rfl
  .rw[hq,wQ q]at u;have l:=fN (show R=(xP>>=λ_=>(Pure.pure ():M Unit)) d from u);rw[wQ q]at F;clear u hq q;go_enter func273,ntmps273;go_wp21;refine J.mono ?_;rintro e U ⟨rfl,y⟩;have x:=y.symm;subst x;clear J;rw[show oV f0 (some i)=gF (f0 i)from rfl];go_wp21;refine F.mono ?_;rintro e U ⟨rfl,y⟩;have x:=y.symm;subst x;go_wp21;obtain⟨w,N⟩:∃w,w=w0:=⟨_,rfl⟩;refine mC (BL E) H l HS rfl lT ?_;clear H l;rintro(_) z w H HF l;go_wp2;go_end0;exact fZ l H rfl
attribute [local go_sem] Oper.semAt_some
def Yl (g:Nat->Nat) (i:Nat) (W:gr):(binOp .neq 65 (nV g i) (.pointer none)).run prog W= .ok (.bool true) W:=run_neq_pointer_nil (P:=prog) W 65 (some ⟨g i,0,none⟩) Hn
def Qk (E:Env) (t:gz) (K:iY E t):iU E 195 (λ_=>#[Bp E,iA E t]) (qR t) uV:=by
 intro f0 k w0 h F;obtain⟨R,u⟩:∃R,R=qR t k:=⟨_,rfl⟩;rw[<-u]at F|-;have q:=Dq h sY;have H:=fN (At.start h);have HS:=F;have hl:=h.lt;cases hla:k.pn sY with
 |none=>
  have l:R=(iQ t>>=λ_=>(Pure.pure ():M Unit)) k:=by rw[u];unfold qR;rw[hla]
  have d:=fN l;rw[hla]at q;clear h F u l hla;go_enter func195,ntmps195;go_wp21;refine q.mono ?_;rintro e w ⟨rfl,z⟩;replace H:=fN (H.k0 z);clear z q;go_wp21;refine dC (oa E t K) H d HS rfl lT ?_;clear H d;rintro(_) f G w H J C d;go_wp2;go_end0;exact fZ d H rfl
 |some i=>
  have p:some i∈k.act:=by have:=yB hla;simpa using this
  have x:k.gQ (some i)=true:=h.wf.act _ p;have y:i < k.nodes.length:=Ab.lN (σ:=k) (i:=i) x;have l:R=(wG sY>>=λ_=>kD (some i)>>=λ_=>j8 (some i)>>=λ_=>iQ t>>=λ_=>(Pure.pure ():M Unit)) k:=by rw[u];unfold qR;rw[hla]
  have d:=fN l;rw[hla]at q;clear h F u l hla p x;go_enter func195,ntmps195;go_wp21;refine q.mono ?_;rintro e w ⟨rfl,z⟩;replace H:=fN (H.k0 z);have I:=Yl f0 i w;clear z q;unfold nV at I;rw[show oV f0 (some i)=gF (f0 i)from rfl];go_wp21;refine dC (Me E sY) H d HS rfl lT ?_;clear H d;rintro(_) f G w H J C d;have hl:=H.lt;go_wp21;refine mC (Cn E (some i)) H d HS ((by show #[_,nV f i]=_;rw[H.out.nv y])) lT ?_;clear H d;rintro(_) G w H C d;have hl:=H.lt;go_wp21;refine mC (Dy E (some i)) H d HS ((by show #[_,nV f i]=_;rw[H.out.nv y])) lT ?_;clear H d;rintro(_) G w H C d;go_wp21;refine dC (oa E t K) H d HS rfl lT ?_;clear H d;rintro(_) f G w H J C d;go_wp2;go_end0;exact fZ d H rfl
def Gb (E:Env) (t:gz):iU E 207 (λ_=>#[Bp E,iA E t]) (pM t) uV:=by
 refine dI λf l w R d HS H=>?_;unfold pM at d;go_enter func207,ntmps207;have⟨ta,tb,tao,tn,tcp,HTG⟩:=DL E t H.rel;have h:=λw=>Am ta tb t.name tao tn tcp w;go_wp21;refine(HTG _).mono ?_;rintro e u ⟨rfl,k⟩;replace H:=H.k0 k;go_wp21;refine dC (Me E t.name) H d HS rfl lT ?_;rintro(_) f l w H q p d;go_wp2;go_end0;exact fZ d H rfl
attribute [local go_sem] Oper.semAt_some
section
variable (E:Env) (t:gz) (hG:∀i,iU E 267 (λf=>#[Bp E,nV f i,iA E t]) (vP i t) uV)
include hG
theorem RP:iU E 181 (λ_=>#[Bp E,iA E t]) (oz t) uV:=by
 intro f k w h HS;obtain⟨R,p⟩:∃R,R=oz t k:=⟨_,rfl⟩;rw[<-p]at HS|-;obtain⟨i,hi⟩:∃i,io k.gq 0=some i:=by
  cases hq:io k.gq 0 with
  |some i=>simp
  |none=>unfold oz at p;grind
 have d:R=(vP i t>>=λ_=>(Pure.pure ():M Unit)) k:=by rw[p];unfold oz;rw[hi]
 have q:=h.atO 0;rw[hi]at q;have H:=At.start h;have l:=fN d;have hl:=h.lt;have y:=hG;clear h p d hi hG;go_enter func181,ntmps181;go_wp21;refine q.mono ?_;rintro e F ⟨rfl,x⟩;have u:=x.symm;subst u;clear q;go_wp21;refine dC (y i) H l HS rfl lT ?_;clear H l;rintro(_) f k w H C z l;go_wp2;go_end0;exact fZ l H rfl
def RO:iU E 182 (λ_=>#[Bp E,iA E t]) (qd t) uV:=by
 intro f p w h C;obtain⟨R,y⟩:∃R,R=qd t p:=⟨_,rfl⟩;rw[<-y]at C|-;have u:=h.atO 1;have H:=At.start h;have HS:=C;have hl:=h.lt;have F:=hG;cases hi:io p.gq 1 with
 |none=>
  have d:R= .ok () p:=by rw[y];unfold qd;rw[hi]
  rw[hi]at u;have x:=fN d;clear h C y d hi hG F;go_enter func182,ntmps182;go_wp21;refine u.mono ?_;rintro e K ⟨rfl,l⟩;have k:=l.symm;subst k;clear u;go_wp2;go_end0;exact fZ x H rfl
 |some i=>
  obtain⟨ei,q⟩:∃e,p.gV i=some e:=Option.isSome_iff_exists.1 (h.wf.gq _ (AH hi));have P:w.cell? ⟨f i,0,none⟩=some (gw (p.nm i)):=by
   obtain⟨L,rfl,hr⟩:=h;exact hr.uK q
  have J:f i < w.heap.size:=by
   obtain⟨L,rfl,hr⟩:=h;exact hr.GQ (Ab.ic q)
  have z:=Yl f i w;rw[hi]at u;cases hq:kh (p.nm i) gp with
  |true=>
   have d:R=(vP i t>>=λ_=>(Pure.pure ():M Unit)) p:=by rw[y];unfold qd;rw[hi];dsimp only;rw[hq];rfl
   have x:=fN d;have I:((p.nm i).toList==[98,111,100,121])=true:=by
    have G:(gp:gn).toList=[98,111,100,121]:=by first|rfl|decide|simp
    rw[<-G];exact hq
   clear h C y d hi hG hq q;unfold nV at z;go_enter func182,ntmps182;go_wp21;refine u.mono ?_;rintro e K ⟨rfl,l⟩;have k:=l.symm;subst k;clear u;rw[show oV f (some i)=gF (f i)from rfl];go_wp21;refine dC (F i) H x HS rfl lT ?_;clear H x;rintro(_) f p w H O N x;go_wp2;go_end0;exact fZ x H rfl
  |false=>
   have d:R= .ok () p:=by rw[y];unfold qd;rw[hi];dsimp only;rw[hq];rfl
   have x:=fN d;have I:((p.nm i).toList==[98,111,100,121])=false:=by
    have G:(gp:gn).toList=[98,111,100,121]:=by first|rfl|decide|simp
    rw[<-G];exact hq
   clear h C y d hi hG hq q F;unfold nV at z;go_enter func182,ntmps182;go_wp21;refine u.mono ?_;rintro e K ⟨rfl,l⟩;have k:=l.symm;subst k;clear u;rw[show oV f (some i)=gF (f i)from rfl];go_wp2;go_end0;exact fZ x H rfl
end
def abQ (L M:lh):flat (L++M)=flat L++flat M:=JC ..
structure adI (w:gr) (v:gG) (gx:lh) (v':gG) (w':gr):Prop where
 row:yi w' v' gx
 kp:Kept v.ownBlock.toList w w'
 new:v'.ownBlock=v.ownBlock\/∀k,v'.ownBlock=some k->w.heap.size<=k
theorem Rel.ad1 {σ:Ab} {w1 : gr} (h:Rel E L σ w) (hi:σ.gV i=some e) (hg:nh e.name=true) (hf:σ.fresh=true) (a:gn×gn) (a5:e.gM.length < 4096) (O:adI w (L.av i) (e.gM++[a]) v' w1):
  Rel E {L with av:=λx=>if x=i then v' else L.av x} (σ.gU i {e with gM:=e.gM++[a]}) (w1.setCell ⟨L.gH i,1,none⟩ v')/\Fr E.bs w (w1.setCell ⟨L.gH i,1,none⟩ v'):=by
 have G:=Ab.ic hi;have a2:(σ.gV i).isSome=true:=by rw[hi];rfl
 have⟨hEl,hAt,hAl⟩:=h.su i _ (Ab.jd hi);have K:∀g,(L.av i).ownBlock=some g->∃c m,w.heap[g]?=some (.cells c 295 m):=λg hg=>rL hAt hg;have Y:L.gH i∉(L.av i).ownBlock.toList:=by
  intro u;have a3:(L.av i).ownBlock=some (L.gH i):=by simpa using u
  exact BU hAt hEl.ik (by decide) a3
 have b1:=O.kp.at hEl.ik Y;obtain⟨w',J⟩:∃w',w'=w1.setCell ⟨L.gH i,1,none⟩ v':=⟨_,rfl⟩;rw[<-J];have b2:w'.heap[L.gH i]?=some (gy #[gw e.name,v',jY (iw L.gH e.ja),L.kv i] 136):=by rw[J];exact fV b1 1 v'
 have I:Kept (L.gH i::(L.av i).ownBlock.toList) w w':=by rw[J];exact(O.kp.mono (λk I _=>pX _ I)).setCell (.inl (by simp)) _
 have r2:yi w' v' (e.gM++[a]):=by rw[J];exact yb (a:=⟨L.gH i,1,none⟩) O.row (BU O.row b1 (by decide)) v'
 have N:KT E.bs [136,295] w w':= .jC I (λk I _=>by
  rcases List.mem_cons.1 I with rfl|I
  .exact⟨⟨_,_,_,hEl.ik,by simp⟩,h.bN i G⟩
  .have X:(L.av i).ownBlock=some k:=by simpa using I
   have⟨c,m,z⟩:=K k X;exact⟨⟨_,_,_,z,by simp⟩,h.ab i k G X⟩)
 have q:(σ.gU i {e with gM:=e.gM++[a]}).nodes.length=σ.nodes.length:=Ab.ny _ _ _;have V:∀j,((σ.gU i {e with gM:=e.gM++[a]}).gV j=none↔σ.gV j=none):=by
  intro j;by_cases p:j=i
  .subst p;rw[Ab.iR G,hi];simp
  .rw[Ab.iM p]
 have Z:∀j g,j < σ.nodes.length->j≠i->v'.ownBlock=some g->(L.av j).ownBlock≠some g:=by
  intro j g p l d F;rcases O.new with e1|e1
  .rw[e1]at d;exact h.uq i j e g hi hg p (wR l) d F
  .have:=e1 g d;have⟨c,m,z⟩:=h.Mk p F;grind
 have⟨C,hbl,hC⟩:=h.ik;refine⟨?_,N.fr (by decide)⟩;exact
  {fr:=h.fr.trans (N.fr (by decide))
   env:=h.env
   Dt:=h.Dt
   su:=by
    intro j nd p;rcases Ab.nS p with⟨rfl,rfl⟩|⟨l,p⟩
    .refine⟨⟨?_,?_,hEl.le,?_⟩,?_,?_⟩
     .grind
     .exact N.row hEl.row (by decide)
     .simp only[xm];have⟨ao,cp,hv⟩:=gv r2;grind
     all_goals grind
    .have H:=(List.getElem?_eq_some_iff.1 p).1;have hN:kM E.bs L w' j nd:=by
      refine(h.su j nd p).kept I ?_ ?_ ?_
      .intro u;rcases List.mem_cons.1 u with e1|u
       .exact l (h.inj _ _ e1)
       .obtain⟨c,m,z⟩:=K _ (by simpa using u);obtain⟨c',t,F,_,h3⟩:=h.Mj H;grind
      .intro g d u;have⟨c,m,z⟩:=h.yA H d;rcases List.mem_cons.1 u with e1|u
       .rw[e1]at z;exact absurd (Jv hEl.ik z) (by decide)
       grind
      .intro g d u;rcases List.mem_cons.1 u with e1|u
       .have⟨c,m,z⟩:=h.Mk H d;rw[e1]at z;exact absurd (Jv hEl.ik z) (by decide)
       .exact h.uq i j e g hi hg H (wR l) (by grind) d
     cases nd with
     |el e'=>grind[kM]
     |tx s=>exact hN
     |cm s=>exact hN
     |dt s=>exact hN
   inj:=h.inj
   AL:=by rw[q];exact h.AL
   FJ:=λj p hn=>h.FJ j (by omega) ((V j).1 hn)
   uq:=by
    intro x y ex g hx a1 hy a4 h1;rw[q]at hy;by_cases U:x=i
    .grind
    .simp only[gI U]at h1;rw[Ab.iM U]at hx;by_cases a0:y=i
     .subst a0;simp only[xm];exact λF=>Z x g (Ab.ic hx) U F h1
     .simp only[gI a0];exact h.uq x y ex g hx a1 hy a4 h1
   D0:=by
    intro j p hn;have P:=(V j).1 hn;have l:j≠i:=by rintro rfl;rw[hi]at P;cases P
    simp only[gI l];exact h.D0 j (by omega) P
   wf:=h.wf.gU a2 (h.wf.ja i e hi) (h.wf.kids i e hi)
   ik:=⟨C,N.at hbl (by decide),⟨hC.size,hC.low,hC.gq,hC.act,hC.head,hC.form,hC.mode,hC.kept,hC.wait,hC.H6,hC.jB,hC.gH,hC.behind⟩⟩
   oP:=N.row h.oP (by decide)
   pR:=N.row h.pR (by decide)
   FP:=h.FP,wC:=h.wC,D7:=h.D7
   oL:=N.row h.oL (by decide)
   KJ:=h.KJ
   rd:=N.at h.rd (by decide)
   P9:=h.P9
   tok:=I.ownsRow h.tok (λg d u=>by
    rcases List.mem_cons.1 u with e1|u
    .have⟨c,m,z⟩:=rL h.tok d;rw[e1]at z;exact absurd (Jv hEl.ik z) (by decide)
    .exact h.Ck hf i g G d (by grind))
   KG:=h.KG,bz:=h.bz,bB:=h.bB,bR:=h.bR
   bN:=by rw[q];exact h.bN
   Ck:=by
    intro _ j g p d;rw[q]at p;by_cases l:j=i
    .subst l;simp only[xm];intro F;rcases O.new with e1|e1
     .rw[e1]at F;exact h.Ck hf j g p d F
     .have:=e1 g F;have⟨c,m,z⟩:=rL h.tok d;grind
    .simp only[gI l];exact h.Ck hf j g p d
   ab:=by
    intro j g p d;rw[q]at p;by_cases l:j=i
    .subst l;simp only[xm]at d;rcases O.new with e1|e1
     .rw[e1]at d;exact h.ab j g p d
     .exact jH h.bw (e1 g d)
    .simp only[gI l]at d;exact h.ab j g p d
   tb:=h.tb
   KI:=h.KI}
attribute [local go_sem] Oper.semAt_some
def XS:(prog.info? 295).map (λi=>(i.zero,i.size,i.bytes))=some (some (.agg #[gw kC,gw kC]),2,32):=by kernel_rfl
def Ia (i:Nat) (a:gn×gn) (r:lh) (σ:Ab):qe i (a::r) σ=(match σ.gV i with
  |none=> .stuck
  |some e=>if yy e.gM a.1 then qe i r σ else if σ.oO<=e.gM.length then .stop 7 σ.gH else qe i r (σ.gU i {e with gM:=e.gM++[a]})):=rfl
def abo (E:Env) (t:gz) (l:iY E t) {σ:Ab} (h:RF E f σ w):∃x y nm ao cp,yT E t=#[.int .i64 x,.int .i64 y,.string nm,.slice ao t.jm.length cp]/\t.jm.length<=4096/\∀f σ w,RF E f σ w->yi w (.slice ao t.jm.length cp) t.jm:=by
 have⟨L,e,hr⟩:=h;have⟨ao,cp,htv⟩:=gv hr.tok;have d:=hr.KG;have⟨a,b,k,gx⟩:=t;cases k with
 |start n=>
  have e:gx=E.ta:=l rfl;subst e;exact⟨a,b,n,ao,cp,by simp only[yT,gz.jm];rw[htv],d,λf σ w ⟨L,_,h⟩=>by show yi w (.slice ao E.ta.length cp) E.ta;rw[<-htv];exact h.tok⟩
 |stop n=>
  have e:gx=E.ta:=l rfl;subst e;exact⟨a,b,n,ao,cp,by simp only[yT,gz.jm];rw[htv],d,λf σ w ⟨L,_,h⟩=>by show yi w (.slice ao E.ta.length cp) E.ta;rw[<-htv];exact h.tok⟩
 |jW s=>exact⟨0,0,_,none,0,rfl,iP _,λ_ _ _ _=>py _ _ _ _⟩
 |gJ s=>exact⟨0,0,_,none,0,rfl,iP _,λ_ _ _ _=>py _ _ _ _⟩
 |iH n q=>exact⟨0,0,_,none,0,rfl,iP _,λ_ _ _ _=>py _ _ _ _⟩
 |lost=>exact⟨0,0,_,none,0,rfl,iP _,λ_ _ _ _=>py _ _ _ _⟩
 |ie=>exact⟨0,0,_,none,0,rfl,iP _,λ_ _ _ _=>py _ _ _ _⟩
def VE {o:Oper} {ys : Nat->Option Bool} {a : Act} {K' : Act->gr->Prop} {Q:Exit->Act->gr->Prop} {d : Prop} (s x:Operand) (t:TypeId) (l:o.op= .call {callee:= .builtin .append,args:=#[s,x],argTypes:=#[t,t]}) (q:o.guard=none) (v u:gG) (p:a.eval s=v) (y:a.eval x=u) (hr:(Builtin.append_ #[t,t] o.type #[v,u]).run prog w= .ok v' w') (h:K' (a.put o.dst v') w'):if Region.wanted o ys=true then Oper.wp prog o a w K' Q else d:=by
 have k:Region.wanted o ys=true:=by unfold Region.wanted;rw[q]
 rw[gN k];unfold Oper.wp execOp;simp only[l,resolve,invoke,builtin,Sem.run_bind,Sem.run_pure,Result.andThen_ok,List.map_toArray,y8,List.map_nil,p,y,hr];exact h
structure L0 (w:gr) (v:gG) (n:Nat) (gx:lh) (v':gG) (W:gr):Prop where
 app:adI w v gx v' W
 shape:∃ao cp,v'= .slice ao (n+1) cp
theorem L0.at (h:L0 w v n gx v' W) {k : Nat} (d:w.heap[k]?=some (gy c T)) (l:v.ownBlock≠some k):W.heap[k]?=some (gy c T):=h.app.kp.at d (by grind)
def L0.cell (h:L0 w v n gx v' W) {k : Nat} {p q u : gG} (l:w.heap[k]?=some (gy #[p,v,q,u] T)) (d:v.ownBlock≠some k):W.cell? ⟨k,1,none⟩=some v:=by rw[fO (h.at l d)];rfl
def L0.free (h:L0 w v n gx v' W) {k : Nat} (l:w.heap[k]?=some (gy c T)) (d:v.ownBlock≠some k):W.frozen? ⟨k,1,none⟩=false:=gu (h.at l d) 1
theorem Oj (w W:gr) (d:Kept [] w W) (z:yi w (.slice ao gx.length cp) gx) (k:Nat) (a b:gn) (y:W.heap[k]?=some (gy #[gw a,gw b] 295)) (G:gx.length<=4096):
  ∃v' w',(Builtin.append_ #[133,133] 133 #[.slice ao gx.length cp,nI k 1 1]).run prog W= .ok v' w'/\L0 w (.slice ao gx.length cp) gx.length (gx++[(a,b)]) v' w':=by
 obtain⟨C,hi,p,q,x⟩:=tj XS;have F:=d.ownsRow z (λ_ _=>by simp);have⟨v',w',h1,h2,h3,h4⟩:=zm (P:=prog) W 0 133 133 295 C (.agg #[gw kC,gw kC]) 2 32 underlying133 hi p q x rfl (by decide) (.slice ao gx.length cp) gx.length (flat gx) F ⟨k,0,none⟩ 1 1 [gw a,gw b] rfl (λj u h=>by
  rw[js,fO y,<-h];simp) (λu h=>by simp at h;rcases h with rfl|rfl<;>rfl) (by unfold maxLen;omega) (by omega) (iP _)
 refine⟨v',w',h1,⟨?_,?_,?_⟩,?_⟩
 .show w'.ownsRow 0 _ 2 v' (gx++[(a,b)]).length (flat (gx++[(a,b)]));grind[flat]
 .exact(d.mono (by simp)).grown h3 (λk d=> .inl (by grind))
 .rcases h4 with e|e
  .grind
  .exact .inr λk l=>jH d.size (e k l)
 .have⟨ao',cp',e⟩:=gv h2;grind
def GvJ (w2:gr) (a b:gn) (l:gG) (n:Nat) (gx:lh) (fi:Nat) (g:Nat×gG) (p k d:Bool) (W:gr):Prop:=(k=false->Kept [] w2 W/\(p=true->W.heap[g.1]?=some (gy #[gw a,gw b] 295)))/\(k=true->d=false->L0 w2 l n gx g.2 W)/\(d=true->∃h,L0 w2 l n gx g.2 h/\W=h.setCell ⟨fi,1,none⟩ g.2)
def GvJ.MZ {a b : gn} {l : gG} {g : Nat×gG} {z : Array Bool} (h:GvJ w2 a b l n gx fi g (dn z 6) (dn z 7) (dn z 10) W) {k : Nat} (p:k≠6) (q:k≠7) (d:k≠10):GvJ w2 a b l n gx fi g (dn (z.setIfInBounds k true) 6) (dn (z.setIfInBounds k true) 7) (dn (z.setIfInBounds k true) 10) W:=by rw[lR p,lR q,lR d];exact h
def XI (E:Env) (t:gz) (ht:iY E t) (i:Nat):iU E 267 (λf=>#[Bp E,nV f i,iA E t]) (vP i t) uV:=by
 intro f σ w h hs;obtain⟨R,K⟩:∃R,R=vP i t σ:=⟨_,rfl⟩;rw[<-K]at hs|-;have F:(σ.fresh&&nh (σ.nm i))=true:=by
  cases hq:(σ.fresh&&nh (σ.nm i))with
  |true=>rfl
  |false=>unfold vP at K;rw[hq]at K;exact absurd K hs
 have X:R=qe i t.jm σ:=by rw[K];unfold vP;rw[F];rfl
 rw[qx]at F;obtain⟨a0,Y⟩:=F;obtain⟨x,y,nm,ao,cp,aj,hn,a6⟩:=abo E t ht h;have ap:∃ao n cp,E.tv= .slice ao n cp:=by
  obtain⟨L,_,hr⟩:=h;obtain⟨ao,cp,e⟩:=gv hr.tok;exact⟨ao,_,cp,e⟩
 have C1:=λW=>x7 E t W ap;rw[aj]at C1;generalize t.jm=gx at *;have ae:=fN C1;have ah:=fN a6;have HS:=fN hs;have H:=fN (At.start h);have N:=fN a0;have O:=fN Y;have HR:=fN X;clear C1 a6 hs h a0 Y K X aj ap ht;go_enter func267,ntmps267;go_wp2_with fail;refine(ae.out _).mono ?_;rintro e w1 ⟨rfl,ak⟩;replace H:=fN (H.out.k0 ak);clear ak ae;have aA:=λ(w:gr)=>x8 x y nm ao gx.length cp w;go_wp2_with fail;clear aA
 go_loopw [12] (λv wr=>∃(u:Nat) (d:Ab),v= .int .i64 u/\u<=gx.length/\R=qe i (gx.drop u) d/\At E f σ.nodes.length w f d wr/\d.fresh=true/\nh (d.nm i)=true) (λv _=>gx.length - (intOf v).toNat)
 case atStart=>exact⟨0,σ,rfl,iP _,HR.out,H.out,N.out,O.out⟩
 case round=>
  clear H N O HR;obtain⟨u,d,rfl,aF,K,U,a0,Y⟩:=hrel;by_cases am:u < gx.length
  .obtain⟨g0,rfl,c0,c1⟩:=yi.at2 (ah.out _ _ _ U.rel) am;rw[JI am]at K;obtain⟨e,he⟩:∃e,d.gV i=some e:=by
    cases hq:d.gV i with
    |some e=>exact⟨e,rfl⟩
    |none=>rw[Ia,hq]at K;exact absurd K HS.out
   have X:R=(if yy e.gM gx[u].1 then qe i (gx.drop (u+1)) d else if d.oO<=e.gM.length then .stop 7 d.gH else qe i (gx.drop (u+1)) (d.gU i {e with gM:=e.gM++[gx[u]]})):=by rw[K,Ia,he]
   have an:d.nm i=e.name:=by unfold Ab.nm;rw[he]
   rw[an]at Y;have aq:gx[u]=(gx[u].1,gx[u].2):=rfl;generalize gx[u].1=a at *;generalize gx[u].2=b at *;rw[aq]at X;have hK:Kept [] wr (wr.alloc (.cells #[.string a,.string b] 295 (0,0))):=(Kept.refl _ _).alloc _;have hB:=fQ wr (.cells #[.string a,.string b] 295 (0,0));obtain⟨L,hL,hr⟩:=(U.k0 hK).rel;obtain⟨J,l,ai⟩:=hr.su i _ (Ab.jd he);have C2:=fN (acN (L.gH i) e.name (L.av i) _ _ e.gM a _ J.ik l ai);rw[hL]at C2;have HE:=fN he;have P:=fN X;have HA:=fN (U.k0 hK);have HB:=fN hB;have aE:=fN (je hB);have N:=fN a0;have O:=fN Y;clear K X he U hK hB hr J l ai a0 Y an aq hL;go_wp21;refine C2.out.mono ?_;rintro e2 w2 ⟨rfl,ac⟩;replace HA:=fN (HA.out.k0 ac);replace HB:=fN (ac.at HB.out (by simp));clear ac C2 L;cases hq:yy e.gM a with
   |true=>
    have Z:=fN (show R=qe i (gx.drop (u+1)) d by rw[P.out,hq];rfl);clear hq P;go_wp2;go_roundw
    case rel=>exact⟨u+1,d,by go_num,by omega,Z.out,HA.out,N.out,by unfold Ab.nm;rw[HE.out];exact O.out⟩
    case measure=>simp[intOf];omega
   |false=>
    obtain⟨L,hL,hr⟩:=HA.out.rel;have J:=(hr.su i _ (Ab.jd HE.out)).1;have l:=(hr.su i _ (Ab.jd HE.out)).2.1;obtain⟨G,I,a2⟩:=gv l;have d0:w2.cell? ⟨f i,1,none⟩=some (.slice G e.gM.length I):=by rw[<-hL,fO J.ik,<-a2];rfl
    have d1:w2.cell? ⟨E.bB,2,none⟩=some (.int .i64 (d.oO:Int)):=hr.low (by decide) hr.Dt.2.2.1;have aB:=hr.Dt.2.2.2.2.2;have al:f i < w2.heap.size:=by rw[<-hL];exact je J.ik
    have aG:=hr.lt;by_cases a5:d.oO<=e.gM.length
    .have Z:=fN (show R= .stop 7 d.gH by rw[P.out,hq];simp[a5]);have C3:=fN (λq=>NH (hr.drewN q) 7);clear hq P hr J l a2;go_wp21
     go_quiet (fail)
     go_wp21;refine(C3.out nq).mono ?_;rintro e3 w3 ⟨k,rfl,h1,h2⟩;have H1:=fN h1;have H2:=fN ((HA.out.fr.trans (Fr.drewN w2 nq)).trans h2);clear h1 h2 C3;go_wp2;exact⟨rfl,oU Z.out H1.out H2.out⟩
    .have Z:=fN (show R=qe i (gx.drop (u+1)) (d.gU i {e with gM:=e.gM++[(a,b)]}) by rw[P.out,hq];simp[a5]);have a1:=fN hr;have a9:=fN hL;have a7:=fN a2;have ax:=fN d0;have aa:=fN al;clear hq P hr J l a2 hL;have a8:=fN (show w2.heap[f i]?=some (.cells #[.string e.name,.slice G e.gM.length I,jY (iw L.gH e.ja),L.kv i] 136 (0,0)) by
      have:=(a1.out.su i _ (Ab.jd HE.out)).1.ik;rw[a9.out,a7.out]at this;rw[a9.out];exact this)
     have a4:=fN (show yi w2 (.slice G e.gM.length I) e.gM by rw[<-a7.out];exact(a1.out.su i _ (Ab.jd HE.out)).2.1);have aw:=fN (a1.out.su i _ (Ab.jd HE.out)).2.2;have ag:=fN (BU a4.out a8.out (by decide));have av:=fN (λW (hk:Kept [] w2 W)=>mf aa.out hk.size);have af:=fN aa.out;have au:=fN (λW (hk:Kept [] w2 W)=>(hk.cell (p:=⟨f i,1,none⟩) aa.out (by simp)).trans ax.out);have ar:=fN (λW (hk:Kept [] w2 W)=>(⟨by rw[fO (hk.at HB.out (by simp))];rfl,by rw[fO (hk.at HB.out (by simp))];rfl⟩:W.cell? ⟨wr.heap.size,0,none⟩=some (.string a)/\W.cell? ⟨wr.heap.size,1,none⟩=some (.string b)));have ad:=fN (show e.gM.length < 16 by omega);go_wp21
     go_quiet (fail)
     clear d0 al;go_wp21;refine uU (by kernel_rfl) ?_;refine od (λ(g:Nat×gG) z=>⟨#[Bp E,nV f i,iA E t,undef,undef,undef,undef,.pointer (some ⟨wr.heap.size,0,none⟩),iA E t,.agg #[.int .i64 x,.int .i64 y,.string nm,.slice (some ⟨g0,0,none⟩) gx.length cp],.slice (some ⟨g0,0,none⟩) gx.length cp,.int .i64 (gx.length:Int),.int .i64 (u:Int),.bool true,.pointer (some ⟨g0,u*2,none⟩),.agg #[.string a,.string b],nV f i,.pointer (some ⟨wr.heap.size,0,none⟩),.string a,.bool false,nV f i,.pointer (some ⟨f i,0,none⟩),.pointer (some ⟨f i,1,none⟩),.slice G e.gM.length I,.int .i64 (e.gM.length:Int),Bp E,.pointer (some ⟨E.bB,0,none⟩),.pointer (some ⟨E.bB,0,none⟩),.pointer (some ⟨E.bB,2,none⟩),.int .i64 (d.oO:Int),.bool false,u31,u32,ce z 0 u33 (nV f i),ce z 1 u34 (nV f i),ce z 2 u35 (.pointer (some ⟨f i,0,none⟩)),ce z 3 u36 (.pointer (some ⟨f i,1,none⟩)),ce z 4 u37 (.slice G e.gM.length I),ce z 5 u38 (.agg #[.string a,.string b]),ce z 6 u39 (.slice (some ⟨g.1,0,none⟩) 1 1),ce z 7 u40 g.2,ce z 8 u41 (.pointer (some ⟨f i,0,none⟩)),ce z 9 u42 (.pointer (some ⟨f i,1,none⟩)),u43],[]⟩) (λg z W=>GvJ w2 a b (.slice G e.gM.length I) e.gM.length (e.gM++[(a,b)]) (f i) g (dn z 6) (dn z 7) (dn z 10) W) 11 [[],[],[1],[1,2],[1,2,3],[],[5],[1,2,3,4,5,6],[0,1,2,3,4,5,6,7],[0,1,2,3,4,5,6,7,8],[0,1,2,3,4,5,6,7,8,9]] (0,undef) (by kernel_rfl) (by kernel_rfl) ⟨λ_=>⟨((Kept.refl _ _).drewN nq).drew,λh=>by cases h⟩,λh=>(by cases h),λh=>(by cases h)⟩ ?_ ?_
     .repeat' first|exact lp|refine ln ?_ ?_
      all_goals
       rintro g z W hI F hn;simp[zE]at F;refine mK rfl ?_;intro K' V;simp only[vI,F]
       first
       |have k7:=(hI.1 (hn 7 (by decide))).1;have az:=av.out W k7;have cc:=au.out W k7;have⟨c2,c3⟩:=ar.out W k7;go_simp;refine V _ _ ⟨g,?_,hI.MZ (by decide) (by decide) (by decide)⟩;simp[uY,Cu,vI,F]
       |have k7:=(hI.1 (hn 7 (by decide))).1;go_simp;refine V _ _ ⟨(W.heap.size,g.2),?_,λ_=>⟨k7.alloc _,λ_=>fQ W _⟩,λh=>(by rw[lR (by decide),hn 7 (by decide)]at h;cases h),λh=>(by rw[lR (by decide),hn 10 (by decide)]at h;cases h)⟩;simp[uY,Cu,vI,F,hn 7 (by decide)]
       |go_simp;refine V _ _ ⟨g,?_,hI.MZ (by decide) (by decide) (by decide)⟩;simp[uY,Cu,vI,F]
       |skip
      .obtain⟨k7,h6⟩:=hI.1 (by simp[F]);obtain⟨v',w',ay,C⟩:=Oj w2 W k7 a4.out g.1 a b (h6 (by simp[F])) aw.out;refine VE (.tmp 37) (.tmp 39) 133 rfl rfl (.slice G e.gM.length I) (.slice (some ⟨g.1,0,none⟩) 1 1) rfl rfl (v':=v') (w':=w') ay ?_;refine V _ _ ⟨(g.1,v'),?_,λh=>(by rw[pi]at h;cases h),λ_ _=>C,λh=>(by rw[lR (by decide),hn 10 (by decide)]at h;cases h)⟩;simp[Act.put,uY,Cu,vI,F]
      all_goals have C:=hI.2.1 (by simp[F]) (by first|exact hn 10 (by decide)|simp[F])
      all_goals first
       |have az:=C.lt2 af.out;go_simp;refine V _ _ ⟨g,?_,hI.MZ (by decide) (by decide) (by decide)⟩;simp[uY,Cu,vI,F]
       |skip
      obtain⟨g1,g2⟩:=g;obtain⟨aC,aD,e9⟩:=C.shape;dsimp only at e9;subst e9;have c9:=C.cell a8.out ag.out;have f9:=C.free a8.out ag.out;go_simp;refine V _ _ ⟨(g1,_),?_,λh=>(by rw[lR (by decide)]at h;simp[F]at h),λ_ h=>(by rw[pi]at h;cases h),λ_=>⟨W,C,rfl⟩⟩;simp[uY,Cu,vI,F]
     .rintro g W hI;simp only[Ms];obtain⟨W1,C,hW⟩:=hI.2.2 uH;subst hW;have ab:=a1.out.ad1 HE.out O.out N.out (a,b) (by have:=ad.out;omega) (v':=g.2) (w1:=W1) (by rw[a7.out];exact C.app);rw[a9.out]at ab;have a3:=fN ab;clear hI ab;go_wp2;go_roundw
      case rel=>exact⟨u+1,_,by go_num,by omega,Z.out,HA.out.to ⟨_,rfl,a3.out.1⟩ (nf (Ab.ny _ _ _).symm) a3.out.2,N.out,by unfold Ab.nm;rw[Ab.iR (Ab.ic HE.out)];exact O.out⟩
      case measure=>simp[intOf];omega
  .have HD:=fN (show R= .ok () d by rw[K,F7 (by omega)];rfl);have HA:=fN U;clear K U;go_wp2;go_end0;exact fZ HD.out HA.out rfl
attribute [local go_sem] Oper.semAt_some
def Ql (E:Env) (t:gz) (I:iY E t):iU E 197 (λ_=>#[Bp E,iA E t]) (sy t) uV:=by
 refine dI λf h w R d HS H=>?_;unfold sy at d;go_enter func197,ntmps197;obtain⟨f0,N⟩:∃f0,f0=f:=⟨_,rfl⟩;obtain⟨n0,P⟩:∃n0,n0=h.nodes.length:=⟨_,rfl⟩;obtain⟨w0,U⟩:∃w0,w0=w:=⟨_,rfl⟩;go_wp21;refine dC (rC E (iF E)) H d HS rfl lT ?_;rintro(_) f h w H C z d;have⟨kb,lbb,cb,HQ⟩:=H.rel.bounds;have F:=H.lt;have y:=cb;have J:=(Kept.refl [] w).drew;go_wp21
 go_cut [13]from 6 to 12 (λr wc=>r= .bool (h.inScope (hH [iB]) (iJ))/\Kept [] w wc)
 case first=>
  go_region_with (first
   |(go_at_call 215;refine(ni E [iB] w.drew (by simp)).mono ?_;rintro e X ⟨Z,V,rfl,q,u⟩;have l:=J.trans u;have Y:X.cell? ⟨E.bB,186,none⟩=some (.func (.func kb) #[] lbb):=(l.cell (p:=⟨E.bB,186,none⟩) F (by simp)).trans y;have x:=fN q;have k:=fN l;clear q u l)
   |(go_at_call 228;refine(vq (H.k0 k).rel (hH [iB]) iJ _ _ x (HQ.k0 k)).mono ?_;rintro e w2 ⟨rfl,G⟩;have K:=fN (k.trans G);clear G))
  all_goals (try (go_wp21))
  all_goals (go_meet;exact⟨rfl,K⟩)
 case rest=>
  obtain⟨rfl,O⟩:=hcut;replace H:=H.k0 O;cases hsc:h.inScope (hH [iB]) iJ with
  |true=>
   replace d:Hid (R=(wG iB>>=λ_=>iQ t>>=λ_=>(Pure.pure ():M Unit)) h):=by
    refine fN ?_;rw[d.out];unfold tU;rw[hsc];rfl
   go_wp21;refine dC (Me E iB) H d HS rfl lT ?_;rintro(_) f h w H C z d;go_wp21;refine dC (oa E t I) H d HS rfl lT ?_;rintro(_) f h w H C z d;go_wp2;go_end0;exact fZ d H rfl
  |false=>
   replace d:Hid (R=(iQ t>>=λ_=>(Pure.pure ():M Unit)) h):=by
    refine fN ?_;rw[d.out];unfold tU;rw[hsc];rfl
   go_wp21;refine dC (oa E t I) H d HS rfl lT ?_;rintro(_) f h w H C z d;go_wp2;go_end0;exact fZ d H rfl
def Kept.AN (h:Below w.heap.size w w'):Kept [] w w':=⟨h.os,h.tape,h.output,h.size,λk d _=>h.block k d⟩
def Gl (w:gr) (r:Nat):Prop:=(∃m,w.cell? ⟨3,0,none⟩=some (ga m))/\3 < w.heap.size/\r≠3
theorem Gl.kept {r : Nat} (h:Gl w r) (d:Kept [r] w w'):Gl w' r:=by
 have⟨⟨m,hm⟩,hl,hn⟩:=h;exact⟨⟨m,(d.cell (p:=⟨3,0,none⟩) hl (by grind)).trans hm⟩,mf hl d.size,hn⟩
def oq (s:gn):gn:=⟨(Lib.replaceAll s.data.toList (ByteArray.mk #[0]).data.toList (ByteArray.mk #[239,191,189]).data.toList).toArray⟩
theorem xO (r:Nat) (s:gn) (w:gr) (k:s.size<=1048576) (hg:Gl w r):
  Calls prog 148 #[gw s] w λe w'=>e=ir (gw (oq s))/\Kept [] w w':=by
 have⟨⟨m,hm⟩,_,_⟩:=hg;have h:=Lib.countB_le ⟨#[0]⟩ (by decide) s.size s (gW _);have C:=Tryz.strings_ReplaceAll s ⟨#[0]⟩ ⟨#[239,191,189]⟩ m w (by omega) hm (by decide) (by have:(ByteArray.mk #[239,191,189]).size=3:=rfl;grind);go_enter func148,ntmps148;go_wp21;refine C.mono ?_;rintro e w' ⟨rfl,d⟩;go_wp2;go_ret;exact⟨rfl,Kept.AN d⟩
def low (c:Int):Int:=if 65<=c/\c<=90 then c+32 else c
def small (s:gn):gn:=⟨s.data.map λb=>if 65<=b.toNat/\b.toNat<=90 then b+32 else b⟩
def rW (s:gn):(small s).size=s.size:=Array.size_map ..
theorem WZ (s:gn) (j:Nat) (h:j < s.size):bt (small s) j=low (bt s j):=by
 have l:j < s.data.size:=h;have d:j < (small s).size:=by rw[rW];exact h
 unfold bt low;rw[xo h,xo d];show(((small s).data[j]'d).toNat:Int)=_;have e:(small s).data[j]'d=(if 65<=(s.data[j]).toNat/\(s.data[j]).toNat<=90 then s.data[j]+32 else s.data[j]):=by simp[small]
 rw[e];show _=(if 65<=((s.data[j]).toNat:Int)/\((s.data[j]).toNat:Int)<=90 then ((s.data[j]).toNat:Int)+32 else ((s.data[j]).toNat:Int));by_cases k:65<=(s.data[j]).toNat/\(s.data[j]).toNat<=90
 .rw[gN k,gN (by omega),UInt8.toNat_add];grind
 grind
def sF (g sz:Nat) (s:gn) (k:Nat) (w wr:gr):Prop:=
 (∃C:jE,wr.heap[g]?=some (.cells C 5 (sz,sz+1))/\C.size=sz/\∀j,j < s.size->C[j]?=some (.int .u8 (if j < k then low (bt s j)else bt s j)))/\Kept [] w wr
theorem sF.cell {k : Nat} (h:sF g sz s k w wr) (l:s.size<=sz) (j:Nat) (d:j < s.size):wr.cell? ⟨g,j,none⟩=some (.int .u8 (if j < k then low (bt s j)else bt s j))/\wr.frozen? ⟨g,j,none⟩=false:=by
 have⟨⟨C,hC,_,h⟩,_⟩:=h;exact⟨by rw[AB hC];grind,Lf hC j (by omega)⟩
theorem sF.MZ {k : Nat} (h:sF g sz s k w wr) (hl:low (bt s k)=bt s k):sF g sz s (k+1) w wr:=by
 grind[sF]
theorem sF.store {k : Nat} (h:sF g sz s k w wr) (hg:w.heap.size<=g) (l:k < sz):sF g sz s (k+1) w (wr.setCell ⟨g,k,none⟩ (.int .u8 (low (bt s k)))):=by
 have⟨⟨C,hC,hs,h⟩,hk⟩:=h;refine⟨⟨_,Dw hC k _,by grind,λj d=>?_⟩,hk.setCell (.inr hg) _⟩;grind
theorem vz (s:gn) (w:gr) (X:s.size<=1048576):
  Calls prog 240 #[gw s] w λe w'=>e=ir (gw (small s))/\Kept [] w w':=by
 have l:=run_bytes_of_string (P:=prog) w 9 53 5 s underlying9 underlying53 underlying5;obtain⟨cp,x⟩:∃cp,cp=grownCap w s.size 0 5:=⟨_,rfl⟩;rw[<-x]at l;clear x;have F:=A6 s cp;have z:∀j,j < s.size->(bytesRow s cp)[j]?=some (.int .u8 (bt s j)):=λj y=>by rw[bytesRow_at s cp j y,<-get_bt s j y];rfl
 generalize bytesRow s cp=R at l F z;obtain⟨u,h⟩:∃u,u=w.drew.alloc (.cells R 5 (R.size,R.size+1)):=⟨_,rfl⟩;rw[<-h]at l;have J:u.heap[w.heap.size]?=some (.cells R 5 (R.size,R.size+1)):=by rw[h];exact fQ w.drew _
 have I:Kept [] w u:=by rw[h];exact(Kept.refl [] w).drew.alloc _
 clear h;have N:Hid (sF w.heap.size R.size s 0 w u):=⟨⟨R,J,rfl,λj y=>by grind⟩,I⟩;clear J I z;generalize R.size=sz at *;go_enter func240,ntmps240;go_wp21;clear l
 go_loopw [10] (λi wr=>∃k:Nat,k<=s.size/\i=ga k/\sF w.heap.size sz s k w wr) (λi _=>s.size - (intOf i).toNat)
 case atStart=>exact⟨0,iP _,rfl,N⟩
 case round=>
  obtain⟨k,V,rfl,d⟩:=hrel;by_cases H:k < s.size
  .have⟨c1,f1⟩:=d.cell F k H;rw[gI (by omega)]at c1;have O:=bt_nonneg s k;have U:=bt_le s k;by_cases a:65<=bt s k
   .by_cases b:bt s k<=90;have C:=d.store (gW _) (by omega);have p:low (bt s k)=bt s k - 65+97:=by unfold low;rw[gN ⟨a,b⟩];omega
    rw[p]at C;clear p
    rotate_left
    have C:=d.MZ (by unfold low;omega)
    all_goals
     generalize bt s k=c at *;go_wp2;go_roundw
     case rel=>grind
     case measure=>simp[intOf];omega
   .have C:=d.MZ (by unfold low;omega);generalize bt s k=c at *;go_wp2;go_roundw
    case rel=>grind
    case measure=>simp[intOf];omega
  .have e:k=s.size:=by omega
   subst e;have G:(convert 53 9 (nI w.heap.size s.size cp)).run prog wr= .ok (gw (small s)) wr:=by
    have:=SU (P:=prog) wr 53 9 5 ⟨w.heap.size,0,none⟩ cp (small s).data.toList underlying53 underlying5 underlying9 (λj y=>by
     have q:j < s.size:=by have:=rW s;simp at y;have e:(small s).data.size=(small s).size:=rfl;omega
     rw[js];have:=(d.cell F j q).1;rw[gN q]at this;rw[this,<-WZ s j q,<-get_bt (small s) j (by simp_all)];rfl)
    have e2:(small s).data.toList.length=s.size:=by simp;exact rW s
    rw[e2]at this
    simpa using this
   have K:=d.2;go_wp2;go_ret;exact⟨rfl,K⟩
def qi (x y:Int) (nm:gn) (U:gG) (gx:lh) (w:gr) (hA:yi w U gx) (hn:gx.length<=4096) (P:∀a∈gx,a.2.size<=1048576):
  Calls prog 221 #[.agg #[ga x,ga y,gw nm,U]] w λe w'=>e=ir (.bool (ub gx))/\Kept [] w w':=by
 have⟨ao,cp,hav⟩:=gv hA;subst hav;obtain⟨G,p⟩:∃G,G=w.alloc (gy #[ga x,ga y,gw nm,.slice ao gx.length cp] 190):=⟨_,rfl⟩;have h:Kept [] w G:=by rw[p];exact(Kept.refl _ _).alloc _
 have V:=h.ownsRow hA (λ_ _=>by simp);have X:=fN p.symm;have Y:=P;clear p;obtain⟨R,K⟩:∃R,R=ub gx:=⟨_,rfl⟩;rw[<-K];have J:Hid (R=ub (gx.drop 0)):=fN K;clear K;go_enter func221,ntmps221;go_wp21;rw[X.out]
 go_loopw [8] (λv wr=>∃d:Nat,v=ga d/\d<=gx.length/\R=ub (gx.drop d)/\Kept [] G wr) (λv _=>gx.length - (intOf v).toNat)
 case atStart=>exact⟨0,rfl,iP _,J,Kept.refl _ _⟩
 case round=>
  obtain⟨d,rfl,Z,u,z⟩:=hrel;by_cases l:d < gx.length
  .obtain⟨g,rfl,c0,c1⟩:=yi.at2 (z.ownsRow V (λ_ _=>by simp)) l;have P:=Y gx[d] (ti l);rw[JI l]at u;have F:Hid (R=if kh gx[d].1 nE then kh (SB gx[d].2) lB else ub (gx.drop (d+1))):=fN u;have H:=fN z;clear z u;generalize gx[d].1=a at *;generalize gx[d].2=b at *;have C:=(λW=>vz b W P);have q:=H.alloc (gy #[gw a,gw b] 295);cases hq:kh a nE with
   |true=>
    have O:(a.toList==[116,121,112,101])=true:=by rw[<-hq];unfold kh;rw[sD (nE)]
    have k:=fN (show R=kh (SB b) lB by rw[F.out,hq];rfl);go_wp21;refine(C _).mono ?_;rintro e W3 ⟨rfl,N⟩;have I:=q.trans N;go_wp2;go_ret;refine⟨?_,h.trans I⟩;rw[k.out];unfold kh;rw[sD (lB)];rfl
   |false=>
    have O:(a.toList==[116,121,112,101])=false:=by rw[<-hq];unfold kh;rw[sD (nE)]
    have k:=fN (show R=ub (gx.drop (d+1)) by rw[F.out,hq];rfl);go_wp2;go_roundw
    case rel=>exact⟨d+1,by go_num,by omega,k,q⟩
    case measure=>simp[intOf];omega
  .have F:Hid (R=false):=fN (by rw[u,F7 (by omega)];rfl);have H:=fN z;clear z u;go_wp2;go_ret;exact⟨by rw[F.out];rfl,h.trans H⟩
def AZ (E:Env) (rec:Nat->gz->M Unit) (hA:∀(m:Nat) (t:gz),iY E t->iU E 161 (λ_=>#[Bp E,ga m,iA E t]) (rec m t) uV) (t:gz) (z:iY E t) (J:∀a∈t.jm,a.2.size<=1048576):iU E 123 (λ_=>#[Bp E,iA E t]) (kH rec t) uV:=by
 intro f x w h HS;have F:∃ao n cp,E.tv= .slice ao n cp:=by
  have⟨L,_,hr⟩:=h;have⟨ao,cp,e⟩:=gv hr.tok;exact⟨ao,_,cp,e⟩
 have I:=(λW=>x7 E t W F);have y:Hid (∀W,Kept [] w W->Calls prog 221 #[.agg (yT E t)] W λe W'=>e=ir (.bool (ub t.jm))/\Kept [] W W'):=fN (by
  intro W O;have⟨L,_,hr⟩:=h.ib O;have⟨a,b,k,gx⟩:=t;cases k with
  |start n=>
   have e:gx=E.ta:=z rfl;subst e;exact qi a b n E.tv E.ta W hr.tok hr.KG J
  |stop n=>
   have e:gx=E.ta:=z rfl;subst e;exact qi a b n E.tv E.ta W hr.tok hr.KG J
  |jW s=>exact qi 0 0 _ _ [] W (py _ _ _ _) (by simp) (by simp)
  |gJ s=>exact qi 0 0 _ _ [] W (py _ _ _ _) (by simp) (by simp)
  |iH n q=>exact qi 0 0 _ _ [] W (py _ _ _ _) (by simp) (by simp)
  |lost=>exact qi 0 0 _ _ [] W (py _ _ _ _) (by simp) (by simp)
  |ie=>exact qi 0 0 _ _ [] W (py _ _ _ _) (by simp) (by simp))
 obtain⟨R,l⟩:∃R,R=(kH rec t) x:=⟨_,rfl⟩;rw[<-l]at HS|-;unfold kH at l;have H:=At.start h;cases hq:ub t.jm with
 |true=>
  rw[hq]at y l;have p:Hid (R=(lr t>>=λ_=>(Pure.pure ():M Unit)) x):=fN l;clear l;generalize hav:yT E t=P at *;go_enter func123,ntmps123;go_wp21;refine(I _).mono ?_;rintro e G ⟨rfl,d⟩;have C:=y G d;replace H:=H.k0 d;go_wp21;refine C.mono ?_;rintro e w2 ⟨rfl,u⟩;replace H:=H.k0 u;go_wp21;refine dC (ve E (iF E) t z) H p HS rfl lT ?_;rintro(_) f x w H N K p;go_wp2;go_end0;exact fZ p H rfl
 |false=>
  rw[hq]at y l;have p:Hid (R=(sL rec t>>=λ_=>(Pure.pure ():M Unit)) x):=fN l;clear l;generalize hav:yT E t=P at *;go_enter func123,ntmps123;go_wp21;refine(I _).mono ?_;rintro e G ⟨rfl,d⟩;have C:=y G d;replace H:=H.k0 d;go_wp21;refine C.mono ?_;rintro e w2 ⟨rfl,u⟩;replace H:=H.k0 u;go_wp21;refine dC (Dc E rec hA t z) H p HS rfl lT ?_;rintro(_) f x w H N K p;go_wp2;go_end0;exact fZ p H rfl
def RH (E:Env) (t:gz):iU E 114 (λ_=>#[Bp E,iA E t]) (xF t) uV:=by
 refine dI λf l w R d HS H=>?_;unfold xF at d;go_enter func114,ntmps114;have⟨ta,tb,tao,tn,tcp,HTG⟩:=DL E t H.rel;have h:=λw=>Am ta tb t.name tao tn tcp w;go_wp21;refine(HTG _).mono ?_;rintro e u ⟨rfl,k⟩;replace H:=H.k0 k;go_wp21;refine dC (Hq E t.name) H d HS rfl lT ?_;rintro(_) f l w H q p d;go_wp2;go_end0;exact fZ d H rfl
def we (t:gz):Bool:=t.jm.all λa=>decide (a.2.size<=1048576)
def CV (f:Nat):Option (M Bool):=
 if f=128 then some tC else
 if f=135 then some endCell else
 if f=129 then some mD else
 if f=134 then some Ed else
 if f=140 then some vn else
 if f=131 then some qG else
 if f=121 then some xG else
 none
def Xr (E:Env) {f : Nat} {b:M Bool} (h:CV f=some b):jT E f (λ_=>#[Bp E]) b bV/\∀d w,(callFunc f d).run prog w= .ok (.enter f d) w:=by
 unfold CV at h;split at h
 .rename_i e;subst e;cases h;exact⟨MC E,enters_of func128 (by rfl) rfl⟩
 split at h
 .rename_i e;subst e;cases h;exact⟨U4 E,enters_of func135 (by rfl) rfl⟩
 split at h
 .rename_i e;subst e;cases h;exact⟨Ea E,enters_of func129 (by rfl) rfl⟩
 split at h
 .rename_i e;subst e;cases h;exact⟨Xt E,enters_of func134 (by rfl) rfl⟩
 split at h
 .rename_i e;subst e;cases h;exact⟨ON E,enters_of func140 (by rfl) rfl⟩
 split at h
 .rename_i e;subst e;cases h;exact⟨Hs E,enters_of func131 (by rfl) rfl⟩
 split at h
 .rename_i e;subst e;cases h;exact⟨RL E,enters_of func121 (by rfl) rfl⟩
 cases h
def Pp (lk:Bool) (kR rec:Nat->gz->M Unit) (t:gz) (f:Nat):M Unit:=
 if f=103 then AF else
 if f=109 then yx else
 if f=199 then yt else
 if f=202 then tD else
 if f=203 then AG else
 if f=204 then OL else
 if f=205 then ut else
 if f=206 then yu else
 if f=208 then sq else
 if f=145 then Hp else
 if f=142 then mO else
 if f=141 then jf else
 if f=90 then oi t else
 if f=93 then xW t else
 if f=97 then xX t else
 if f=105 then tR t else
 if f=99 then jR t else
 if f=100 then lr t else
 if f=110 then nB t else
 if f=112 then lw t else
 if f=194 then sB t else
 if f=183 then mV t else
 if f=184 then wh t else
 if f=185 then ob t else
 if f=186 then wP t else
 if f=187 then tT t else
 if f=189 then oX t else
 if f=190 then rZ t else
 if f=192 then oZ t else
 if f=193 then qq t else
 if f=195 then qR t else
 if f=196 then iQ t else
 if f=197 then sy t else
 if f=198 then oY t else
 if f=201 then xD t else
 if f=114 then xF t else
 if f=207 then pM t else
 if f=116 then pu t else
 if f=133 then qQ t else
 if f=122 then mc t else
 if f=136 then pg t else
 if f=137 then jP t else
 if f=138 then jp t else
 if f=139 then lG t else
 if f=101 then tV t else
 if f=102 then oK t else
 if f=191 then pQ t else
 if f=181 then oz t else
 if f=182 then qd t else
 if f=91 then lE rec t else
 if f=94 then oR rec t else
 if f=98 then oS rec t else
 if f=104 then nw rec t else
 if f=107 then nk rec t else
 if f=106 then tu rec t else
 if f=108 then Cy rec t else
 if f=200 then yv rec t else
 if f=237 then vG rec t else
 if f=125 then sL rec t else
 if f=115 then oQ rec t else
 if f=123 then (if we t then kH rec t else stuck)else
 if f=126 then (if lk then stuck else oC t)else
 if f=127 then (if lk then stuck else mj kR rec t)else
 stuck
theorem la {t : gz} {f k : Nat} {a b:M Unit} (d:lQ E (.gZ k) t a) (h:lQ E (.gZ f) t b):lQ E (.gZ f) t (if f=k then a else b):=by
 grind
section
variable (E:Env) (lk:Bool) (hl:lk=false->E.wv=none) (hi:E.Eh=7) (kR rec:Nat->gz->M Unit)
variable (hAL:∀v ws (m:Nat) (t:gz),iY E t->iU (E.lock v ws) 161 (λ_=>#[Bp E,.int .i64 (m:Int),iA E t]) (kR m t) uV)
variable (hA:∀(m:Nat) (t:gz),iY E t->iU E 161 (λ_=>#[Bp E,.int .i64 (m:Int),iA E t]) (rec m t) uV)
include hl hi hAL hA
theorem aat (f:Nat) (t:gz) (d:iY E t):lQ E (.gZ f) t (Pp lk kR rec t f):=by
 unfold Pp;refine la (iN E t _ _ (enters_of func103 (by rfl) rfl) (K9 E t)) ?_;refine la (iN E t _ _ (enters_of func109 (by rfl) rfl) (La E t)) ?_;refine la (iN E t _ _ (enters_of func199 (by rfl) rfl) (U2 E t)) ?_;refine la (iN E t _ _ (enters_of func202 (by rfl) rfl) (MD E t)) ?_;refine la (iN E t _ _ (enters_of func203 (by rfl) rfl) (U7 E t)) ?_;refine la (iN E t _ _ (enters_of func204 (by rfl) rfl) (acF E t)) ?_;refine la (iN E t _ _ (enters_of func205 (by rfl) rfl) (Rz E (iF E) t)) ?_;refine la (iN E t _ _ (enters_of func206 (by rfl) rfl) (U5 E t)) ?_;refine la (iN E t _ _ (enters_of func208 (by rfl) rfl) (OI E t)) ?_;refine la (iN E t _ _ (enters_of func145 (by rfl) rfl) (Xp E t)) ?_;refine la (iN E t _ _ (enters_of func142 (by rfl) rfl) (AW E t)) ?_;refine la (iN E t _ _ (enters_of func141 (by rfl) rfl) (zt E t)) ?_;refine la (iN E t _ _ (enters_of func90 (by rfl) rfl) (Gm E t)) ?_;refine la (iN E t _ _ (enters_of func93 (by rfl) rfl) (Qi E t d)) ?_;refine la (iN E t _ _ (enters_of func97 (by rfl) rfl) (Qj E (iF E) t d)) ?_;refine la (iN E t _ _ (enters_of func105 (by rfl) rfl) (Qf E (iF E) t d)) ?_;refine la (iN E t _ _ (enters_of func99 (by rfl) rfl) (vc E (iF E) t)) ?_;refine la (iN E t _ _ (enters_of func100 (by rfl) rfl) (ve E (iF E) t d)) ?_;refine la (iN E t _ _ (enters_of func110 (by rfl) rfl) (Mt E (iF E) t)) ?_;refine la (iN E t _ _ (enters_of func112 (by rfl) rfl) (qS E (iF E) t d)) ?_;refine la (iN E t _ _ (enters_of func194 (by rfl) rfl) (Qn E (iF E) t d)) ?_;refine la (iN E t _ _ (enters_of func183 (by rfl) rfl) (vk E (iF E) t d)) ?_;refine la (iN E t _ _ (enters_of func184 (by rfl) rfl) (SG E (iF E) t d)) ?_;refine la (iN E t _ _ (enters_of func185 (by rfl) rfl) (Ji E (iF E) t d)) ?_;refine la (iN E t _ _ (enters_of func186 (by rfl) rfl) (VX E (iF E) t d)) ?_;refine la (iN E t _ _ (enters_of func187 (by rfl) rfl) (Qh E t d)) ?_;refine la (iN E t _ _ (enters_of func189 (by rfl) rfl) (Kw E t d)) ?_;refine la (iN E t _ _ (enters_of func190 (by rfl) rfl) (ND E t d)) ?_;refine la (iN E t _ _ (enters_of func192 (by rfl) rfl) (Kz E (iF E) t d)) ?_;refine la (iN E t _ _ (enters_of func193 (by rfl) rfl) (KE E t d)) ?_;refine la (iN E t _ _ (enters_of func195 (by rfl) rfl) (Qk E t d)) ?_;refine la (iN E t _ _ (enters_of func196 (by rfl) rfl) (oa E t d)) ?_;refine la (iN E t _ _ (enters_of func197 (by rfl) rfl) (Ql E t d)) ?_;refine la (iN E t _ _ (enters_of func198 (by rfl) rfl) (Ky E (iF E) t d)) ?_;refine la (iN E t _ _ (enters_of func201 (by rfl) rfl) (Rx E t)) ?_;refine la (iN E t _ _ (enters_of func114 (by rfl) rfl) (RH E t)) ?_;refine la (iN E t _ _ (enters_of func207 (by rfl) rfl) (Gb E t)) ?_;refine la (iN E t _ _ (enters_of func116 (by rfl) rfl) (Jh E (iF E) t d)) ?_;refine la (iN E t _ _ (enters_of func133 (by rfl) rfl) (Qg E t d)) ?_;refine la (iN E t _ _ (enters_of func122 (by rfl) rfl) (B8 E t d)) ?_;refine la (iN E t _ _ (enters_of func136 (by rfl) rfl) (G1 E (iF E) t)) ?_;refine la (iN E t _ _ (enters_of func137 (by rfl) rfl) (zx E (iF E) t d)) ?_;refine la (iN E t _ _ (enters_of func138 (by rfl) rfl) (sA E (iF E) t d)) ?_;refine la (iN E t _ _ (enters_of func139 (by rfl) rfl) (DH E (iF E) t d)) ?_;refine la (iN E t _ _ (enters_of func101 (by rfl) rfl) (by exact F1 E hi t d)) ?_;refine la (iN E t _ _ (enters_of func102 (by rfl) rfl) (by exact EI E hi t d)) ?_;refine la (iN E t _ _ (enters_of func191 (by rfl) rfl) (by exact Gp E hi t d)) ?_;refine la (iN E t _ _ (enters_of func181 (by rfl) rfl) (by exact RP E t (λi=>XI E t d i))) ?_;refine la (iN E t _ _ (enters_of func182 (by rfl) rfl) (by exact RO E t (λi=>XI E t d i))) ?_;refine la (iN E t _ _ (enters_of func91 (by rfl) rfl) (zy E rec hA t d)) ?_;refine la (iN E t _ _ (enters_of func94 (by rfl) rfl) (Ke E rec hA t d)) ?_;refine la (iN E t _ _ (enters_of func98 (by rfl) rfl) (Kf E (iF E) rec hA t d)) ?_;refine la (iN E t _ _ (enters_of func104 (by rfl) rfl) (BB E rec hA t d)) ?_;refine la (iN E t _ _ (enters_of func107 (by rfl) rfl) (Kc E (iF E) rec hA t d)) ?_;refine la (iN E t _ _ (enters_of func106 (by rfl) rfl) (Mm E rec hA t d)) ?_;refine la (iN E t _ _ (enters_of func108 (by rfl) rfl) (UZ E rec hA t d)) ?_;refine la (iN E t _ _ (enters_of func200 (by rfl) rfl) (U6 E rec hA t d)) ?_;refine la (iN E t _ _ (enters_of func237 (by rfl) rfl) (Ml E rec hA t d)) ?_;refine la (iN E t _ _ (enters_of func125 (by rfl) rfl) (Dc E rec hA t d)) ?_;refine la (iN E t _ _ (enters_of func115 (by rfl) rfl) (JT E rec hA t d)) ?_;by_cases e:f=123
 .rw[gN e];subst e;refine iN E t _ _ (enters_of func123 (by rfl) rfl) ?_;by_cases k:we t=true
  .rw[gN k];exact AZ E rec hA t d (λa l=>by unfold we at k;grind)
  .rw[gI k];exact λ_ _ _ _ h=>absurd rfl h
 rw[gI e];clear e;by_cases e:f=126
 .rw[gN e];subst e;refine iN E t _ _ (enters_of func126 (by rfl) rfl) ?_
  (cases lk with
   |true=>exact λ_ _ _ _ h=>absurd rfl h
   |false=>exact RZ E (hl rfl) t)
 rw[gI e];clear e;by_cases e:f=127
 .rw[gN e];subst e;refine iN E t _ _ (enters_of func127 (by rfl) rfl) ?_
  (cases lk with
   |true=>exact λ_ _ _ _ h=>absurd rfl h
   |false=>exact Hu E (hl rfl) kR rec hAL hA t d)
 rw[gI e];grind[lQ,stuck]
end
def sI:M (Nat×Nat):=λd=>match io d.gq 0 with
 |some i=>jt i d
 |none=> .stuck
def xC (d:Nat) (own:Bool) (t:gz):M Unit:=
 if d=95/\own=true then nO mU t else
 if d=144/\own=true then nO sI t else
 if d=89/\own=false then nO (jt 0) t else
 stuck
def Kq {σ σ1:Ab} {pl : Nat×Nat} (h:placeFor i σ= .ok pl σ1):σ1=σ:=by
 unfold placeFor at h;split at h
 .exact oy h
 .exact pj h
theorem qF (i:Nat) (σ:Ab) (c p:Nat):jt i σ≠ .stop c p:=by
 grind[jt]
theorem zh (i:Nat) (σ:Ab) (c p:Nat):mF i σ≠ .stop c p:=by
 intro h;unfold mF at h;split at h
 .split at h
  .grind
  .split at h
   .exact qF _ _ _ _ h
   grind
 grind
theorem vN (σ:Ab) (c p:Nat):jO σ≠ .stop c p:=by
 intro h;unfold jO at h;split at h
 .split at h
  .exact zh _ _ _ _ h
  .cases h
  .split at h
   .exact qF _ _ _ _ h
   grind
 grind
theorem Kr (E:Env):Cl E 95 true mU where
 Xv:=enters_of func95 (by rfl) rfl
 same:=by
  intro d q l h;unfold mU at h;split at h
  .exact Kq h
  grind
 Nc:=by
  intro d c p h;unfold mU at h;split at h
  .unfold placeFor at h;split at h
   .exact vN _ _ _ h
   .exact qF _ _ _ _ h
  grind
 Z0:=λf d w h k=>GF E (iF E) f d w h k
def OB (E:Env):Cl E 89 false (jt 0) where
 Xv:=enters_of func89 (by rfl) rfl
 same:=λ_ _ _ h=>pj h
 Nc:=λd c p=>qF 0 d c p
 Z0:=λf d w h k=>Fv E 0 f d w h k
theorem MO (E:Env):Cl E 144 true sI where
 Xv:=enters_of func144 (by rfl) rfl
 same:=by
  intro k q l h;unfold sI at h;split at h
  .exact pj h
  grind
 Nc:=by
  intro k c p h;unfold sI at h;split at h
  .exact qF _ _ _ _ h
  grind
 Z0:=by
  intro f k w h d;unfold sI at d|-;cases hq:io k.gq 0 with
  |none=>rw[hq]at d;exact absurd rfl d
  |some i=>
   rw[hq]at d;exact OJ E i h hq d
def ZX (E:Env) (k:Nat) (own:Bool) (t:gz):lQ E (.gJ k own) t (xC k own t):=by
 have d:∀l,Cl E k own l->lQ E (.gJ k own) t (nO l t):=by
  intro l p v f x w h u q;have⟨b1,e,hb⟩:=u;exact⟨_,_,_,e,enters_of func164 (by rfl) rfl,Ro E k own l p t b1 h q hb⟩
 unfold xC;split
 .rename_i e;have⟨e1,e2⟩:=e;subst e1;subst e2;exact d _ (Kr E)
 split
 .rename_i e;have⟨e1,e2⟩:=e;subst e1;subst e2;exact d _ (MO E)
 split
 .rename_i e;have⟨e1,e2⟩:=e;subst e1;subst e2;exact d _ (OB E)
 exact yS E _ t
def pk (lk:Bool) (kR rec:Nat->gz->M Unit):Ru->gz->M Unit
 | .nil,_=>stuck
 | .nothing,_=>Pure.pure ()
 | .gZ f,t=>Pp lk kR rec t f
 | .pd m,t=>if 0<=m then rec m.toNat t else stuck
 | .gJ pf own,t=>xC pf own t
 | .ahead f,t=>match CV f with
  |some b=>wY rec b t
  |none=>stuck
 | .ends f,_=>match CV f with
  |some b=>C6 b
  |none=>stuck
 | .MR r,t=>J9 (pk lk kR rec r t) t
 | .rp ks m,t=>if 0<=m then um ks m.toNat t else stuck
 | .nF ks name m,t=>if 0<=m then pF rec ks name m.toNat t else stuck
 | .item ks,t=>FI ks t
section
variable (E:Env) (lk:Bool) (hl:lk=false->E.wv=none) (hi:E.Eh=7) (kR rec:Nat->gz->M Unit)
variable (hAL:∀v ws (m:Nat) (t:gz),iY E t->iU (E.lock v ws) 161 (λ_=>#[Bp E,.int .i64 (m:Int),iA E t]) (kR m t) uV)
variable (hA:∀(m:Nat) (t:gz),iY E t->iU E 161 (λ_=>#[Bp E,.int .i64 (m:Int),iA E t]) (rec m t) uV)
include hl hi hAL hA
def O0 (t:gz) (p:iY E t):∀r,lQ E r t (pk lk kR rec r t)
 | .nil=>yS E _ t
 | .nothing=>VB E t
 | .gZ f=>aat E lk hl hi kR rec hAL hA f t p
 | .pd m=>by
  show lQ E (.pd m) t (if 0<=m then rec m.toNat t else stuck);split
  .rename_i q;intro v f x w h l d;have⟨b1,b2,e,hb1,hb2⟩:=l;have y:m=((m.toNat:Nat):Int):=by omega
   rw[y]at hb2;exact⟨_,_,_,e,enters_of func170 (by rfl) rfl,ZM E rec hA t p m.toNat b1 b2 h d hb1 hb2⟩
  .exact yS E _ t
 | .gJ pf own=>ZX E pf own t
 | .ahead k=>by
  show lQ E (.ahead k) t (match CV k with|some b=>wY rec b t|none=>stuck)
  cases hb:CV k with
  |none=>exact yS E _ t
  |some b=>
   intro v f x w h l d;have⟨b1,b2,e,hb1,hb2⟩:=l;have⟨q,he⟩:=Xr E hb;exact⟨_,_,_,e,enters_of func217 (by rfl) rfl,MF E rec hA t p b k q he b1 b2 h d hb1 hb2⟩
 | .ends k=>by
  show lQ E (.ends k) t (match CV k with|some b=>C6 b|none=>stuck)
  cases hb:CV k with
  |none=>exact yS E _ t
  |some b=>
   intro v f x w h l d;have⟨b1,e,hb1⟩:=l;have⟨q,he⟩:=Xr E hb;exact⟨_,_,_,e,enters_of func222 (by rfl) rfl,Z4 E t b k q he b1 h d hb1⟩
 | .MR r=>by
  intro v f x w h l d;have⟨b1,b2,u,e,hb1,hb2,hu⟩:=l;exact⟨_,_,_,e,enters_of func227 (by rfl) rfl,MQ E t r _ (O0 t p r) b1 b2 u h d hb1 hb2 hu⟩
 | .rp ks m=>by
  show lQ E (.rp ks m) t (if 0<=m then um ks m.toNat t else stuck);split
  .rename_i q;intro v f x w h l d;have⟨b1,b2,b3,u,e,hb1,hb2,ha,hb3⟩:=l;have y:m=((m.toNat:Nat):Int):=by omega
   rw[y]at hb3;obtain⟨k,z,rfl,_,_⟩:=ha.call;exact⟨_,_,_,e,enters_of func214 (by rfl) rfl,F2 E t p ks m.toNat b1 b2 b3 k z h d hb1 hb2 ha hb3⟩
  .exact yS E _ t
 | .nF ks name m=>by
  show lQ E (.nF ks name m) t (if 0<=m then pF rec ks name m.toNat t else stuck);split
  .rename_i q;intro v f x w h l d;have⟨b1,b2,b3,b4,u,e,hb1,hb2,ha,hb3,hb4⟩:=l;have y:m=((m.toNat:Nat):Int):=by omega
   rw[y]at hb4;obtain⟨k,z,rfl,_,_⟩:=ha.call;exact⟨_,_,_,e,enters_of func216 (by rfl) rfl,by first|exact De E rec hA t p ks name m.toNat b1 b2 b3 b4 k z h d hb1 hb2 ha hb3 hb4|exact De E rec hA t p ks name m.toNat b1 b2 b3 b4 k z h d hb1 hb2 hb3 hb4 ha⟩
  .exact yS E _ t
 | .item ks=>by
  intro v f x w h l d;have⟨b1,b2,b3,u1,u2,e,hb1,hb2,ha1,hb3,ha2⟩:=l;obtain⟨G,C,rfl,_,_⟩:=ha1.call;obtain⟨H,F,rfl,_,_⟩:=ha2.call;exact⟨_,_,_,e,enters_of func271 (by rfl) rfl,NA E t p ks b1 b2 b3 G H C F h d hb1 hb2 ha1 hb3 ha2⟩
end
def gR:Bool->Nat->Nat->gz->M Unit
 |_,0,_,_=>stuck
 |lk,n+1,m,t=>match t.k with
  | .lost=>stuck
  |_=>asM (pk lk (gR true n) (gR lk n)) m t
theorem ade (E:Env) (N:∃x m c,E.tv= .slice x m c) (t:gz) (h:t.k≠ .lost):abF E t:=by
 have⟨a,b,k,gx⟩:=t;cases k with
 |jW s=>exact λd l p u y z C F G H I J K w hr=>aaE E d l a b s gx p u y z C F G H I J K w hr
 |ie=>exact λd l p u y z C F G H I J K w hr=>Sj E d l a b gx p u y z C F G H I J K w hr
 |start n=>exact λd l p u y z C F G H I J K w hr=>Yx E d l a b n gx p u y z C F G H I J K w hr N
 |stop n=>exact λd l p u y z C F G H I J K w hr=>aaF E d l a b n gx p u y z C F G H I J K w hr N
 |gJ s=>exact λd l p u y z C F G H I J K w hr=>Sg E d l a b s gx p u y z C F G H I J K w hr
 |iH n q=>exact λd l p u y z C F G H I J K w hr=>Sh E d l a b n q gx p u y z C F G H I J K w hr
 |lost=>grind
def Jr (lk:Bool) (n m:Nat) (t:gz) (h:t.k≠ .lost):gR lk (n+1) m t=asM (pk lk (gR true n) (gR lk n)) m t:=by
 simp[gR]
def NL:∀(n:Nat) (lk:Bool) (E:Env),(lk=false->E.wv=none)->E.Eh=7->(∃x m c,E.tv= .slice x m c)->∀(m:Nat) (t:gz),iY E t->iU E 161 (λ_=>#[Bp E,ga m,iA E t]) (gR lk n m t) uV
 |0,_,_,_,_,_,_,_,_=>λ_ _ _ _ l=>absurd rfl l
 |n+1,lk,E,hl,hi,htv,m,t,p=>by
  by_cases d:t.k= .lost
  .have e:gR lk (n+1) m t=stuck:=by
    have⟨a,b,k,gx⟩:=t;cases d;rfl
   rw[e];exact λ_ _ _ _ l=>absurd rfl l
  .rw[Jr lk n m t d];exact Y2 E _ t (ade E htv t d) (λr=>O0 E lk hl hi (gR true n) (gR lk n) (λv ws m t p=>NL n true (E.lock v ws) (λh=>by cases h) hi htv m t p) (NL n lk E hl hi htv) t p r) m
def Uy (E:Env) (rec:Nat->gz->M Unit) (a b:Nat) (gx:lh):iU E 47 (λ_=>#[Bp E,iA E ⟨a,b,.lost,gx⟩]) (qV rec ⟨a,b,.lost,gx⟩) uV:=by
 intro f l w h p;have k:qV rec ⟨a,b,.lost,gx⟩ l= .ok () l:=rfl;rw[k];simp only[iA];have d:=qt underlying186;have H:=fN ((At.start h).k0 ((Kept.refl [] w).alloc (gy #[ga a,ga b] 186)));clear h p k;go_enter func47,ntmps47;go_wp2;go_end0;exact fZ rfl H.out rfl
section
variable (lk:Bool) (kR rec:Nat->gz->M Unit) (t:gz)
end
def WG (E:Env) (hl:E.wv=none) (hi:E.Eh=7) (h:∃x m c,E.tv= .slice x m c) (n:Nat) (t:gz) (d:iY E t):iU E 47 (λ_=>#[Bp E,iA E t]) (qV (gR false n) t) uV:=by
 have hA:=NL n false E (λ_=>hl) hi h;have⟨a,b,k,gx⟩:=t;cases k with
 |jW s=>exact xx E _ hA _ d nofun rfl (by decide) λw=>by kernel_rfl
 |start s=>exact xx E _ hA _ d nofun rfl (by decide) λw=>by generalize E.tv=x;kernel_rfl
 |stop s=>exact xx E _ hA _ d nofun rfl (by decide) λw=>by generalize E.tv=x;kernel_rfl
 |gJ s=>exact xx E _ hA _ d nofun rfl (by decide) λw=>by kernel_rfl
 |iH s q=>exact xx E _ hA _ d nofun rfl (by decide) λw=>by kernel_rfl
 |lost=>exact Uy E _ a b gx
 |ie=>exact xx E _ hA _ d nofun rfl (by decide) λw=>by kernel_rfl
def yM (r:Nat) (s:gn) (w:gr) (l:s.size<=1048576) (hg:Gl w r):
  Calls prog 247 #[gw s] w λe w'=>e=ir (gw (oq (small s)))/\Kept [] w w':=by
 have p:=hg;go_enter func247,ntmps247;go_wp21;refine(vz s w l).mono ?_;rintro e q ⟨rfl,k⟩;have C:=xO r (small s) q (by rw[rW];exact l) (p.kept (k.mono (by simp)));go_wp21;refine C.mono ?_;rintro e w2 ⟨rfl,h⟩;have d:=k.trans h;go_wp2;go_ret;exact⟨rfl,d⟩
theorem yX (r:Nat) (R:RC) (d ps:Nat) (s:gn) (w:gr) (h:Rd w r R d ps) (u:ps<=R.cs.size) (x:R.cs.size<=1024):
  Calls prog 248 #[gF r,.func (.func 250) #[] #[gF w.heap.size]] (w.alloc (.cells #[gw s] 9))
   λe w'=>e=ir (gw (R.cs.extract ps (scan (jl s) R.cs ps)))/\Kept [r] w w'/\Rd w' r R d (scan (jl s) R.cs ps):=by
 have hr:=je h;have k:Kept [] w (w.alloc (.cells #[gw s] 9)):=(Kept.refl _ _).alloc _;have b:=fQ w (.cells #[gw s] 9);refine(QD r R d ps _ _ _ _ (k.at h (by simp)) u x (Bs _ [r] w.heap.size s (by simp) (by simp) (by grind))).mono ?_;rintro e w' ⟨l,p,q⟩;exact⟨l,(k.mono (by simp)).trans p,q⟩
def Im (r:Nat) (R:RC) (u ps:Nat) (k:Nat) (d:jE) (q:Int->Bool) (w:gr) (h:Rd w r R u ps) (P:ps<=R.cs.size) (U:R.cs.size<=1024) (N:Us w [r] k d q):
  Calls prog 151 #[gF r,.func (.func k) #[] d] w λe w'=>e=ir (.bool (decide (ps < R.cs.size)&&q (bt R.cs ps)))/\∃n,w'=w.drewN n:=by
 have z:=N;have t:=h.text;have p:=h.ps;have H:=h;have y:=get_bt R.cs;have F:=z.Xv;have C:=(λw' (h:Rd w' r R u ps)=>ox r R u ps w' h);by_cases e:ps=R.cs.size
 .have x:decide (ps=R.cs.size)=true:=by simp[e]
  rw[x]at C;go_enter func151,ntmps151;go_wp21
  go_quiet ((go_at_call 77;refine xn (C _ ?_);exact H))
  go_wp2;go_ret;exact⟨by simp[e],⟨_,rfl⟩⟩
 .have l:ps < R.cs.size:=by omega
  have x:decide (ps=R.cs.size)=false:=by simp[e]
  rw[x]at C;have O:=y ps l;have J:=bt_nonneg R.cs ps;have K:=bt_le R.cs ps;have D:=(λw' h=>z.ask (bt R.cs ps) w' J K h);have I:(decide (ps < R.cs.size)&&q (bt R.cs ps))=q (bt R.cs ps):=by simp[l]
  rw[I];have G:Hid (∀n,Kept [r] w (w.drewN n)):=λn=>(Kept.refl _ _).drewN n;cases hqv:q (bt R.cs ps)
  all_goals
   rw[hqv]at D;go_enter func151,ntmps151;go_wp21
   go_quiet (first|(go_at_call 77;refine xn (C _ ?_);exact H)|(refine xn (D _ ?_);exact G _))
   go_wp2;go_ret;exact⟨rfl,⟨_,rfl⟩⟩
def zi (R:RC) (s:gn) (ps:Nat):Bool:=decide (s.size<=R.cs.size - ps)&&((small ((R.cs.extract ps R.cs.size).extract 0 s.size)).toList==s.toList)
theorem YG (t:gn) (n:Nat) (h:n<=t.size):pre t (t.extract 0 n)=true:=by
 have e:(t.extract 0 n).size=n:=by simp;omega
 grind[pre]
def Qx (r:Nat) (R:RC) (p ps:Nat) (s:gn) (w:gr) (h:Rd w r R p ps) (N:ps<=R.cs.size) (O:R.cs.size<=1024) (V:s.size<=1024):
  Calls prog 156 #[gF r,gw s] w λe w'=>e=ir (.bool (zi R s ps))/\Kept [r] w w'/\Rd w' r R p (if zi R s ps=true then ps+s.size else ps):=by
 have H:=h;obtain⟨t,z⟩:∃t,t=R.cs.extract ps R.cs.size:=⟨_,rfl⟩;have x:t.size=R.cs.size - ps:=by rw[z];simp
 have k:=vY r R p ps w H N O;rw[<-z]at k;have y:=fN z;clear z;by_cases e1:s.size<=t.size
 .have U:(t.extract 0 s.size).size=s.size:=by simp;omega
  cases e2:((small (t.extract 0 s.size)).toList==s.toList)
  .have I:zi R s ps=false:=by unfold zi;rw[<-y.out,e2];simp
   rw[I];go_enter func156,ntmps156;go_wp21;refine k.mono ?_;rintro e P ⟨rfl,q,rfl⟩;go_wp21;refine(vz _ _ (by omega)).mono ?_;rintro e w2 ⟨rfl,d⟩;generalize small (t.extract 0 s.size)=u at *;go_wp2;go_ret;exact⟨rfl,((Kept.refl [r] w).drewN q).trans (d.mono (by simp)),d.at (show Rd (w.drewN q) r R p ps from H) (by simp)⟩
  .have I:zi R s ps=true:=by unfold zi;rw[<-y.out,e2,<-x];simp[e1]
   rw[I];go_enter func156,ntmps156;go_wp21;refine k.mono ?_;rintro e P ⟨rfl,q,rfl⟩;go_wp21;refine(vz _ _ (by omega)).mono ?_;rintro e w2 ⟨rfl,d⟩;have J:Rd w2 r R p ps:=d.at (show Rd (w.drewN q) r R p ps from H) (by simp);have G:=lx r R p ps (t.extract 0 s.size) w2 J N O (by omega);have l:=YG t s.size e1;rw[<-y.out,l]at G;have K:taken R (t.extract 0 s.size) ps=ps+s.size:=by unfold taken;rw[<-y.out,gN l,U]
   rw[K]at G;generalize small (t.extract 0 s.size)=u at *;go_wp21;refine G.mono ?_;rintro e Y ⟨rfl,C,F⟩;go_wp2;go_ret;exact⟨rfl,(((Kept.refl [r] w).drewN q).trans (d.mono (by simp))).trans C,F⟩
 .have X:zi R s ps=false:=by unfold zi;rw[<-x];simp[e1]
  rw[X];go_enter func156,ntmps156;go_wp21;refine k.mono ?_;rintro e P ⟨rfl,q,rfl⟩;go_wp2;go_ret;exact⟨rfl,((Kept.refl [r] w).drewN q),H⟩
def jZ (R:RC) (ps:Nat):Nat:=scan (jl pB) R.cs (ps+1)
def Cp (r:Nat) (R:RC) (H ps:Nat) (w:gr) (h:Rd w r R H ps) (V:ps < R.cs.size) (U:R.cs.size<=1024) (hg:Gl w r):
  Calls prog 327 #[gF r] w λe w'=>e=ir (gw (oq (small (R.cs.extract ps (jZ R ps)))))/\Kept [r] w w'/\Rd w' r R H (jZ R ps):=by
 have p:=h.ps;have N:=h.free 3;have J:=hg;have y:=h.LN (ps+1);have u:=(Kept.refl [r] w).setCell (p:=⟨r,3,none⟩) (.inl (by simp)) (ga ((ps+1:Nat)));clear h hg;obtain⟨G,l⟩:∃G,G=w.setCell ⟨r,3,none⟩ (ga ((ps+1:Nat))):=⟨_,rfl⟩;rw[<-l]at y u;have d:w.setCell ⟨r,3,none⟩ (ga ((ps:Int)+1))=G:=by rw[l];congr 1
 have I:=fN d;clear l d;have C:=yX r R H (ps+1) pB G y (by omega) U;rw[show scan (jl pB) R.cs (ps+1)=jZ R ps from rfl]at C;have P:jZ R ps<=R.cs.size:=pt (by omega);have O:ps+1<=jZ R ps:=sQ;generalize jZ R ps=n at *;go_enter func327,ntmps327;go_wp21;rw[I.out];clear p N;refine(oG _ G).mono ?_;rintro e w' ⟨rfl,rfl⟩;go_wp21;refine C.mono ?_;rintro e w2 ⟨rfl,z,k⟩;have Y:=k.text;have X:=k.ps;have x:=u.trans z;have D:=(λq=>yM r (R.cs.extract ps n) (w2.drewN q) (by simp;omega) (show Gl (w2.drewN q) r from J.kept (x.drewN q)));clear z C;generalize hm:oq (small (R.cs.extract ps n))=m at D|-;have K:=fN hm;clear hm;go_wp21
 go_region_with (refine(D _).mono ?_;rintro e Z ⟨rfl,F⟩)
 all_goals (try go_wp2)
 all_goals
  (go_ret
   exact⟨by rw[K.out];rfl,x.trans (((Kept.refl [r] w2).drewN 1).trans (F.mono (by simp))),F.at (show Rd (w2.drewN 1) r R H n from k) (by simp)⟩)
def toList_eq {a b : gn} (h:a.toList=b.toList):a=b:=by
 rw[sD,sD]at h;exact Cg (Array.toList_inj.1 h)
def Mo (h:a+j < b) (k:b<=s.size):bt (s.extract a b) j=bt s (a+j):=by
 have d:j < (s.extract a b).size:=by simp;omega
 unfold bt;rw[xo d,xo (by omega)];rw[ByteArray.getElem_extract]
def D5 {p : gn} (h:pre (s.extract ps s.size) p=true) (l:j < p.size):bt s (ps+j)=bt p j:=by
 have d:=Ew h;unfold pre at h;simp only[qx,Aw,beq_iff_eq]at h;have e:=toList_eq h.2;have q:ps+j < s.size:=by simp at d;omega
 have k:=Mo (s:=s.extract ps s.size) (a:=0) (b:=p.size) (j:=j) (by omega) d;rw[e,Nat.zero_add,Mo (by omega) (gW _)]at k;omega
def qY (R:RC) (ps:Nat):Nat:=taken R iO (scan (jl iO) R.cs ps)
def Ic (h:ps<=R.cs.size):qY R ps<=R.cs.size:=QA (pt h)
def XJ:ps<=qY R ps:=jH sQ Qz
def tJ (r:Nat) (R:RC) (d ps g u:Nat) (k:Nat->Nat) (w:gr) (h:Rd w r R d ps) (hA:KM w r R g u k) (hG:Gl w r) (Z:d<=R.cs.size) (P:ps<=R.cs.size) (U:R.cs.size<=1024):
  Calls prog 159 #[gF r] w λe w'=>e=ir (.iface 194 (.agg #[ga (k d),ga (k (qY R ps)),gw (oq (R.cs.extract ps (scan (jl iO) R.cs ps)))]))/\Kept [r] w w'/\Rd w' r R d (qY R ps):=by
 have C:=yX r R d ps iO w h P U;have X:=hA;have Y:=hG;have O:scan (jl iO) R.cs ps<=R.cs.size:=pt P;have D:=(λ(w2:gr) (hr:Rd w2 r R d (scan (jl iO) R.cs ps))=>lx r R d _ iO w2 hr O U (by decide));rw[show taken R iO (scan (jl iO) R.cs ps)=qY R ps from rfl]at D;have z:qY R ps<=R.cs.size:=Ic P;generalize qY R ps=m at *;generalize scan (jl iO) R.cs ps=n at *;go_enter func159,ntmps159;go_wp21;refine(oG _ w).mono ?_;rintro e w' ⟨rfl,rfl⟩;go_wp21;refine C.mono ?_;rintro e w2 ⟨rfl,G,I⟩;go_wp21;refine(D _ I).mono ?_;rintro e w3 ⟨rfl,N,q⟩;have l:=G.trans N;have E:=pN r R d m g u k w3 q (X.kept l) Z z U;go_wp21;refine E.mono ?_;rintro e V ⟨rfl,x⟩;have p:=l.trans (x.mono (by simp));have J:Hid (Rd V r R d m):=q.kept x (by simp);have F:=xO r (R.cs.extract ps n) V (by simp;omega) (Y.kept p);go_wp21;refine F.mono ?_;rintro e w5 ⟨rfl,y⟩;have H:=p.trans (y.mono (by simp));have K:Hid (Rd w5 r R d m):=J.kept y (by simp);go_wp2;go_ret;exact⟨rfl,H,K⟩
def yG (s:gn):gn:=
 if Lib.hasSuffix s.data.toList [45,45,33]then ⟨(Lib.trimSuffix s.data.toList [45,45,33]).toArray⟩
 else if Lib.hasSuffix s.data.toList [45,45]then ⟨(Lib.trimSuffix s.data.toList [45,45]).toArray⟩
 else if Lib.hasSuffix s.data.toList [45]then ⟨(Lib.trimSuffix s.data.toList [45]).toArray⟩else s
def R9 (s:gn) (w:gr) (x:s.size<=1048576):
  Calls prog 293 #[gw s] w λe w'=>e=ir (gw (yG s))/\Kept [] w w':=by
 have d:=(λw=>Tryz.strings_CutSuffix s ⟨#[45,45,33]⟩ w (by omega));have h:=(λw=>Tryz.strings_CutSuffix s ⟨#[45,45]⟩ w (by omega));have k:=(λw=>Tryz.strings_CutSuffix s ⟨#[45]⟩ w (by omega));have l:Hid (Kept [] w (w.alloc (.cells #[gw ⟨#[45,45,33]⟩,gw ⟨#[45,45]⟩,gw ⟨#[45]⟩] 9))):=(Kept.refl _ _).alloc _;unfold yG;simp only at d h k;cases h1:Lib.hasSuffix s.data.toList [45,45,33]
 .rw[h1]at d;cases h2:Lib.hasSuffix s.data.toList [45,45]
  .rw[h2]at h;cases h3:Lib.hasSuffix s.data.toList [45]
   .rw[h3]at k;simp only[wX,↓reduceIte];generalize Lib.trimSuffix s.data.toList [45,45,33]=p at *;generalize Lib.trimSuffix s.data.toList [45,45]=q at *;generalize Lib.trimSuffix s.data.toList [45]=u at *;go_enter func293,ntmps293;go_wp21;refine Au 4 ?_;rw[rF];go_wp21;refine(d _).mono ?_;rintro e w' ⟨rfl,rfl⟩;go_wp21;rw[rF];go_wp21;refine(h _).mono ?_;rintro e w' ⟨rfl,rfl⟩;go_wp21;rw[rF];go_wp21;refine(k _).mono ?_;rintro e w' ⟨rfl,rfl⟩;go_wp21;rw[rF];go_wp2;go_ret;exact⟨rfl,l⟩
   .rw[h3]at k;simp only[wX,↓reduceIte];generalize Lib.trimSuffix s.data.toList [45,45,33]=p at *;generalize Lib.trimSuffix s.data.toList [45,45]=q at *;generalize Lib.trimSuffix s.data.toList [45]=u at *;go_enter func293,ntmps293;go_wp21;refine Au 4 ?_;rw[rF];go_wp21;refine(d _).mono ?_;rintro e w' ⟨rfl,rfl⟩;go_wp21;rw[rF];go_wp21;refine(h _).mono ?_;rintro e w' ⟨rfl,rfl⟩;go_wp21;rw[rF];go_wp21;refine(k _).mono ?_;rintro e w' ⟨rfl,rfl⟩;go_wp2;go_ret;exact⟨rfl,l⟩
  .rw[h2]at h;simp only[wX,↓reduceIte];generalize Lib.trimSuffix s.data.toList [45,45,33]=p at *;generalize Lib.trimSuffix s.data.toList [45,45]=q at *;go_enter func293,ntmps293;go_wp21;refine Au 4 ?_;rw[rF];go_wp21;refine(d _).mono ?_;rintro e w' ⟨rfl,rfl⟩;go_wp21;rw[rF];go_wp21;refine(h _).mono ?_;rintro e w' ⟨rfl,rfl⟩;go_wp2;go_ret;exact⟨rfl,l⟩
 .rw[h1]at d;simp only[↓reduceIte];generalize Lib.trimSuffix s.data.toList [45,45,33]=p at *;go_enter func293,ntmps293;go_wp21;refine Au 4 ?_;rw[rF];go_wp21;refine(d _).mono ?_;rintro e w' ⟨rfl,rfl⟩;go_wp2;go_ret;exact⟨rfl,l⟩
def e1:gn:=oe
def e2:gn:=⟨#[45,45,33,62]⟩
def tf (R:RC) (i:Nat):Nat:=
 if i < R.cs.size then (if pre (R.cs.extract i R.cs.size) e1=true then i+3 else if pre (R.cs.extract i R.cs.size) e2=true then i+4 else tf R (i+1))else i
  termination_by R.cs.size - i
def pE (R:RC) (a i:Nat):gn:=
 if i < R.cs.size then (if pre (R.cs.extract i R.cs.size) e1=true then R.cs.extract a i else if pre (R.cs.extract i R.cs.size) e2=true then R.cs.extract a i else pE R a (i+1))else yG (R.cs.extract a R.cs.size)
  termination_by R.cs.size - i
def ZR:i<=tf R i:=by
 fun_induction tf R i<;>omega
def ZS (h:i<=R.cs.size):tf R i<=R.cs.size:=by
 fun_induction tf R i with
 |case1 i h1 h2=>exact lu (p:=e1) h2 h
 |case2 i h1 h2 h3=>exact lu (p:=e2) h3 h
 |case3 i h1 h2 h3 ih=>omega
 |case4=>exact h
def US (h:i<=R.cs.size):tf R i=R.cs.size\/(i < tf R i/\bt R.cs (tf R i - 1)=62):=by
 fun_induction tf R i with
 |case1 i h1 h2=>right;exact⟨by omega,D5 (p:=e1) (j:=2) h2 (by decide)⟩
 |case2 i h1 h2 h3=>right;exact⟨by omega,D5 (p:=e2) (j:=3) h3 (by decide)⟩
 |case3 i h1 h2 h3 ih=>omega
 |case4 i h1=>omega
theorem adU (h:i < R.cs.size) (d:pre (R.cs.extract i R.cs.size) e1=true):tf R i=i+3:=by grind[tf]
theorem adV (h:i < R.cs.size) (d:pre (R.cs.extract i R.cs.size) e1=false) (k:pre (R.cs.extract i R.cs.size) e2=true):tf R i=i+4:=by grind[tf]
theorem adW (h:i < R.cs.size) (d:pre (R.cs.extract i R.cs.size) e1=false) (k:pre (R.cs.extract i R.cs.size) e2=false):tf R i=tf R (i+1):=by grind[tf]
theorem acz (h:i < R.cs.size) (d:pre (R.cs.extract i R.cs.size) e1=true):pE R a i=R.cs.extract a i:=by grind[pE]
theorem acA (h:i < R.cs.size) (d:pre (R.cs.extract i R.cs.size) e1=false) (k:pre (R.cs.extract i R.cs.size) e2=true):pE R a i=R.cs.extract a i:=by grind[pE]
theorem acB (h:i < R.cs.size) (d:pre (R.cs.extract i R.cs.size) e1=false) (k:pre (R.cs.extract i R.cs.size) e2=false):pE R a i=pE R a (i+1):=by grind[pE]
def Cd (r:Nat) (R:RC) (z ps:Nat) (w:gr) (h:Rd w r R z ps) (hp:ps<=R.cs.size) (hs:R.cs.size<=1024):
  Calls prog 245 #[gF r] w λe w'=>e=ir (gw (pE R ps ps))/\Kept [r] w w'/\Rd w' r R z (tf R ps):=by
 have p0:=h.ps;have H:=h;obtain⟨ce,HE⟩:∃x,x=tf R ps:=⟨_,rfl⟩;obtain⟨ct,HT⟩:∃x,x=pE R ps ps:=⟨_,rfl⟩;rw[<-HE,<-HT];go_enter func245,ntmps245;go_wp21
 go_loopw [] (λwr=>∃i:Nat,ps<=i/\i<=R.cs.size/\tf R i=ce/\pE R ps i=ct/\Rd wr r R z i/\Kept [r] w wr) (λwr=>R.cs.size - (match wr.cell? ⟨r,3,none⟩with|some v=>(intOf v).toNat|none=>0))
 case atStart=>exact⟨ps,gW _,hp,HE.symm,HT.symm,H,Kept.refl _ _⟩
 case round=>
  have⟨i,hi0,hi1,hcc,hcx,HR,HKW⟩:=hrel;have K:=fN hcc;have N:=fN hcx;have t:=HR.text;have p:=HR.ps;have fz:=HR.free 3;clear hcc hcx;by_cases e:i=R.cs.size
  .have P:decide (i=R.cs.size)=true:=by simp[e]
   have C:=ox r R z i wr HR;rw[P]at C;have hx:ct=yG (R.cs.extract ps R.cs.size):=by rw[<-N.out,pE,gI (by omega)]
   have hy:ce=i:=by rw[<-K.out,tf,gI (by omega)]
   have Hx:=fN hx;have Hy:=fN hy;clear hx hy;have a0:=e;have D:=(λw'=>R9 (R.cs.extract ps R.cs.size) w' (by simp;omega));go_wp21;refine C.mono ?_;rintro e Z ⟨rfl,q,rfl⟩;go_wp21;refine(D _).mono ?_;rintro e w2 ⟨rfl,k⟩;go_wp2;go_ret;exact⟨by rw[Hx.out];rfl,(HKW.drewN q).trans (k.mono (by simp)),by rw[Hy.out];exact k.at (show Rd (wr.drewN q) r R z i from HR) (by simp)⟩
  .have l:i < R.cs.size:=by omega
   have P:decide (i=R.cs.size)=false:=by simp[e]
   have C:=ox r R z i wr HR;rw[P]at C;have F:=(λw' (h:Rd w' r R z i)=>lx r R z i e1 w' h hi1 hs (by decide));have I:=(λw' (h:Rd w' r R z i)=>lx r R z i e2 w' h hi1 hs (by decide));cases h1:pre (R.cs.extract i R.cs.size) e1
   .have X:taken R e1 i=i:=by unfold taken;rw[gI (by simp[h1])]
    rw[h1,X]at F;cases h2:pre (R.cs.extract i R.cs.size) e2
    .have Y:taken R e2 i=i:=by unfold taken;rw[gI (by simp[h2])]
     rw[h2,Y]at I;have HS:=fN (adW l h1 h2);have y:=fN (acB (a:=ps) l h1 h2);unfold e1 at F;unfold e2 at I;go_wp21;refine C.mono ?_;rintro e Z ⟨rfl,q,rfl⟩;go_wp21
     go_quiet (fail)
     go_wp21;refine(F _ ?_).mono ?_
     .exact HR
     rintro e w2 ⟨rfl,k,G⟩;go_wp21;refine(I _ G).mono ?_;rintro e w3 ⟨rfl,O,d⟩;have p3:=d.ps;have f3:=d.free 3;have J:=Rd.LN d (i+1);have u:=((HKW.drewN (q+nq)).trans (k.trans O)).setCell (p:=⟨r,3,none⟩) (.inl (by simp)) (ga ((i+1:Nat)));go_wp2;go_roundw
     case rel=>exact⟨i+1,by omega,by omega,by rw[<-HS.out,K.out],by rw[<-y.out,N.out],J,u⟩
     case measure=>
      have m1:=J.ps;rw[show((i:Int)+1)=((i+1:Nat):Int)from by omega,m1,p];simp[intOf];omega
    .have Y:taken R e2 i=i+4:=by unfold taken;rw[gN h2];rfl
     rw[h2,Y]at I;have HS:=fN (adV l h1 h2);have y:=fN (acA (a:=ps) l h1 h2);unfold e1 at F;unfold e2 at I;go_wp21;refine C.mono ?_;rintro e Z ⟨rfl,q,rfl⟩;go_wp21
     go_quiet (fail)
     go_wp21;refine(F _ ?_).mono ?_
     .exact HR
     rintro e w2 ⟨rfl,k,G⟩;go_wp21;refine(I _ G).mono ?_;rintro e w3 ⟨rfl,V,d⟩;have u:=((HKW.drewN (q+nq)).trans (k.trans V));go_wp2;go_ret;exact⟨by rw[<-N.out,y.out];rfl,u,by rw[<-K.out,HS.out];exact d⟩
   .have X:taken R e1 i=i+3:=by unfold taken;rw[gN h1];rfl
    rw[h1,X]at F;have HS:=fN (adU l h1);have y:=fN (acz (a:=ps) l h1);unfold e1 at F;go_wp21;refine C.mono ?_;rintro e Z ⟨rfl,q,rfl⟩;go_wp21
    go_quiet (fail)
    go_wp21;refine(F _ ?_).mono ?_
    .exact HR
    rintro e w2 ⟨rfl,U,d⟩;have u:=((HKW.drewN (q+nq)).trans U);go_wp2;go_ret;exact⟨by rw[<-N.out,y.out];rfl,u,by rw[<-K.out,HS.out];exact d⟩
def nC (R:RC) (ps:Nat):Nat:=if pre (R.cs.extract ps R.cs.size) iO=true then ps+1 else if pre (R.cs.extract ps R.cs.size) yf=true then ps+2 else tf R ps
def nN (R:RC) (ps:Nat):gn:=if pre (R.cs.extract ps R.cs.size) iO=true then ⟨#[]⟩else if pre (R.cs.extract ps R.cs.size) yf=true then ⟨#[]⟩else pE R ps ps
def KX (h:ps<=R.cs.size):nC R ps<=R.cs.size:=by
 unfold nC;split
 .rename_i d;exact lu d h
 .split
  .rename_i d;exact lu d h
  .exact ZS h
def UX:ps<=nC R ps:=by
 unfold nC;split
 .omega
 .split
  .omega
  .exact ZR
def Ov (h:ps<=R.cs.size):nC R ps=R.cs.size\/(ps < nC R ps/\bt R.cs (nC R ps - 1)=62):=by
 unfold nC;split
 .rename_i d;exact .inr ⟨by omega,D5 (j:=0) d (by decide)⟩
 .split
  .rename_i d;exact .inr ⟨by omega,D5 (j:=1) d (by decide)⟩
  .exact US h
theorem Px (s:gn):(yG s).size<=s.size:=by
 have h:∀p,(ByteArray.mk (Lib.trimSuffix s.data.toList p).toArray).size<=s.size:=by
  intro p;show(Lib.trimSuffix s.data.toList p).toArray.size<=s.data.size;unfold Lib.trimSuffix;split
  .simp
  .simp
 grind[yG]
def Rq:(pE R a i).size<=R.cs.size:=by
 fun_induction pE R a i with
 |case1=>simp;omega
 |case2=>simp;omega
 |case3=>omega
 |case4=>exact jH (Px _) (by simp)
def Mv:(nN R ps).size<=R.cs.size:=by
 unfold nN;split
 .exact iP _
 .split
  .exact iP _
  .exact Rq
def JV (r:Nat) (R:RC) (k m g l:Nat) (d:Nat->Nat) (w u:gr) (hA:KM w r R g l d) (hG:Gl w r) (G:k<=R.cs.size) (H:m<=R.cs.size) (I:R.cs.size<=1024) (z:Kept [r] w u) (hr:Rd u r R k m) (t:gn) (J:t.size<=1048576):
  (Calls prog 78 #[gF r] u λe q=>e=ir (.agg #[ga (d k),ga (d m)])/\Kept [r] w q/\Rd q r R k m/\
   Calls prog 148 #[gw t] q λe y=>e=ir (gw (oq t))/\Kept [r] w y/\Rd y r R k m):=by
 refine(pN r R k m g l d u hr (hA.kept z) G H I).mono ?_;rintro e q ⟨C,h⟩;have x:=z.trans (h.mono (by simp));refine⟨C,x,hr.kept h (by simp),?_⟩;refine(xO r t q J (hG.kept x)).mono ?_;rintro e y ⟨F,p⟩;exact⟨F,x.trans (p.mono (by simp)),(hr.kept h (by simp)).kept p (by simp)⟩
theorem Ox (r:Nat) (R:RC) (l ps g N:Nat) (p:Nat->Nat) (w:gr) (h:Rd w r R l ps) (hA:KM w r R g N p) (hG:Gl w r) (hb:l<=R.cs.size) (X:ps<=R.cs.size) (Y:R.cs.size<=1024):
  Calls prog 155 #[gF r] w λe w'=>e=ir (.iface 194 (.agg #[ga (p l),ga (p (nC R ps)),gw (oq (nN R ps))]))/\Kept [r] w w'/\Rd w' r R l (nC R ps):=by
 have J:=lx r R l ps iO w h X Y (by decide);have K:=(λw' (h:Rd w' r R l ps)=>lx r R l ps yf w' h X Y (by decide));have U:=(λw' (h:Rd w' r R l ps)=>Cd r R l ps w' h X Y);have F:=(λq (hk:Kept [r] w q) (hr:Rd q r R l (nC R ps))=>JV r R l (nC R ps) g N p w q hA hG hb (KX X) Y hk hr (nN R ps) (jH Mv (by omega)));clear h hA hG;cases h1:pre (R.cs.extract ps R.cs.size) iO
 .have I:taken R iO ps=ps:=by unfold taken;rw[gI (by simp[h1])]
  rw[h1,I]at J;cases h2:pre (R.cs.extract ps R.cs.size) yf;have P:taken R yf ps=ps:=by unfold taken;rw[gI (by simp[h2])]
  rw[h2,P]at K;have u:nC R ps=tf R ps:=by unfold nC;rw[gI (by simp[h1]),gI (by simp[h2])]
  have x:nN R ps=pE R ps ps:=by unfold nN;rw[gI (by simp[h1]),gI (by simp[h2])]
  rw[<-u,<-x]at U;clear h1 h2 I P u x;generalize nC R ps=m at *;generalize nN R ps=t at *;go_enter func155,ntmps155;go_wp21;refine J.mono ?_;rintro e w1 ⟨rfl,z,C⟩;go_wp21;refine(K _ C).mono ?_;rintro e w2 ⟨rfl,O,a1⟩;have Z:=z.trans O;clear O;go_wp21;refine(U _ a1).mono ?_;rintro e q ⟨rfl,d,k⟩;have V:=F q (Z.trans d) k
  rotate_left
  have P:taken R yf ps=ps+2:=by unfold taken;rw[gN h2];rfl
  rw[h2,P]at K;have u:nC R ps=ps+2:=by unfold nC;rw[gI (by simp[h1]),gN h2]
  have x:nN R ps=⟨#[]⟩:=by unfold nN;rw[gI (by simp[h1]),gN h2]
  rw[u,x]at F|-;clear h1 h2 I P u x U;go_enter func155,ntmps155;go_wp21;refine J.mono ?_;rintro e w1 ⟨rfl,z,C⟩;go_wp21;refine(K _ C).mono ?_;rintro e q ⟨rfl,d,k⟩;have V:=F q (z.trans d) k
  all_goals
   clear d k;go_wp21;refine V.mono ?_;rintro e w4 ⟨rfl,G,H,y⟩;clear G H;go_wp21;refine y.mono ?_;rintro e w5 ⟨rfl,a0,a2⟩;go_wp2;go_ret;simp_all
 .have I:taken R iO ps=ps+1:=by unfold taken;rw[gN h1];rfl
  rw[h1,I]at J;have u:nC R ps=ps+1:=by unfold nC;rw[gN h1]
  have x:nN R ps=⟨#[]⟩:=by unfold nN;rw[gN h1]
  rw[u,x]at F|-;clear h1 I u x K U;go_enter func155,ntmps155;go_wp21;refine J.mono ?_;rintro e q ⟨rfl,d,k⟩;have V:=F q d k;clear d k;go_wp21;refine V.mono ?_;rintro e w4 ⟨rfl,G,H,y⟩;clear G H;go_wp21;refine y.mono ?_;rintro e w5 ⟨rfl,a0,a2⟩;go_wp2;go_ret;simp_all
section
open Go.Shelf Go.Lib
def NN (s:gn):gn:=⟨(Lib.trimS s.data.toList [32,9,10,12]).toArray⟩
def Y5 (s:gn) (w:gr) (l:s.size<=1048576):
  Calls prog 249 #[gw s,gw mA] w λe w'=>e=ir (gw (NN s))/\Kept [] w w':=by
 have d:=Any.strings_Trim_laid Tryz.lays160 (by kernel_rfl) s mA w (by omega) (by decide) (ascii_of_all (by decide));exact d.mono λe w' ⟨h,k⟩=>⟨h,Kept.AN k⟩
def Zr (R:RC) (ps:Nat):Nat:=scan (λc=>!jl mA c) R.cs ps
def Ft (R:RC) (ps:Nat):Nat:=scan (jl mi) R.cs (Zr R ps)
def Xn (h:ps<=R.cs.size):Zr R ps<=R.cs.size:=pt h
def Hi (h:ps<=R.cs.size):Ft R ps<=R.cs.size:=pt (Xn h)
def acD:ps<=Ft R ps:=jH sQ sQ
end
section
open Go.Shelf Go.Lib
def Rr (R:RC) (ps:Nat):gn:=oq (small (R.cs.extract (Zr R ps) (Ft R ps)))
def dtQ (R:RC) (ps:Nat):Bool:=((Rr R ps).toList==[])||!((NN (R.cs.extract (Ft R ps) (scan (jl iO) R.cs (Ft R ps)))).toList==[])||!(pre (R.cs.extract (scan (jl iO) R.cs (Ft R ps)) R.cs.size) iO)
def JZ (r:Nat) (R:RC) (d ps g C:Nat) (k:Nat->Nat) (w:gr) (h:Rd w r R d ps) (hA:KM w r R g C k) (hG:Gl w r) (hb:d<=R.cs.size) (u:ps<=R.cs.size) (N:R.cs.size<=1024):
  Calls prog 157 #[gF r] w λe w'=>e=ir (.iface 196 (.agg #[ga (k d),ga (k (qY R (Ft R ps))),gw (Rr R ps),.bool (dtQ R ps)]))/\Kept [r] w w'/\Rd w' r R d (qY R (Ft R ps)):=by
 have G:Rr R ps=oq (small (R.cs.extract (Zr R ps) (Ft R ps))):=rfl;have hQ:dtQ R ps=(((Rr R ps).toList==[])||!((NN (R.cs.extract (Ft R ps) (scan (jl iO) R.cs (Ft R ps)))).toList==[])||!(pre (R.cs.extract (scan (jl iO) R.cs (Ft R ps)) R.cs.size) iO)):=rfl;generalize dtQ R ps=qk at *;generalize Rr R ps=a9 at *;have O:=vh r R d ps mA w h u N;rw[show scan (λc=>!jl mA c) R.cs ps=Zr R ps from rfl]at O;have P:=(λ(w':gr) (h:Rd w' r R d (Zr R ps))=>yX r R d (Zr R ps) mi w' h (Xn u) N);rw[show scan (jl mi) R.cs (Zr R ps)=Ft R ps from rfl]at P;have C3:=(λ(w':gr) (h:Rd w' r R d (Ft R ps))=>yX r R d (Ft R ps) iO w' h (Hi u) N);have a8:scan (jl iO) R.cs (Ft R ps)<=R.cs.size:=pt (Hi u);have D:=(λ(w2:gr) (hr:Rd w2 r R d (scan (jl iO) R.cs (Ft R ps)))=>lx r R d _ iO w2 hr a8 N (by decide));rw[show taken R iO (scan (jl iO) R.cs (Ft R ps))=qY R (Ft R ps)from rfl]at D;have K:qY R (Ft R ps)<=R.cs.size:=Ic (Hi u);have h3:Ft R ps<=R.cs.size:=Hi u;have HA:=hA;have HG:=hG;clear h hA hG;generalize qY R (Ft R ps)=m at *;generalize scan (jl iO) R.cs (Ft R ps)=n at *;generalize Ft R ps=b at *;generalize Zr R ps=a at *;go_enter func157,ntmps157;go_wp21;refine O.mono ?_;rintro e w1 ⟨rfl,X,a2⟩;clear O;go_wp21;refine(oG _ w1).mono ?_;rintro e w' ⟨rfl,rfl⟩;go_wp21;refine(P _ a2).mono ?_;rintro e w2 ⟨rfl,H,a3⟩;have x:=X.trans H;clear H P;have U:=yM r (R.cs.extract a b) w2 (by simp;omega) (HG.kept x);rw[<-G]at U;clear G;go_wp21;refine U.mono ?_;rintro e w3 ⟨rfl,l⟩;have Y:=x.trans (l.mono (by simp));have a4:=a3.kept l (by simp);clear l U;go_wp21;refine(oG _ w3).mono ?_;rintro e w' ⟨rfl,rfl⟩;go_wp21;refine(C3 _ a4).mono ?_;rintro e w4 ⟨rfl,I,a5⟩;have Z:=Y.trans I;clear I C3;have V:=Y5 (R.cs.extract b n) w4 (by simp;omega);generalize NN (R.cs.extract b n)=mo at V hQ;go_wp21;refine V.mono ?_;rintro e w5 ⟨rfl,p⟩;have a0:=Z.trans (p.mono (by simp));have a6:=a5.kept p (by simp);clear p V;go_wp21;refine(D _ a6).mono ?_;rintro e w6 ⟨rfl,J,z⟩;have y:=a0.trans J;clear J D;have F:=pN r R d m g C k w6 z (HA.kept y) hb K N;generalize pre (R.cs.extract n R.cs.size) iO=cl at *;go_wp21;refine F.mono ?_;rintro e w7 ⟨rfl,q⟩;have a1:=y.trans (q.mono (by simp));have a7:=z.kept q (by simp);clear q F;have HQ:=fN hQ;clear hQ;cases h1:(a9.toList==[])<;>cases h2:(mo.toList==[])<;>cases cl
 all_goals go_wp2
 all_goals go_ret
 all_goals exact⟨by rw[HQ.out,h1,h2];rfl,a1,a7⟩
end
section
open Go.Shelf Go.Lib
def N1 (n:Int):Int:=if n=0\/(55296<=n/\n<=57343)\/n>=1114112 then 65533 else if n=128 then 8364 else if n=133 then 8230 else if n=145 then 8216 else if n=146 then 8217 else if n=147 then 8220 else if n=148 then 8221 else if n=150 then 8211 else if n=151 then 8212 else if n=153 then 8482 else n
def qB {x n : Int} (h:x=N1 n):Ending.returned (.int .i32 x)=ir (.int .i32 (N1 n)):=by rw[h]
theorem Xj {n : Int} (z:¬n=0) (C:n < 55296) (d:(n==128)=false) (h:(n==133)=false) (k:(n==145)=false) (l:(n==146)=false) (p:(n==147)=false) (q:(n==148)=false) (u:(n==150)=false) (x:(n==151)=false) (y:(n==153)=false):N1 n=n:=by
 grind[N1]
theorem JU (n:Int) (w:gr) (k:0<=n) (l:n<=1114112):
  Calls prog 304 #[ga n] w λe w'=>e=ir (.int .i32 (N1 n))/\w'=w:=by
 by_cases a:n=0
 .subst a;go_enter func304,ntmps304;go_wp2;go_ret;simp[N1]
 .by_cases b:55296<=n
  .by_cases d:n<=57343
   .go_enter func304,ntmps304;go_wp2;go_ret;exact⟨qB (by unfold N1;omega),rfl⟩
   .by_cases h:n>=1114112
    .go_enter func304,ntmps304;go_wp2;go_ret;exact⟨qB (by unfold N1;omega),rfl⟩
    .go_enter func304,ntmps304;go_wp2;go_ret;exact⟨qB (by grind[N1]),rfl⟩
  .go_enter func304,ntmps304;go_wp2
   all_goals
    (go_ret
     first
     |exact⟨qB (by rw[y5 ‹(n==128)=true›];rfl),rfl⟩
     |exact⟨qB (by rw[y5 ‹(n==133)=true›];rfl),rfl⟩
     |exact⟨qB (by rw[y5 ‹(n==145)=true›];rfl),rfl⟩
     |exact⟨qB (by rw[y5 ‹(n==146)=true›];rfl),rfl⟩
     |exact⟨qB (by rw[y5 ‹(n==147)=true›];rfl),rfl⟩
     |exact⟨qB (by rw[y5 ‹(n==148)=true›];rfl),rfl⟩
     |exact⟨qB (by rw[y5 ‹(n==150)=true›];rfl),rfl⟩
     |exact⟨qB (by rw[y5 ‹(n==151)=true›];rfl),rfl⟩
     |exact⟨qB (by rw[y5 ‹(n==153)=true›];rfl),rfl⟩
     |exact⟨qB (Xj a b ‹(n==128)=false› ‹(n==133)=false› ‹(n==145)=false› ‹(n==146)=false› ‹(n==147)=false› ‹(n==148)=false› ‹(n==150)=false› ‹(n==151)=false› ‹(n==153)=false›).symm,rfl⟩)
def kN (c:Int):Int:=if 48<=c/\c<=57 then c - 48 else if 97<=c/\c<=102 then c - 87 else if 65<=c/\c<=70 then c - 55 else 99
theorem Cz (c:Int):0<=kN c/\kN c<=99:=by grind[kN]
theorem GY (c:Int) (w:gr) (k:0<=c) (l:c<=255):
  Calls prog 336 #[.int .u8 c] w λe w'=>e=ir (.bool (decide (48<=c/\c<=57)))/\w'=w:=by
 by_cases d:48<=c<;>by_cases h:c<=57
 all_goals first|(exfalso;omega)|skip
 all_goals (go_enter func336,ntmps336;go_wp2;go_ret;simp_all)
def U1 (c:Int) (w:gr) (l:0<=c) (p:c<=255):
  Calls prog 303 #[.int .u8 c] w λe w'=>e=ir (ga (kN c))/\w'=w:=by
 have C:=GY c w l p;by_cases a:48<=c/\c<=57
 .rw[show decide (48<=c/\c<=57)=true from by simp[a]]at C;have e:kN c=c - 48:=by unfold kN;rw[gN a]
  rw[e];clear e;have⟨a1,a2⟩:=a;go_enter func303,ntmps303;go_wp21;refine C.mono ?_;rintro e w' ⟨rfl,rfl⟩;go_wp2;go_ret;simp
 .rw[show decide (48<=c/\c<=57)=false from by simp;omega]at C;by_cases b:97<=c
  .by_cases h:c<=102;have e:kN c=c - 97+10:=by unfold kN;rw[gI a,gN ⟨b,h⟩];omega
   rotate_left
   have e:kN c=99:=by unfold kN;rw[gI a,gI (by omega),gI (by omega)]
   all_goals
    rw[e];clear e a;go_enter func303,ntmps303;go_wp21;refine C.mono ?_;rintro e w' ⟨rfl,rfl⟩;go_wp2;go_ret;simp
  .by_cases d:65<=c
   .by_cases k:c<=70;have e:kN c=c - 65+10:=by unfold kN;rw[gI a,gI (by omega),gN ⟨d,k⟩];omega
    rotate_left
    have e:kN c=99:=by unfold kN;rw[gI a,gI (by omega),gI (by omega)]
    all_goals
     rw[e];clear e a;go_enter func303,ntmps303;go_wp21;refine C.mono ?_;rintro e w' ⟨rfl,rfl⟩;go_wp2;go_ret;simp
   .have e:kN c=99:=by unfold kN;rw[gI a,gI (by omega),gI (by omega)]
    rw[e];clear e a;go_enter func303,ntmps303;go_wp21;refine C.mono ?_;rintro e w' ⟨rfl,rfl⟩;go_wp2;go_ret;simp
end
end
end Go.Proofs.YtccjlklnkhagdaaGreatDoor
