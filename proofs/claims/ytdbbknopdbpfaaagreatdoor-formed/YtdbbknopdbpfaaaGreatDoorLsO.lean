import Derived.Test.YtdbbknopdbpfaaaGreatDoorBdH
import Derived.Stop.Asserts
import Derived.Handy
set_option linter.unusedSimpArgs false
set_option linter.unusedVariables false
set_option linter.defProp false
set_option maxHeartbeats 0
set_option maxRecDepth 100000
namespace Go.Proofs.YtdbbknopdbpfaaaGreatDoor
open Go.RowKit Go.Extern.Stop Go.Stop Go.Extern Go.PlainAid Tryz
def NX:=@Sem.run_bind
def Je:=@run_convert_bytes_back
def Jf:=@Calls.quiet_of
def Jg:=@dif_pos
def amI:=@Nat.le_add_right
def rY:=@List.erase_cons_tail
def xb:=@List.erase_cons_head
def yz:=@Lib.run_neq_ptr_same
def Ty:=@Array.length_toList
def Jh:=@Nat.le_mul_of_pos_left
def ZZ:=@List.flatMap_cons
def zr:=@List.flatMap_nil
section
variable {A W W' w w' wr:J}{B b base il c fi g i j k m n r sz:Nat}{E:Env}{H:Nat->List O}{L:Loc}{P:qQ Unit->Prop}{S X:List Nat}{T:TypeId}{U:jj}{a p s:O}{e ei ej:wN}{f:Nat->Nat}{ks:List Nd}{l:List O}{o:Ru}{pl:Nat×Nat}{sp:nc}{t:gF}{v v':gP}{vv:gP×Bool}{xs:List gP}{σ σ':N}
attribute [local go_sem] Oper.semAt_some
theorem amC{z:Type}(m:Nat)(a4:1<=m)(b j n bN bL l:Nat)(a3:n<=4096)(nx:z->jj)(d:z->Nat)(a7 Jx:z->J->Prop)
  (hN:∀s W,a7 s W->W.cell? ⟨bN,0,none⟩=some (G n)) (hL:∀s W,a7 s W->W.cell? ⟨bL,0,none⟩=some (j5 b j))
  (K:∀s W q,a7 s W->d s<n->q=n-1-d s->Calls prog 239 #[j5 b j,G q] W λe w'=>e=iA (kX (nx s))/\w'=W)
  (hY:∀s W,a7 s W->d s<n->YieldAt Fence.wide (m-1) prog l #[kX (nx s)] W λe W'=>
   (e=iA (.bool true)/\∃h,d h=d s+1/\a7 h W')\/(e=iA (.bool false)/\∃h,Jx h W'))
  (W:J) (s0:z) (a6:d s0=0) (h0:a7 s0 W):
  CallsIn Fence.wide m prog 348 #[.func (.yield l) #[] #[],gI bN,gI bL] W λe W'=>(∃r,e=iA r)/\
   ((∃s,d s=n/\a7 s W')\/(∃s,Jx s W')):=by
 refine callsIn_of_wp func348 rfl trivial ?_ rfl;simp only[ntmps348,abw,pG,Kk,Nat.reduceAdd,Nat.reduceSub,sR,yD,wL,yE,abu,yF];have cN:=hN s0 W h0;have HY:=hY;have HN:=hN;have HL:=hL;have D:=K;gi_wp2
 gi_loopw [4] (λi wr=>∃s:z,d s<=n/\i=G ((n:Int)-1-d s)/\a7 s wr)
  (λi _=>((intOf i)+1).toNat)
 case atStart=>grind
 case round=>
  obtain⟨s,hk,rfl,C⟩:=hrel;have cL:=HL s wr C;by_cases x:d s<n
  .obtain⟨q,hq⟩:∃q:Nat,q=n-1-d s:=⟨_,rfl⟩;have a2:(n:Int)-1-d s=(q:Int):=by omega
   rw[a2];have HA:=D s wr q C x hq;have⟨fn,tmps,assign,body,hy,HR⟩:=HY s wr C x;have HQ:=V hq;have a5:q<4096:=by omega
   clear hq
   gi_wp2_with (refine⟨trivial,?_⟩;gi_at_call 239;refine(callsIn_wide.2 HA).mono ?_;rintro e w'⟨rfl,rfl⟩)
   refine HR.mono ?_;rintro e W3 (⟨rfl,h,a1,a0⟩|⟨rfl,h,u⟩)
   .have F:=a1;gi_wp2;go_roundw
    case rel=>exact⟨h,by omega,by have:=HQ;have:=F;congr 1;omega,a0⟩
    case measure=>simp[intOf]
   .gi_wp2;refine uF (QU rfl _ _ _) rfl ?_;exact⟨⟨_,rfl⟩,.inr ⟨h,u⟩⟩
  .have I:d s=n:=by omega
   have y:(n:Int)-1-d s= -1:=by omega
   rw[y];gi_wp2;go_end0;exact⟨⟨_,rfl⟩,.inl ⟨s,I,C⟩⟩
def aj9{q:Type}(B:Nat)(I:q->J->Prop)(u:Code->q->J->Prop)(h:q->Nat)(s:q)(W:J):Exit->Act->J->Prop
 | .normal,_,W'=>KeepsFrom B W W'/\∃d,h d=h s+1/\I d W'
 | .ret,_,W'=>KeepsFrom B W W'/\∃d,u .ret d W'
 | .exit id,_,W'=>KeepsFrom B W W'/\∃d,u (.exit id) d W'
 | .goto t,_,W'=>KeepsFrom B W W'/\∃d,u (.goto t) d W'
 | .panic _,_,_=>False
 | .outgrown,_,_=>False
theorem ahm{β:Type}{g:Operand}{p:Tmp}{assign body:Code}{Q:Exit->Act->J->Prop}{a:Act}(h1:2<=m){bs:Nat}(ah:n<=4096)(hg:a.eval g=wJ bs)
  (nx:β->jj) (F:β->Nat) (I:β->J->Prop) (Ix:Code->β->J->Prop) (hI:OwnFrom w.heap.size I) (a4:∀c,OwnFrom w.heap.size (Ix c))
  (hN:∀s W,I s W->W.cell? ⟨bs+1,0,none⟩=some (G n)) (hL:∀s W,I s W->W.cell? ⟨bs,0,none⟩=some (j5 b j))
  (aa:∀s W q,I s W->F s<n->q=n-1-F s->Calls prog 239 #[j5 b j,G q] W λe w'=>e=iA (kX (nx s))/\w'=W)
  (s0:β) (aj:F s0=0) (h0:I s0 w) (a5:jj->Act)
  (a1:∀(l:Nat)(x:jj)(W:J)(K:Act->J->Prop),K (a5 x) W->assign.wpIn (Fence.wide.inRound l) (m-1-1) prog (Exit.then K (λ_ _ _=>False)) {tmps:=a.tmps.setIfInBounds p (kX x),defers:=[]} W)
  (a6:∀(l:Nat)(s:β)(W:J),I s W->F s<n->body.wpIn (Fence.wide.inRound l) (m-1-1) prog (aj9 w.heap.size I Ix F s W) (a5 (nx s)) W)
  (a7:∀(D:Nat)(s:β)(W:J),w.heap.size<=D->F s=n->I s W->W.heap[D]?=some (.deferred (some []))->Q .normal {a with defers:={target:=.collected D,args:=#[]}::a.defers} W)
  (a8:∀(D:Nat)(c:Code)(s:β)(W:J),w.heap.size<=D->Ix c s W->W.heap[D]?=some (.deferred (some []))->c.wpIn Fence.wide m prog Q {a with defers:={target:=.collected D,args:=#[]}::a.defers} W):
  (Code.rangeFunc g #[p] assign body).wpIn Fence.wide m prog Q a w:=by
 refine XC ?_;intro fn ae;obtain⟨rec,u⟩:∃rec:LoopState->Option Code->Loop,rec=λst pe=>{state:=st,pending:=pe,fn,tmps:=a.tmps,params:=#[p],assign,body,defers:=w.heap.size}:=⟨_,rfl⟩;obtain⟨W1,a0⟩:∃W1,(w.alloc (.deferred (some []))).alloc (.loop (rec .ready none))=W1:=⟨_,rfl⟩;have al:W1.heap.size=w.heap.size+2:=by rw[<-a0];simp
 have ad:W1.heap[w.heap.size+1]?=some (.loop (rec .ready none)):=by
  rw[<-a0];have:=Da (w.alloc (.deferred (some []))) (.loop (rec .ready none));rwa [Xu]at this
 have ac:W1.heap[w.heap.size]?=some (.deferred (some [])):=by
  rw[<-a0];exact(Below.heap_alloc _ _ _ (by simp)).trans (Da w _)
 have ab:I s0 W1:=by rw[<-a0];exact hI.alloc _ (hI.alloc _ h0)
 refine⟨w.heap.size+1,[{target:=.collected w.heap.size,args:=#[]}],W1,{target:=.fn (.func 348) #[gI (bs+1),gI bs],args:=#[.func (.yield (w.heap.size+1)) #[] #[]]},W1,348,
  #[.func (.yield (w.heap.size+1)) #[] #[],gI (bs+1),gI bs],W1,?_,?_,?_,?_,λ_=>by omega,?_⟩
 rw[<-a0,u];exact QW _ _ _ _ _
 .simp only[resolve,hg];simp[go_sem]
 intro f' ak;trivial;exact enters_of func348 (by rfl) rfl _ _;refine(amC (m-1) (by omega) b j n (bs+1) bs (w.heap.size+1) ah nx F
  (λs W=>I s W/\W.heap[w.heap.size+1]?=some (.loop (rec .ready none))/\W.heap[w.heap.size]?=some (.deferred (some [])))
  (λs W=>∃c,Ix c s W/\W.heap[w.heap.size+1]?=some (.loop (rec .done (some c)))/\W.heap[w.heap.size]?=some (.deferred (some [])))
  (λs W h=>hN s W h.1) (λs W h=>hL s W h.1) (λs W q h=>aa s W q h.1) ?_ W1 s0 aj ⟨ab,ad,ac⟩).mono ?_
 .rintro s W⟨hi,hl,hk⟩ a9;have ai:w.heap.size+1<W.heap.size:=(Array.getElem?_eq_some_iff.1 hl).1;have hy:=run_yield (P:=prog) (args:=#[kX (nx s)]) hl (by rw[u];rfl);rw[u]at hy;have hz:(#[p].zip #[kX (nx s)]).foldl (λt (p,v)=>t.setIfInBounds p v) a.tmps=a.tmps.setIfInBounds p (kX (nx s)):=by simp
  refine⟨fn,_,assign,body,hy,roundIn_of_wpIn ae ((DZ (λz=>assign.wpIn (Fence.wide.inRound (w.heap.size+1)) (m-1-1) prog (Exit.then _ (λ_ _ _=>False)) {tmps:=z,defers:=[]} W) hz).mpr (a1 _ (nx s) W _ ?_))⟩;refine⟨_,run_beginRound hl (by rw[u]),?_⟩;have ag:(W.putObj (w.heap.size+1) (.loop {rec .ready none with state:=.busy})).heap[w.heap.size+1]?=some (.loop {rec .ready none with state:=.busy}):=vF ai;have af:(W.putObj (w.heap.size+1) (.loop {rec .ready none with state:=.busy})).heap[w.heap.size]?=some (.deferred (some [])):=(aht (by omega)).trans hk;refine C8 (a6 _ s _ (hI.putObj _ hi (by omega) hl rfl) a9) ?_;have a2:∀(d:Option Code)(W3:J),KeepsFrom w.heap.size (W.putObj (w.heap.size+1) (.loop {rec .ready none with state:=.busy})) W3->
    (Instr.endRound (w.heap.size+1) d).run prog W3=.ok (.bool d.isNone) (W3.putObj (w.heap.size+1) (.loop (rec (if d.isNone then .ready else .done) d)))/\
    W3.heap[w.heap.size+1]?=some (.loop {rec .ready none with state:=.busy})/\
    (W3.putObj (w.heap.size+1) (.loop (rec (if d.isNone then .ready else .done) d))).heap[w.heap.size+1]?=some (.loop (rec (if d.isNone then .ready else .done) d))/\
    (W3.putObj (w.heap.size+1) (.loop (rec (if d.isNone then .ready else .done) d))).heap[w.heap.size]?=some (.deferred (some [])):=λd W3 y=>by
   have C:=y.same _ _ (by omega) ag rfl;have:=run_endRound (P:=prog) d C;rw[u]at this|-;exact⟨this,by grind,vF (Array.getElem?_eq_some_iff.1 C).1,(aht (by omega)).trans (y.same _ _ (ic _) af rfl)⟩
  rintro e a3 W3 hp;cases e with
  |normal=>
   have⟨y,s',hc',hi3⟩:=hp;have⟨hr,C,hl4,hk4⟩:=a2 none W3 y;exact⟨_,_,hr,.inl ⟨rfl,s',hc',hI.putObj _ hi3 (by omega) C rfl,hl4,hk4⟩⟩
  |ret=>
   have⟨y,s',hi3⟩:=hp;have⟨hr,C,hl4,hk4⟩:=a2 (some .ret) W3 y;exact⟨_,_,hr,.inr ⟨rfl,s',.ret,(a4 _).putObj _ hi3 (by omega) C rfl,hl4,hk4⟩⟩
  |exit id=>
   have⟨y,s',hi3⟩:=hp;have⟨hr,C,hl4,hk4⟩:=a2 (some (.exit id)) W3 y;exact⟨_,_,hr,.inr ⟨rfl,s',.exit id,(a4 _).putObj _ hi3 (by omega) C rfl,hl4,hk4⟩⟩
  |goto t=>
   have⟨y,s',hi3⟩:=hp;have⟨hr,C,hl4,hk4⟩:=a2 (some (.goto t)) W3 y;exact⟨_,_,hr,.inr ⟨rfl,s',.goto t,(a4 _).putObj _ hi3 (by omega) C rfl,hl4,hk4⟩⟩
  |panic ch=>exact hp.elim
  |outgrown=>exact hp.elim
 rintro e W2⟨⟨v,rfl⟩,(⟨s,hS,hi,hl,hk⟩|⟨s,c,hi,hl,hk⟩)⟩;exact⟨none,_,by have:=iT (P:=prog) hl (by rw[u];simp);rw[u]at this;exact this,a7 _ s _ (ic _) hS (hI.putObj _ hi (by omega) hl rfl) ((aht (by omega)).trans hk)⟩;exact⟨some c,_,by have:=iT (P:=prog) hl (by rw[u];simp);rw[u]at this;exact this,a8 _ c s _ (ic _) ((a4 c).putObj _ hi (by omega) hl rfl) ((aht (by omega)).trans hk)⟩
section
attribute [local go_sem] Oper.semAt_some
attribute [local go_sem] rE
attribute [local simp] rE
def RF.alh(h:RF E f σ w)(x:jj)(q:σ.gZ x=true):Calls prog 376 #[j5 E.bB 188,oV f x] w λe w'=>e=iA (wJ w.heap.size)/\w'=nJ E.bB 188 (posOf σ.gq x) w:=by
 obtain⟨L,rfl,d⟩:=h;have⟨C,hL,hC⟩:=d.AA;have:=aiP E.bs E.bB 188 _ C _ _ _ w hL d.cH (d.gZ q)
 rwa [Qt d.inj]at this
theorem UR(w:J)(d h q u x:Obj):(((((w.alloc d).alloc h).alloc q).alloc u).alloc x).heap[w.heap.size]?=some d/\(((((w.alloc d).alloc h).alloc q).alloc u).alloc x).heap[w.heap.size+1]?=some h/\(((((w.alloc d).alloc h).alloc q).alloc u).alloc x).heap[w.heap.size+1+1]?=some q/\(((((w.alloc d).alloc h).alloc q).alloc u).alloc x).heap[w.heap.size+1+1+1]?=some u/\(((((w.alloc d).alloc h).alloc q).alloc u).alloc x).heap[w.heap.size+1+1+1+1]?=some x:=by
 grind[Below.heap_alloc,World.size_alloc,fU]
theorem RF.sf(h:RF E f σ w)(u:Z [] w W){S:List (Nat×gP)}(d:∀p∈S,w.heap.size<=p.1/\W.heap[p.1]?=some (gH #[p.2] 66)):SF E f σ W S:=by
 have⟨L,e,hr⟩:=h;refine⟨L,e,hr.ir u,λp x=>⟨(d p x).2,λq=>?_,λq=>?_⟩⟩;have:=(hr.qv.lt _ q).2;grind;have:=(hr.ru.lt _ q).2;grind
theorem YD{xs:kY}{n:Int}(h:iC xs n=some i):some i∈xs:=by
 grind[iC]
def amZ(R:qQ (Nat×Nat)):Prop:=∀r σ',R=.ok r σ'->r.1<σ'.nodes.length/\r.2<σ'.nodes.length
structure Gh where
 g:Nat->Nat
 σ:N
 c:Nat
 last:Nat
 mark:Nat
structure RI(E:Env)(f:Nat->Nat)(σ:N)(w:J)(n fi il:Nat)(s:Gh)(W:J):Prop where
 le:s.c<=n
 ex:XF σ.nodes.length f s.g
 nl:σ.nodes.length<=s.σ.nodes.length
 ll:s.last<s.σ.nodes.length
 ml:s.mark<s.σ.nodes.length
 fe:s.σ.gZ (some fi)=true
 be:s.σ.gZ (some il)=true
 te:s.σ.gZ (some s.last)=true
 sf:SF E s.g s.σ W [(w.heap.size+1,nV f fi),(w.heap.size+1+1,nV f il),(w.heap.size+1+1+1,nV s.g s.last),(w.heap.size+1+1+1+1,nV s.g s.mark)]
 b3:W.heap[w.heap.size]?=some (gH #[Bp E] 117)
 b8:W.heap[w.heap.size+1+1+1+1+1]?=some (gH #[G s.c] 3)
 bl:W.heap[w.heap.size+1+1+1+1+1+1]?=some (gH #[j5 E.bB 188] 273)
 bn:W.heap[w.heap.size+1+1+1+1+1+1+1]?=some (gH #[G n] 3)
 fr:Fr E.bs w W
def RI.grown{s:Gh}{u:jj}(h:RI E f σ w n fi il s W)(d:W.grownBy W' u)(q:∀r,u=some r->B<=r/\∃o:Obj,W.heap[r]?=some o/\o.isCells=false)(x:E.w0.heap.size<=B)(y:w.heap.size<=B):RI E f σ w n fi il s W':=
 ⟨h.le,h.ex,h.nl,h.ll,h.ml,h.fe,h.be,h.te,h.sf.grown d q x,rJ d q h.b3,rJ d q h.b8,rJ d q h.bl,rJ d q h.bn,h.fr.grown d q y⟩
def SF.side{S:List (Nat×gP)}(h:SF E f σ w S){c:jL}{m:Nat×Nat}(y:w.heap[b]?=some (.cells c T m))(x:∀t∈abH,t≠T)(d:E.w0.heap.size<=b)(j:Nat)(u:gP):SF E f σ (w.setCell ⟨b,j,none⟩ u) S:=by
 have⟨L,e,hr,hs⟩:=h;refine⟨L,e,hr.side y x d j u,λp q=>⟨?_,(hs p q).2⟩⟩;have z:Z [b] w (w.setCell ⟨b,j,none⟩ u):=(Z.refl _ w).setCell (.inl (by simp)) _;refine z.at (hs p q).1 λC=>?_;have:=(hs p q).1;rw[(List.mem_singleton.1 C),y]at this;injection this with this;injection this with _ e2;exact x 66 (by decide) e2.symm
def Fr.amu{bs:Nat}(h:Fr bs w W)(d:w.heap.size<=k)(j:Nat)(u:gP):Fr bs w (W.setCell ⟨k,j,none⟩ u):=by
 have⟨S,h1,h2⟩:=h;exact⟨S,h1.setCell (.inr d) _,h2⟩
theorem RI.next{s:Gh}(h:RI E f σ w n fi il s W)(q:s.c<n)(y:E.w0.heap.size<=w.heap.size)(u:gP)(x:u=G ((s.c+1:Nat))):RI E f σ w n fi il ⟨s.g,s.σ,s.c+1,s.last,s.mark⟩ (W.setCell ⟨w.heap.size+1+1+1+1+1,0,none⟩ u):=by
 subst x;have d:Z [w.heap.size+1+1+1+1+1] W (W.setCell ⟨w.heap.size+1+1+1+1+1,0,none⟩ (G ((s.c+1)))):=(Z.refl _ W).setCell (.inl (by simp)) _;exact
  {le:=q,ex:=h.ex,nl:=h.nl,ll:=h.ll,ml:=h.ml,fe:=h.fe,be:=h.be,te:=h.te
   sf:=h.sf.side h.b8 (by decide) (by omega) 0 _
   b3:=d.at h.b3 (by grind)
   b8:=gh h.b8 0 _
   bl:=d.at h.bl (by simp)
   bn:=d.at h.bn (by grind)
   fr:=h.fr.amu (by omega) 0 _}
def RI.step{s:Gh}(h:RI E f σ w n fi il s W){q:Nat->Nat}(y:XF s.σ.nodes.length s.g q)(x:s.σ.nodes.length<=σ'.nodes.length)(u:Fr E.bs W W')(d:∀i,s.σ.gZ (some i)=true->σ'.gZ (some i)=true)
  (hs:SF E q σ' W' [(w.heap.size+1,nV f fi),(w.heap.size+1+1,nV f il),(w.heap.size+1+1+1,nV s.g s.last),(w.heap.size+1+1+1+1,nV s.g s.mark)]):RI E f σ w n fi il ⟨q,σ',s.c,s.last,s.mark⟩ W':=by
 have e1:nV s.g s.last=nV q s.last:=by unfold nV;rw[y _ h.ll]
 have e2:nV s.g s.mark=nV q s.mark:=by unfold nV;rw[y _ h.ml]
 rw[e1,e2]at hs;exact
  {le:=h.le,ex:=λi hi=>(y i (nr hi h.nl)).trans (h.ex i hi),nl:=jZ h.nl x,ll:=nr h.ll x,ml:=nr h.ml x,fe:=d _ h.fe,be:=d _ h.be,te:=d _ h.te
   sf:=hs
   b3:=u.at h.b3 (by decide),b8:=u.at h.b8 (by decide),bl:=u.at h.bl (by decide),bn:=u.at h.bn (by decide)
   fr:=h.fr.trans u}
def RI.ajI{s:Gh}(h:RI E f σ w n fi il s W)(x:Nat)(d:s.σ.gZ (some x)=true)(q:E.w0.heap.size<=w.heap.size)(wO:E.bs<=w.heap.size):RI E f σ w n fi il ⟨s.g,s.σ,s.c,x,s.mark⟩ (W.setCell ⟨w.heap.size+1+1+1,0,none⟩ (nV s.g x))/\Fr E.bs W (W.setCell ⟨w.heap.size+1+1+1,0,none⟩ (nV s.g x)):=by
 have⟨q1,q2⟩:=h.sf.set (k:=w.heap.size+1+1+1) (v:=nV s.g s.last) (by simp) (by omega) (by omega) (nV s.g x) [(w.heap.size+1,nV f fi),(w.heap.size+1+1,nV f il),(w.heap.size+1+1+1,nV s.g x),(w.heap.size+1+1+1+1,nV s.g s.mark)] (by
  simp)
 exact⟨{le:=h.le,ex:=h.ex,nl:=h.nl,ll:=N.nh d,ml:=h.ml,fe:=h.fe,be:=h.be,te:=d,sf:=q1,b3:=q2.at h.b3 (by decide),b8:=q2.at h.b8 (by decide),bl:=q2.at h.bl (by decide),bn:=q2.at h.bn (by decide),fr:=h.fr.trans q2},q2⟩
def RI.ajJ{s:Gh}(h:RI E f σ w n fi il s W)(x:Nat)(q:s.σ.gZ (some x)=true)(d:E.w0.heap.size<=w.heap.size)(wO:E.bs<=w.heap.size):RI E f σ w n fi il ⟨s.g,s.σ,s.c,s.last,x⟩ (W.setCell ⟨w.heap.size+1+1+1+1,0,none⟩ (nV s.g x))/\Fr E.bs W (W.setCell ⟨w.heap.size+1+1+1+1,0,none⟩ (nV s.g x)):=by
 have⟨q1,q2⟩:=h.sf.set (k:=w.heap.size+1+1+1+1) (v:=nV s.g s.mark) (by simp) (by omega) (by omega) (nV s.g x) [(w.heap.size+1,nV f fi),(w.heap.size+1+1,nV f il),(w.heap.size+1+1+1,nV s.g s.last),(w.heap.size+1+1+1+1,nV s.g x)] (by
  simp)
 exact⟨{le:=h.le,ex:=h.ex,nl:=h.nl,ll:=h.ll,ml:=N.nh q,fe:=h.fe,be:=h.be,te:=h.te,sf:=q1,b3:=q2.at h.b3 (by decide),b8:=q2.at h.b8 (by decide),bl:=q2.at h.bl (by decide),bn:=q2.at h.bn (by decide),fr:=h.fr.trans q2},q2⟩
theorem XQ{d:Nat}(h:kq j σ=.ok d σ'):σ'.gZ (some d)=true:=by
 unfold kq at h;split at h;split at h;cases h;cases h;show((σ.add _).gU _).isSome=true;grind[N.su];grind
def RI.k0{s:Gh}(h:RI E f σ w n fi il s W)(d:Z [] W W'):RI E f σ w n fi il s W':=
 ⟨h.le,h.ex,h.nl,h.ll,h.ml,h.fe,h.be,h.te,h.sf.ir d,d.at h.b3 (by simp),d.at h.b8 (by simp),d.at h.bl (by simp),d.at h.bn (by simp),h.fr.trans (.ib d)⟩
def Zv(f il k c last h e:Nat):M (Nat×Nat):=λσ=>if some e∉σ.act then (jR (some e)>>=λ_=>mN f il k (c+1) last h) σ else
 (kq e>>=λd=>yR (some e) (some d)>>=λ_=>pY (some e) (some d)>>=λ_=>lX last>>=λ_=>jg d>>=λpl=>kD pl last>>=λ_=>mN f il k (c+1) d (if last=il then d else h)) σ
theorem Wl{f last d:Nat}{R:qQ (Nat×Nat)}(u:R=mN f il (k+1) c last d σ)(hs:R≠ .stuck):∃e,iC σ.gq (k:Int)=some e/\((e=f/\R=.ok (last,d) σ)\/(e≠f/\R=((if 3<c+1 then kM (some e)else pure ())>>=λ_=>Zv f il k c last d e) σ)):=by
 have h:R=(GG k>>=λe=>if e=f then pure _ else ((if 3<c+1 then kM _ else pure ())>>=λ_=>Zv f il k c last d e)) σ:=u;rw[M.gw]at h;unfold GG at h;cases hq:iC _ (k)with
 |none=>grind
 |some e=>
  rw[hq]at h;dsimp at h;refine⟨e,rfl,?_⟩;by_cases q:e=f;rw[sL q]at h;exact .inl ⟨q,h⟩;grind
theorem RF.eql{g:Nat->Nat}(h:RF E g σ W)(hi:σ.gZ (some i)=true)(q:σ.gZ (some j)=true):(binOp .eql 66 (nV g i) (nV g j)).run prog W=.ok (.bool (decide (i=j))) W:=by
 obtain⟨L,rfl,d⟩:=h;have:=Ek (d.gZ hi) (d.gZ q);rw[show decide (iF _ (some i)=iF _ (some j))=decide _ from decide_eq_decide.2 ⟨λe=>d.inj _ _ (Ki e),by grind⟩]at this;exact this
theorem agQ(h:RF E f σ w)(fi il:Nat)(bd:(σ.gU fi).isSome=true)(bD:some il∈σ.gq)(hs:zm fi il σ≠ .stuck):
  Calls prog 364 #[Bp E,nV f fi,nV f il] w (λe w'=>Leaves E f σ.nodes.length w (zm fi il σ) (λg r=> .tuple #[nV g r.1,nV g r.2]) e w'/\amZ (zm fi il σ)):=by
 obtain⟨R,hR⟩:∃R,R=zm fi il σ:=⟨_,rfl⟩;rw[<-hR]at hs|-;obtain⟨n,hn⟩:∃n,n=(posOf σ.gq (some il)).toNat:=⟨_,rfl⟩;have bC:R=mN fi il n 0 il fi σ:=by rw[hR,hn];rfl
 have bL:posOf σ.gq (some il)=(n:Int):=by
  rw[hn];rcases uB σ.gq (some il)with⟨ci,_⟩|⟨m,hp,_⟩;grind;omega
 have bP:Wf σ:=by have⟨L,_,hr⟩:=h;exact hr.wf
 have a7:(σ.gU il).isSome=true:=bP.gq _ bD;have bE:σ.gZ (some il)=true:=N.xB (bP.gq _ bD);have co:σ.gq.length<=4096:=by have⟨L,_,hr⟩:=h;exact hr.yK
 have ch:n<=4096:=by
  rcases uB σ.gq (some il)with⟨ci,_⟩|⟨m,hp,hm,_⟩;omega;omega
 have cu:=h.lt;have bf:E.w0.heap.size<=w.heap.size:=by have⟨L,_,hr⟩:=h;exact hr.fr.size
 have wO:E.bs<=w.heap.size:=by have⟨L,_,hr⟩:=h;have:=hr.bB;omega
 have HF:=V h;have HR:=V bC;have HS:=V hs;have bT:=V bE;have HP:=V bL;clear h hR bC hs;refine(XB (n:=9)).1 ?_;refine abz func364 rfl trivial ?_ rfl;simp only[ntmps364,abw,pG,Kk,Nat.reduceAdd,Nat.reduceSub,sR,yD,wL,yE,abu,yF];obtain⟨w5,av⟩:∃w5,w5=((((w.alloc (gH #[Bp E] 117)).alloc (gH #[nV f fi] 66)).alloc (gH #[nV f il] 66)).alloc (gH #[.pointer none] 66)).alloc (gH #[.pointer none] 66):=⟨_,rfl⟩;have bH:Z [] w w5:=by rw[av];exact(((((Z.refl _ _).alloc _).alloc _).alloc _).alloc _).alloc _
 have bQ:w5.heap.size=w.heap.size+1+1+1+1+1:=by rw[av];simp
 have⟨b3,b4,b5,b6,b7⟩:=UR w (gH #[Bp E] 117) (gH #[nV f fi] 66) (gH #[nV f il] 66) (gH #[.pointer none] 66) (gH #[.pointer none] 66);rw[<-av]at b3 b4 b5 b6 b7;have c4:=fP b4 0;have c5:=fP b5 0;have c6:=fP b6 0;have c7:=fP b7 0;have f6:=gx b6 0;have f7:=gx b7 0;dsimp at c4 c5 c6 c7;have az:=V av;have bj:=V bH;have br:=V bQ;have B3:=V b3;have B4:=V b4;have B5:=V b5;have B6:=V b6;have B7:=V b7;clear av bH bQ b3 b4 b5 b6 b7
 gi_wp2_with fail
 rw[<-az.out];rename_i K1 bw;refine C8 (Q:=Exit.then (λa W'=>a={tmps:=#[Bp E,nV f fi,nV f il,gI w.heap.size,gI (w.heap.size+1),gI (w.heap.size+1+1),gI (w.heap.size+1+1+1),gI (w.heap.size+1+1+1+1),undef,undef,undef,nV f il,nV f fi,undef,undef,undef,undef,undef,undef,undef,undef,undef,undef,undef,undef,undef,undef,undef,undef,undef,undef,undef,undef,undef,undef,undef,undef,undef,undef,undef,undef,undef,undef,undef,undef,undef,undef,undef,undef,undef,undef,undef,undef,undef,undef,undef,undef,undef,undef,undef,undef,undef,undef,undef,undef,undef,undef,undef,undef,undef],defers:=[]}/\W'.heap.size=w5.heap.size/\Z [] w W'/\Z [w.heap.size+1+1+1,w.heap.size+1+1+1+1] w5 W'/\W'.heap[w.heap.size+1+1+1]?=some (gH #[nV f il] 66)/\W'.heap[w.heap.size+1+1+1+1]?=some (gH #[nV f fi] 66)) (λ_ _ _=>False)) ?_ ?_
 .refine wpIn_wide.2 ?_;go_region;refine⟨rfl,by simp,((bj.out.setCell (.inr (by simp;omega)) _).setCell (.inr (by simp;omega)) _).drew,(((Z.refl _ w5).setCell (.inl (by simp)) _).setCell (.inl (by simp)) _).drew,?_,?_⟩;exact(Below.heap_setCell _ _ _ _ (by simp)).trans (gh B6.out 0 _);exact gh ((Below.heap_setCell _ _ _ _ (by simp)).trans B7.out) 0 _
 .intro e a W' hq;cases e with
  |normal=>
   obtain⟨rfl,bg,bI,aL,g6,g7⟩:=hq;show K1 _ W';dsimp only;refine bw _ _ ?_;have g3:=aL.at B3.out (by simp;omega);have g4:=aL.at B4.out (by simp);have g5:=aL.at B5.out (by simp);rw[br.out]at bg;have aB:=V bg;have bk:=V bI;have G3:=V g3;have G4:=V g4;have G5:=V g5;have G6:=V g6;have G7:=V g7;clear bg bI aL g3 g4 g5 g6 g7 c4 c5 c6 c7 f6 f7 B3 B4 B5 B6 B7 bj br az w5 bw
   gi_wp2_with fail
   rw[aB.out];have ac:Z [] W' (W'.alloc (gH #[G 0] 3)):=(Z.refl _ _).alloc _;have g8:(W'.alloc (gH #[G 0] 3)).heap[w.heap.size+1+1+1+1+1]?=some (gH #[G 0] 3):=by rw[<-aB.out];exact fU W' _
   have bR:(W'.alloc (gH #[G 0] 3)).heap.size=w.heap.size+1+1+1+1+1+1:=by rw[Xu,aB.out]
   have ak:=V (bk.out.trans ac);replace G3:=V (ac.at G3.out (by simp));replace G4:=V (ac.at G4.out (by simp));replace G5:=V (ac.at G5.out (by simp));replace G6:=V (ac.at G6.out (by simp));replace G7:=V (ac.at G7.out (by simp));have G8:=V g8;have an:=V bR;clear ac g8 bR bk aB;generalize W'.alloc (gH #[G 0] 3)=W8 at *;have c3:=fP G3.out 0;have c5:=fP G5.out 0;dsimp at c3 c5;have cf:=(HF.out.ir ak.out).lt;have aS:=V ((HF.out.ir ak.out.drew).alh (some il) bT.out);rw[HP.out]at aS;rename_i Kb cs Ka bz;obtain⟨P3,bB⟩:∃P3:Act->J->Prop,P3=(λa I=>∃aC aD aE aF,a={tmps:=#[Bp E,nV f fi,nV f il,gI w.heap.size,gI (w.heap.size+1),gI (w.heap.size+1+1),gI (w.heap.size+1+1+1),gI (w.heap.size+1+1+1+1),gI (w.heap.size+1+1+1+1+1),undef,undef,nV f il,nV f fi,aC,aD,aE,aF,wJ (w.heap.size+1+1+1+1+1+1),undef,undef,undef,undef,undef,undef,undef,undef,undef,undef,undef,undef,undef,undef,undef,undef,undef,undef,undef,undef,undef,undef,undef,undef,undef,undef,undef,undef,undef,undef,undef,undef,undef,undef,undef,undef,undef,undef,undef,undef,undef,undef,undef,undef,undef,undef,undef,undef,undef,undef,undef,undef],defers:=[]}/\Z [] W8 I/\I.heap[w.heap.size+1+1+1+1+1+1]?=some (gH #[j5 E.bB 188] 273)/\I.heap[w.heap.size+1+1+1+1+1+1+1]?=some (gH #[G n] 3)):=⟨_,rfl⟩;have aW:=V bB;clear bB;refine C8 (Q:=Exit.then P3 (λ_ _ _=>False)) ?_ ?_
   .refine wpIn_wide.2 ?_
    go_region_with (go_at_call 376;refine aS.out.mono ?_;rintro e w9⟨rfl,bM⟩;have b0:=V bM;clear bM)
    all_goals
     show P3 _ w9;rw[aW.out,an.out];refine⟨_,_,_,_,rfl,?_,?_,?_⟩;rw[b0.out];exact(((Z.refl [] W8).drew).alloc _).alloc _;rw[b0.out,<-an.out];exact(ur W8.drew _ _).1;rw[b0.out,<-an.out];exact(ur W8.drew _ _).2
   .intro e a I hq;cases e with
    |normal=>
     replace hq:P3 a I:=hq;rw[aW.out]at hq;obtain⟨aC,aD,aE,aF,rfl,a1,g9,bv⟩:=hq;show Ka _ I;dsimp only;refine bz _ _ ?_;have cw:w.heap.size+1+1+1+1+1+1<=I.heap.size:=by have:=an.out;have:=a1.size;omega
     have bF:RI E f σ w n fi il ⟨f,σ,0,il,fi⟩ I:=
      {le:=xj _,ex:=λ_ _=>rfl,nl:=ic _,ll:=N.nh (σ:=σ) (i:=il) a7,ml:=N.nh (σ:=σ) (i:=fi) bd,fe:=bd,be:=a7,te:=a7
       sf:=HF.out.sf (ak.out.trans a1) (by
        intro p hp;simp only[Db,tw,tz]at hp;rcases hp with rfl|rfl|rfl|rfl;exact⟨by simp,a1.at G4.out (by simp)⟩;exact⟨by omega,a1.at G5.out (by simp)⟩;exact⟨by omega,a1.at G6.out (by simp)⟩;exact⟨by omega,a1.at G7.out (by simp)⟩)
       b3:=a1.at G3.out (by simp),b8:=a1.at G8.out (by simp),bl:=g9,bn:=bv
       fr:=.ib (ak.out.trans a1)}
     have bW:=V bF;clear bF a1 g9 bv G3 G4 G5 G6 G7 G8 ak an aS aW c3 c5 cf bz Ka P3 W8
     gi_wp2_with fail
     refine ahm (b:=E.bB) (j:=188) (bs:=w.heap.size+1+1+1+1+1+1) (by omega) ch rfl (λs:Gh=>iF s.g (iC s.σ.gq ((n-1-s.c:Nat):Int))) Gh.c
      (λs W=>RI E f σ w n fi il s W/\R=mN fi il (n-s.c) s.c s.last s.mark s.σ)
      (λc s W=>c=.exit 0/\RI E f σ w n fi il s W/\R=.ok (s.last,s.mark) s.σ)
      ?_ ?_ ?_ ?_ ?_ ⟨f,σ,0,il,fi⟩ rfl ⟨bW.out,HR.out⟩ (λx=>{tmps:=#[Bp E,nV f fi,nV f il,gI w.heap.size,gI (w.heap.size+1),gI (w.heap.size+1+1),gI (w.heap.size+1+1+1),gI (w.heap.size+1+1+1+1),gI (w.heap.size+1+1+1+1+1),kX x,undef,nV f il,nV f fi,aC,aD,aE,aF,wJ (w.heap.size+1+1+1+1+1+1),kX x,undef,undef,undef,undef,undef,undef,undef,undef,undef,undef,undef,undef,undef,undef,undef,undef,undef,undef,undef,undef,undef,undef,undef,undef,undef,undef,undef,undef,undef,undef,undef,undef,undef,undef,undef,undef,undef,undef,undef,undef,undef,undef,undef,undef,undef,undef,undef,undef,undef,undef,undef],defers:=[]}) ?assign ?body ?done ?stop
     rintro s A B cl⟨u,h2⟩ hg hr;exact⟨u.grown hg hr (by omega) (by omega),h2⟩;rintro c s A B cl⟨h0,u,h2⟩ hg hr;exact⟨h0,u.grown hg hr (by omega) (by omega),h2⟩;rintro s W⟨u,_⟩;rw[fP u.bn];rfl;rintro s W⟨u,_⟩;rw[fP u.bl];rfl;rintro s W q⟨u,_⟩ bK rfl;exact u.sf.rf.dQ _
     case assign=>
      intro l x W K hK;dsimp only;gi_wp2;exact hK
     case body=>
      rintro l s W⟨u,h2⟩ bK;dsimp only;obtain⟨k,hk⟩:∃k,k=n-1-s.c:=⟨_,rfl⟩;have cc:n-s.c=k+1:=by omega
      rw[cc]at h2;have⟨e,hge,hcase⟩:=Wl h2 HS.out;rw[<-hk,hge];rw[show kX (iF s.g (some e))=nV s.g e from rfl];have ae:s.σ.gZ (some e)=true:=by
       have⟨L,_,hr,_⟩:=u.sf;exact hr.wf.gq _ (YD hge)
      have c3:=fP u.b3 0;dsimp at c3;have c4:W.cell? ⟨w.heap.size+1,0,none⟩=some (nV s.g fi):=by
       rw[fP (u.sf.at (v:=nV f fi) (by simp)),show nV s.g fi=nV f fi by unfold nV;rw[u.ex fi (N.nh (σ:=σ) (i:=fi) bd)]];rfl
      have c8:=fP u.b8 0;have f8:=gx u.b8 0;dsimp at c8;have bc:=u.sf.rf.eql ae u.fe;have ct:s.c<4096:=by omega
      rcases hcase with⟨rfl,ap⟩|⟨cg,ap⟩
      .rw[Hl rfl]at bc;have H1:=V u;have H3:=V ap;clear u h2 ap hge ae;unfold nV at *;gi_wp2;exact⟨KeepsFrom.refl _ _,s,rfl,H1.out,H3.out⟩
      .rw[qW cg]at bc;have b2:=u.next bK bf (G ((s.c:Int)+1)) (by simp);obtain⟨W6,aI⟩:∃W6,W6=W.setCell ⟨w.heap.size+1+1+1+1+1,0,none⟩ (G ((s.c:Int)+1)):=⟨_,rfl⟩;have aP:KeepsFrom I.heap.size W W6:=by rw[aI];exact(C9 _ _ _).from _
       rw[<-aI]at b2;have ai:=V b2;have ad:=V aP;have aA:=V aI;have ab:=V ap;have aw:=V ae;clear u h2 ap hge b2 aP aI ae;unfold nV at *;by_cases h3:3<s.c+1;have am:Hid (R=(kM (some e)>>=λ_=>Zv fi il k s.c s.last s.mark e) s.σ):=by
        refine V ?_;have:=ab.out
        rwa [sL h3]at this
       gi_wp2_with fail
       rw[<-aA.out];refine zq l (callsIn_wide.2 (Eu (aeo E (some e)) ai.out.sf am.out HS.out rfl ?_));rintro a a2 WA x2 x3 z x5 C;have hA:=ai.out.step (λ_ _=>rfl) x2 z (L6 _ _ _ _ C) x3;have a9:=L6 _ _ _ _ C e aw.out;have b9:=ad.out.trans (z.qd I.heap.size);have ba:=x5;clear x2 x3 z x5 C ai am ab ad aw aA c3 c4 c8 f8 bc
       rotate_left
       have am:Hid (R=Zv fi il k s.c s.last s.mark e s.σ):=by
        refine V ?_;have:=ab.out
        rwa [Xx h3]at this
       obtain⟨a2,af⟩:∃a2,a2=s.σ:=⟨_,rfl⟩;obtain⟨WA,aK⟩:∃WA,WA=W6:=⟨_,rfl⟩;have hA:RI E f σ w n fi il ⟨s.g,a2,s.c+1,s.last,s.mark⟩ WA:=by rw[af,aK];exact ai.out
       have a9:a2.gZ (some e)=true:=by rw[af];exact aw.out
       have b9:KeepsFrom I.heap.size W WA:=by rw[aK];exact ad.out
       have ba:R=Zv fi il k s.c s.last s.mark e a2:=by rw[af];exact am.out
       have c9:=V (aK.trans aA.out);clear ai ab ad aw am af aK aA
       all_goals
        have c3:=fP hA.b3 0;dsimp at c3;have aR:=V (hA.sf.rf.ano (some e) a9);have HA:=V hA;have ay:=V ba;have F:=V b9;clear hA ba b9
        gi_wp2_with fail
        try rw[<-c9.out]
        refine(zq l (callsIn_wide.2 aR.out)).mono ?_;rintro e' w_⟨rfl,ck⟩;subst ck;by_cases a5:some e∈a2.act
        .have aq:R=(kq e>>=λd=>yR (some e) (some d)>>=λ_=>pY (some e) (some d)>>=λ_=>lX s.last>>=λ_=>jg d>>=λpl=>kD pl s.last>>=λ_=>mN fi il k (s.c+1) d (if s.last=il then d else s.mark)) a2:=by
          rw[ay.out];unfold Zv;rw[Xx (by simpa using a5)]
         have al:=V aq;rw[Hl a5];clear aq a5 ay aR
         gi_wp2_with fail
         refine zq l (callsIn_wide.2 (anS (abW E e) HA.out.sf al.out HS.out rfl ?_));rintro d y cm W2 x1 x2 x3 z x5 C;have h2:=HA.out.step x1 x2 z (UA _ _ _ _ C) x3;have cn:y e=s.g e:=x1 e (N.nh (σ:=a2) (i:=e) a9);have aa:=V (XQ C);have aj:=V h2;have bq:=V x5;replace F:=V (F.out.trans (z.qd I.heap.size));have c3:=fP h2.b3 0;dsimp at c3;clear h2 x1 x2 x3 z x5 C HA al a9
         gi_wp2_with fail
         refine zq l (callsIn_wide.2 (Eu (ai7 E (some e) (some d)) aj.out.sf bq.out HS.out (by show _=#[_,nV y e,nV y d];simp) ?_));rintro a3 cx W3 x2 x3 z x5 C;have b1:=aj.out.step (λ_ _=>rfl) x2 z (PF _ _ _ _ _ C) x3;replace aa:=V (PF _ _ _ _ _ C d aa.out);have aT:=V b1;have ab:=V x5;replace F:=V (F.out.trans (z.qd I.heap.size));have c3:=fP b1.b3 0;dsimp at c3;clear b1 x2 x3 z x5 C aj bq
         gi_wp2_with fail
         refine zq l (callsIn_wide.2 (Eu (ahT E (some e) (some d)) aT.out.sf ab.out HS.out (by show _=#[_,nV y e,nV y d];simp) ?_));rintro a4 bS W4 x2 x3 z x5 C;have h4:=aT.out.step (λ_ _=>rfl) x2 z (PD _ _ _ _ _ C) x3;replace aa:=V (PD _ _ _ _ _ C d aa.out);have ax:=V h4;have ar:=x5;replace F:=V (F.out.trans (z.qd I.heap.size));have c5:W4.cell? ⟨w.heap.size+1+1,0,none⟩=some (nV y il):=by
          have cv:y il=f il:=h4.ex il (N.nh (σ:=σ) (i:=il) a7);rw[fP (h4.sf.at (k:=w.heap.size+1+1) (v:=nV f il) (by simp)),show nV y il=nV f il by simp];rfl
         have c6:=fP (h4.sf.at (k:=w.heap.size+1+1+1) (v:=nV y s.last) (by simp)) 0;have c7:=fP (h4.sf.at (k:=w.heap.size+1+1+1+1) (v:=nV y s.mark) (by simp)) 0;have f7:=gx (h4.sf.at (k:=w.heap.size+1+1+1+1) (v:=nV y s.mark) (by simp)) 0;dsimp at c6 c7;have au:(binOp .eql 66 (nV y s.last) (nV y il)).run prog W4=.ok (.bool (decide (s.last=il))) W4:=h4.sf.rf.eql h4.te h4.be;clear h4 x2 x3 z x5 C aT ab;unfold nV at c5 c6 c7 au;generalize hmk:(if s.last=il then d else s.mark)=mk at ar;by_cases ag:s.last=il;rw[Hl ag]at au;have⟨q1,q2⟩:=ax.out.ajJ d aa.out bf wO;obtain⟨W5,aH⟩:∃W5,W5=W4.setCell ⟨w.heap.size+1+1+1+1,0,none⟩ (gI (y d)):=⟨_,rfl⟩;have q3:RI E f σ w n fi il ⟨y,bS,s.c+1,s.last,mk⟩ W5:=by rw[aH,<-hmk,sL ag];exact q1
         have q4:KeepsFrom I.heap.size W4 W5:=by rw[aH];exact q2.qd I.heap.size
         have H5:=V q3;replace F:=V (F.out.trans q4);have az:=V aH;have aX:=V ar;clear q1 q2 q3 q4 aH ax ar ag hmk
         gi_wp2_with fail
         rw[<-az.out]
         rotate_left
         rw[qW ag]at au;have H5:=V (show RI E f σ w n fi il ⟨y,bS,s.c+1,s.last,mk⟩ W4 by rw[<-hmk,Xx ag];exact ax.out);have aX:=V ar;clear ax ar ag hmk
         gi_wp2_with fail
         all_goals
          refine zq l (callsIn_wide.2 (Eu (adN E s.last) H5.out.sf aX.out HS.out rfl ?_));rintro a6 cy W7 x2 x3 z x5 C;have h6:=H5.out.step (λ_ _=>rfl) x2 z (JB _ _ _ _ C) x3;have h7:=h6.k0 ((Z.refl _ W7).drew);have c6:=fP (h6.sf.at (k:=w.heap.size+1+1+1) (v:=nV y s.last) (by simp)) 0;dsimp at c6;replace aa:=V (JB _ _ _ _ C d aa.out);have H7:=V h7;have c1:=V x5;replace F:=V ((F.out.trans (z.qd I.heap.size)).trans ((Fr.ib (bs:=E.bs) ((Z.refl _ W7).drew)).qd I.heap.size));clear h6 h7 x2 x3 z x5 C H5 aX;unfold nV at c6
          gi_wp2_with fail
          have bh:Hid (Calls prog 90 #[nV y d] W7.drew λe WE=>∃pl a0,e=iA (pV y pl)/\RI E f σ w n fi il ⟨y,a0,s.c+1,s.last,mk⟩ WE/\KeepsFrom I.heap.size W WE/\R=(kD pl s.last>>=λ_=>mN fi il k (s.c+1) d mk) a0/\a0.gZ (some d)=true):=by
           refine V ?_;refine Eu (aio E d) H7.out.sf c1.out HS.out rfl ?_;rintro pl a0 WE x2 x3 z x5 C;exact⟨pl,a0,rfl,H7.out.step (λ_ _=>rfl) x2 z (PE _ _ _ _ C) x3,F.out.trans (z.qd I.heap.size),x5,PE _ _ _ _ C d aa.out⟩
          have bi:Hid (∀pl a0 WE,RI E f σ w n fi il ⟨y,a0,s.c+1,s.last,mk⟩ WE->KeepsFrom I.heap.size W WE->R=(kD pl s.last>>=λ_=>mN fi il k (s.c+1) d mk) a0->a0.gZ (some d)=true->Calls prog 166 #[pV y pl,.iface 66 (nV y s.last)] WE λe WP=>e=qs/\∃ah,RI E f σ w n fi il ⟨y,ah,s.c+1,s.last,mk⟩ WP/\KeepsFrom I.heap.size W WP/\R=mN fi il k (s.c+1) d mk ah/\ah.gZ (some d)=true):=by
           refine V ?_;intro pl a0 WE y1 y2 y3 y4;refine Eu (ajr E pl s.last) y1.sf y3 HS.out rfl ?_;rintro a8 ah WP x2 x3 z x5 C;exact⟨rfl,ah,y1.step (λ_ _=>rfl) x2 z (PG _ _ _ _ _ C) x3,y2.trans (z.qd I.heap.size),x5,PG _ _ _ _ _ C d y4⟩
          unfold nV at bh bi
          gi_region_with (first
           |(refine(zq l (callsIn_wide.2 bh.out)).mono ?_;rintro e' WE⟨pl,a0,rfl,y1,y2,y3,y4⟩;have cp:WE.cell? ⟨w.heap.size+1+1+1,0,none⟩=some (gI (y s.last)):=by {rw[fP (y1.sf.at (k:=w.heap.size+1+1+1) (v:=nV y s.last) (by simp))];rfl};have CP:=V (bi.out pl a0 WE y1 y2 y3 y4);clear y1 y2 y3 y4)
           |(refine(zq l (callsIn_wide.2 CP.out)).mono ?_;rintro e' WP⟨rfl,ah,y1,y2,y3,y4⟩;have cq:WP.cell? ⟨w.heap.size+1+1+1,0,none⟩=some (gI (y s.last)):=by {rw[fP (y1.sf.at (k:=w.heap.size+1+1+1) (v:=nV y s.last) (by simp))];rfl};have cr:=gx (y1.sf.at (k:=w.heap.size+1+1+1) (v:=nV y s.last) (by simp)) 0;have bo:=V (y1.ajI d y4 bf wO);have bp:=V y3;have c0:=V y2;clear y1 y2 y3 y4))
          all_goals
           gi_wp2;exact⟨c0.out.trans (bo.out.2.qd I.heap.size),_,rfl,bo.out.1,by rw[show n-(s.c+1)=k by omega];exact bp.out⟩
        .have aq:R=(jR (some e)>>=λ_=>mN fi il k (s.c+1) s.last s.mark) a2:=by
          rw[ay.out];unfold Zv;rw[sL a5]
         have al:=V aq;rw[qW a5];clear aq a5 ay aR
         gi_wp2_with fail
         refine zq l (callsIn_wide.2 (Eu (agl E (some e)) HA.out.sf al.out HS.out rfl ?_));rintro a cm W2 x2 x3 z x5 C;have h2:=HA.out.step (λ_ _=>rfl) x2 z (Yj _ _ _ _ C) x3;have aj:=V h2;have ca:=V x5;have bm:=V (F.out.trans (z.qd I.heap.size));clear h2 x2 x3 z x5 C HA al F c3;gi_wp2;exact⟨bm.out,_,rfl,aj.out,by rw[show n-(s.c+1)=k by omega];exact ca.out⟩
     rintro D s W hD hc⟨u,h2⟩ hK;have bb:R=.ok (s.last,s.mark) s.σ:=by
      rw[h2,show n-s.c=0 by omega];rfl
     clear h2 hc
     rotate_left
     rintro D c s W hD⟨rfl,u,bb⟩ hK
     all_goals
      have c6:=fP (u.sf.at (k:=w.heap.size+1+1+1) (v:=nV s.g s.last) (by simp)) 0;have c7:=fP (u.sf.at (k:=w.heap.size+1+1+1+1) (v:=nV s.g s.mark) (by simp)) 0;have f6:=gx (u.sf.at (k:=w.heap.size+1+1+1) (v:=nV s.g s.last) (by simp)) 0;have f7:=gx (u.sf.at (k:=w.heap.size+1+1+1+1) (v:=nV s.g s.mark) (by simp)) 0;dsimp at c6 c7;have s6:=qG (u.sf.at (k:=w.heap.size+1+1+1) (v:=nV s.g s.last) (by simp)) 0 (nV s.g s.last) rfl;have s7:=qG (u.sf.at (k:=w.heap.size+1+1+1+1) (v:=nV s.g s.mark) (by simp)) 0 (nV s.g s.mark) rfl;have S6:=V s6;have S7:=V s7;have H1:=V u;have c2:=V bb;have HD:=V hD;have bX:=V hK;clear u bb hD hK s6 s7
      gi_wp2_with fail
      rename_i Kx bA;obtain⟨ao,aQ⟩:∃ao:Act->J->Prop,ao=(λa W'=>∃bt bu,a={tmps:=#[Bp E,nV f fi,nV f il,gI w.heap.size,gI (w.heap.size+1),gI (w.heap.size+1+1),gI (w.heap.size+1+1+1),gI (w.heap.size+1+1+1+1),gI (w.heap.size+1+1+1+1+1),undef,undef,nV f il,nV f fi,aC,aD,aE,aF,wJ (w.heap.size+1+1+1+1+1+1),undef,undef,undef,undef,undef,undef,undef,undef,undef,undef,undef,undef,undef,undef,undef,undef,undef,undef,undef,undef,undef,undef,undef,undef,undef,undef,undef,undef,undef,undef,undef,undef,undef,undef,undef,undef,undef,undef,undef,undef,undef,undef,undef,undef,undef,undef,undef,undef,undef,undef,bt,bu],defers:=[{target:=Target.collected D,args:=#[]}]}/\W'=W.drew):=⟨_,rfl⟩;have aM:=V aQ;clear aQ;refine C8 (Q:=Exit.then ao (λ_ _ _=>False)) ?_ ?_
      .refine wpIn_wide.2 ?_;go_region
       all_goals
        show ao _ _;rw[aM.out];refine⟨_,_,rfl,?_⟩;show((W.setCell ⟨w.heap.size+1+1+1,0,none⟩ (nV s.g s.last)).setCell ⟨w.heap.size+1+1+1+1,0,none⟩ (nV s.g s.mark)).drew=W.drew;rw[S6.out,S7.out]
      .intro e a W' hq;cases e with
       |normal=>
        replace hq:ao a W':=hq;rw[aM.out]at hq;obtain⟨bt,bu,rfl,rfl⟩:=hq;show Kx _ _;dsimp only;refine bA _ _ ?_;clear bA;have c6:W.drew.cell? ⟨w.heap.size+1+1+1,0,none⟩=some (nV s.g s.last):=c6;gi_wp2;have bx:W.drew.heap[D]?=some (.deferred (some [])):=bX.out;refine⟨by simp,.inl ⟨_,_,rfl,N4 bx,?_⟩⟩;have hD:=HD.out;have h7:=H1.out.k0 ((Z.refl _ W).drew);have d6:(W.drew.putObj D (.deferred none)).cell? ⟨w.heap.size+1+1+1,0,none⟩=some (nV s.g s.last):=(Ai W.drew (by omega)).trans c6;have d7:(W.drew.putObj D (.deferred none)).cell? ⟨w.heap.size+1+1+1+1,0,none⟩=some (nV s.g s.mark):=(Ai W.drew (by omega)).trans c7;refine⟨.tuple #[nV s.g s.last,nV s.g s.mark],by simp[results,results364,asAddr,Result.andThen,go_sem,d6,d7],?_⟩;rw[c2.out];have⟨L,hLe,hr,_⟩:=h7.sf;exact⟨⟨s.g,h7.ex,h7.nl,rfl,⟨L,hLe,hr.ajt bx rfl (by omega)⟩,h7.fr.take (by omega) _⟩,λr σ' cj=>by cases cj;exact⟨h7.ll,h7.ml⟩⟩
       |_=>exact hq.elim
    |_=>exact hq.elim
  |_=>exact hq.elim
end
def dL(E:Env)(L:Loc)(i:Nat)(σ':N)(w w':J):Prop:=∃d,d.gQ=L.gQ/\(∀x,x≠i->d.kv x=L.kv x)/\Rel E d σ' w'/\Fr E.bs w w'
theorem Rel.akS(h:Rel E L σ w)(i:Nat)(d:gP)(hi:(σ.gU i).isSome=true)(K:KT E.bs [136,138,277] w w')(z:d.ownBlock=(L.kv i).ownBlock\/∀g,d.ownBlock=some g->w.heap.size<=g)
  (q:σ'.nodes.length=σ.nodes.length) (a0:∀j D,σ'.gU j=some D->∃e,σ.gU j=some e/\D.name=e.name) (a1:∀j,σ'.gU j=none->σ.gU j=none)
  (C:∀j nd,σ'.nodes[j]?=some nd->me E.bs {L with kv:=λx=>if x=i then d else L.kv x} w' j nd) (wf:Wf σ')
  (s0:σ'.gq=σ.gq:=by rfl) (s9:σ'.act=σ.act:=by rfl) (s1:σ'.head=σ.head:=by rfl) (s2:σ'.form=σ.form:=by rfl) (s3:σ'.mode=σ.mode:=by rfl) (s4:σ'.kept=σ.kept:=by rfl) (s5:σ'.im=σ.im:=by rfl) (s6:σ'.jA=σ.jA:=by rfl) (s7:σ'.gQ=σ.gQ:=by rfl) (s8:σ'.behind=σ.behind:=by rfl) (sw:σ'.waiting=σ.waiting:=by rfl) (so:σ'.nW=σ.nW:=by rfl) (sp:σ'.iU=σ.iU:=by rfl) (sf:σ'.fresh=σ.fresh:=by rfl) (d1:σ'.qZ=σ.qZ:=by rfl) (d2:σ'.sB=σ.sB:=by rfl) (d3:σ'.qu=σ.qu:=by rfl):dL E L i σ' w w':=by
 have I:∀j g,j<σ.nodes.length->j≠i->d.ownBlock=some g->(L.kv j).ownBlock≠some g:=by
  intro j g hj y F u;rcases z with e|e;rw[e]at F;exact h.Dk i j g (N.nh hi) hj (yZ y) F u;grind[Ay]
 refine⟨{L with kv:=λx=>if x=i then d else L.kv x},rfl,by grind,h.abp K (λ_ _=>rfl) rfl rfl rfl C h.inj ?_ ?_ ?_ ?_ wf ?_ (ZX q) s0 s9 s1 s2 s3 s4 s5 s6 s7 s8 sw so sp d1 d2 d3,K.fr (by decide)⟩
 all_goals grind[Dk,JS,uq,H6,BI]
theorem adG(h:Rel E L σ w)(hi:σ.gU i=some ei)(C:σ.gU j=some ej)(u:j≠i)(hn:n<=ei.kids.length)(hl:ei.kids.length<1048576):
  Calls prog 166 #[place (L.gQ i) n,(Nd.el (L.gQ j)).val] w λe w'=>e=qs/\dL E L i ((σ.gW i {ei with kids:=ins ei.kids n (.el j)}).gW j {ej with ji:=some i}) w w':=by
 have z:=N.io hi;have a1:=N.io C;have d:(σ.gU i).isSome=true:=by rw[hi];rfl
 have D:(σ.gU j).isSome=true:=by rw[C];rfl
 have aI:=h.yb hi;have lI:=h.Br hi;have aJ:=h.yb C;have lJ:=h.Br C;refine(Zs E.bs _ n _ _ _ _ _ _ _ _ _ _ _ w (h.wB hi) (h.wB C) (λe=>u (h.inj _ _ e)) (λg hg=>h.Dk j i g a1 z u hg) (by grind) (by grind) h.bw).mono ?_;rintro e w'⟨rfl,⟨K,E1,f1⟩,E2,hk⟩;have kt:=h.cM [j,i] (by grind) (by grind) hk;have a0:((σ.gW i {ei with kids:=ins ei.kids n (.el j)}).gU j).isSome=true:=by rw[N.iK u];exact D
 have y:∀x e,x<σ.nodes.length->Ad w (L.av x) e->Ad w' (L.av x) e:=λx e _ ha=>kt.row ha (by decide);refine⟨rfl,h.akS i K d kt f1 (by grind[N.gW]) ?_ ?_ ?_ ?_⟩;intro x e' q;by_cases I:x=j;grind[N.jc,N.gW];grind[N.jc,N.iK];intro x q;by_cases I:x=j;grind[N.jc,N.gW];grind[N.jc,N.iK];intro x nd q;rcases N.oP q with⟨rfl,rfl⟩|⟨I,q⟩;grind[me];rcases N.oP q with⟨rfl,rfl⟩|⟨a2,q⟩;show El E.bs w' _ _ _ _ (if x=x then K else L.kv x) _/\_;rw[sL rfl];refine⟨?_,y x _ z aI,lI⟩;rw[Gc];exact E1;have hN:=h.iy [j,i] (by grind) (by grind) hk q (by grind);exact hN.ext (σ:=σ) (Jk.refl _ _) ((List.getElem?_eq_some_iff.1 q).1) rfl (Xx a2) (h.eZ q);refine(h.wf.gW (e:={ei with kids:=ins ei.kids n (.el j)}) d (h.wf.ji i ei hi) ?_).gW a0 ?_ ?_;intro k F;rcases Gd F with F|rfl;grind[Wf.kids,Rel.wf];exact D;rw[N.rL d];exact d;grind[N.mr,Wf.kids,Rel.wf]
theorem adI(h:Rel E L σ w){k:Nd}(hi:σ.gU i=some ei)(hk:σ.jr k=true)(D:∀j,k≠ .el j)(hn:n<=ei.kids.length)(hl:ei.kids.length<1048576):
  Calls prog 166 #[place (L.gQ i) n,(Nd.map L.gQ k).val] w λe w'=>e=qs/\dL E L i (σ.gW i {ei with kids:=ins ei.kids n k}) w w':=by
 have C:=N.io hi;have K:=h.yb hi;have lI:=h.Br hi;refine(agI E.bs _ n _ _ _ _ _ (Nd.map L.gQ k) w (h.wB hi) (by grind) (by grind) h.bw (λj e=>by cases k<;>simp[Nd.map]at e;grind)).mono ?_;rintro e w'⟨rfl,⟨y,I,z⟩,d⟩;have F:=h.cM [i] (by grind) (by simp) d;refine⟨rfl,h.akS i y (by rw[hi];rfl) F z (by grind[N.gW]) ?_ ?_ ?_ ?_⟩;grind[N.jc,N.iK];grind[N.jc,N.iK];intro x nd q;rcases N.oP q with⟨rfl,rfl⟩|⟨u,q⟩;show El E.bs w' _ _ _ _ _ _/\_;grind[Gc,KT.row];exact(h.iy [i] (by grind) (by simp) d q (by grind)).ext (Jk.refl _ _) ((List.getElem?_eq_some_iff.1 q).1) rfl (Xx u) (h.eZ q);grind[Wf.gW,Rel.wf,Wf.ji,Gd,Wf.kids]
attribute [local go_sem] Oper.semAt_some
def YJ(dst:Nat)(k:Nd)(r:List Nd):wD dst (k::r)=(jg dst>>=λpl=>(Bz pl k>>=λ_=>wD dst r)):=rfl
theorem acE(E:Env){dst:Nat}(z:b≠dst){D:wN}(hb:σ.gU b=some D){k:Nd}{r:List Nd}{I:Type}{K:Unit->M I}{R:qQ I}(d:R=(wD dst (k::r)>>=K) σ)(hs:R≠ .stuck)(F:σ.jr k=true):
  ∃u σ',σ.gU dst=some u/\R=(wD dst r>>=K) σ'/\(∃y,σ'.gU b=some y/\y.kids=D.kids)/\σ'.nodes.length=σ.nodes.length/\
   ∀(L:Loc)(w:J),Rel E L σ w->Calls prog 166 #[place (L.gQ dst) u.kids.length,(Nd.map L.gQ k).val] w (λe w'=>e=qs/\dL E L dst σ' w w'):=by
 rw[YJ,M.gw,M.gw]at d;unfold jg at d;cases hd:σ.gU dst with
 |none=>rw[hd]at d;exact absurd d hs
 |some u=>
  rw[hd]at d;dsimp only at d;rw[M.gw]at d;cases k with
  |el j=>
   unfold Bz kD at d;dsimp only at d;cases hj:σ.gU j with
   |none=>rw[hd,hj]at d;exact absurd d hs
   |some ej=>
    rw[hd,hj]at d;dsimp only at d;by_cases x:j≠dst/\u.kids.length<=u.kids.length/\u.kids.length<1048576;rw[sL x]at d;refine⟨u,_,rfl,?_,?_,?_,λL w h=>adG h hd hj x.1 x.2.1 x.2.2⟩;rw[d,M.gw];by_cases C:b=j;subst C;rw[N.jc (by rw[N.oK];exact N.io hj)];grind;rw[N.iK C,N.iK z];grind;simp[N.gW];rw[Xx x]at d;exact absurd d hs
  |_=>
   unfold Bz vk at d;dsimp only at d;rw[hd]at d;dsimp only at d;by_cases x:u.kids.length<1048576;rw[sL ⟨F,ic _,x⟩]at d;refine⟨u,_,rfl,?_,?_,?_,λL w h=>adI h hd F (by simp) (ic _) x⟩;rw[d,M.gw];rw[N.iK z];grind;simp[N.gW];rw[Xx (λq=>x q.2.2)]at d;exact absurd d hs
theorem Rel.als(h:Rel E L σ w)(hi:σ.gU i=some ei):To E L (σ.gW i {ei with kids:=[]}) w (w.setCell ⟨L.gQ i,3,none⟩ (jD)):=by
 have y:=N.io hi;have u:(σ.gU i).isSome=true:=by rw[hi];rfl
 have K:=h.yb hi;have lI:=h.Br hi;have C:=h.wB hi;have F:Z [L.gQ i] w (w.setCell ⟨L.gQ i,3,none⟩ (jD)):=(Z.refl _ w).setCell (.inl (by simp)) _;have D:∀s∈[L.gQ i],∃x∈[i],s=L.gQ x\/(L.kv x).ownBlock=some s:=by
  intro s hs;exact⟨i,by simp,.inl (List.mem_singleton.1 hs)⟩
 have I:=h.cM [i] (by grind) D F;refine h.ajH i (jD) u I (.inr (by intro g hg;cases hg)) (by simp[N.gW]) ?_ ?_ ?_ ?_;intro x e' q;by_cases d:x=i;subst d;rw[N.jc y]at q;grind;rw[N.iK d]at q;grind;intro x q;by_cases d:x=i;subst d;rw[N.jc y]at q;cases q
 rwa [N.iK d]at q
 intro x nd q;rcases N.oP q with⟨rfl,rfl⟩|⟨d,q⟩;show El E.bs _ _ _ _ _ (if x=x then (jD)else L.kv x) _/\_;rw[sL rfl];refine⟨⟨gh C.il 3 _,?_,by simp,C.aG⟩,I.row K (by decide),lI⟩;exact⟨rfl,.inl ⟨rfl,rfl⟩⟩;have hN:=h.iy [i] (by grind) D F q (by grind);have z:x<σ.nodes.length:=(List.getElem?_eq_some_iff.1 q).1;exact hN.ext (σ:=σ) (Jk.refl _ _) z rfl (Xx d) (h.eZ q);refine h.wf.gW u (h.wf.ji i ei hi) ?_;simp
def aiv(b:Nat):Unit->M Unit:=λ_ σ'=>match σ'.gU b with
 |some eb'=> .ok () (σ'.gW b {eb' with kids:=[]})
 |none=> .stuck
theorem YK(h:RF E f σ w)(b dst:Nat)(hs:handOver b dst σ≠ .stuck):Calls prog 366 #[nV f b,nV f dst] w (kO E f σ.nodes.length w (handOver b dst σ) uV):=by
 obtain⟨R,z⟩:∃R,R=handOver b dst σ:=⟨_,rfl⟩;rw[<-z]at hs|-;obtain⟨L,rfl,a1⟩:=h;obtain⟨d,HB⟩:∃d,σ.gU b=some d:=by
  cases hq:σ.gU b with
  |some d=>simp
  |none=>unfold handOver at z;grind
 have a2:b≠dst:=by
  intro e;unfold handOver at z;rw[HB]at z;dsimp only at z;rw[sL e]at z;exact absurd z hs
 have HR:R=(wD dst d.kids>>=aiv b) σ:=by
  unfold handOver at z;rw[HB]at z;dsimp only at z
  rwa [Xx a2]at z
 have hE:=a1.wB HB;have c3:=fP hE.il 3;dsimp at c3;have a8:=hE.le;rw[C5]at a8;have⟨ao,cap,hkv⟩:=gz hE.row;rw[C5]at hkv;rw[hkv]at c3;obtain⟨n,hn⟩:∃n,n=d.kids.length:=⟨_,rfl⟩;have HN:=V hn;rw[<-hn]at c3 a8;have a0:=V hkv;have HS:=hs;have HE:=V hE;have aq:=a1.fr.size;have al:=ja hE.il;clear hn hkv hE;go_enter func366,ntmps366;go_wp21
 go_loopw [11] (λv wr=>∃(i:Nat)(L1:Loc)(u:N)(x:wN),v=G i/\i<=n/\L1.gQ=L.gQ/\L1.kv b=L.kv b/\Rel E L1 u wr/\u.gU b=some x/\x.kids=d.kids/\u.nodes.length=σ.nodes.length/\Fr E.bs w wr/\R=(wD dst (d.kids.drop i)>>=aiv b) u) (λv _=>n-(intOf v).toNat)
 case atStart=>exact⟨0,L,σ,d,rfl,xj _,rfl,rfl,a1,HB,rfl,rfl,Fr.refl _,HR⟩
 case round=>
  obtain⟨i,L1,u,x,rfl,hi,q,K,C,lV,a6,a7,I,F⟩:=hrel;have D:=C.wB lV;rw[K,a6]at D;by_cases aj:i<n
  .have h2:i<d.kids.length:=by rw[<-HN.out];exact aj
   have ah:d.kids.drop i=d.kids[i]::d.kids.drop (i+1):=NW h2;rw[ah]at F;have a5:u.jr d.kids[i]=true:=C.wf.kids b x lV _ (by grind);have⟨ed,σ2,hd,HR3,⟨eb2,HB2,hkk2⟩,hl2,hput⟩:=acE E a2 lV F HS a5;obtain⟨g,ag⟩:∃g,ao=some ⟨g,0,none⟩:=by
    rcases HE.row.2 with⟨e,h0⟩|⟨g,ak,ar,e,_⟩;grind;rw[a0.out]at e;grind
   subst ag;have hc:wr.cell? ⟨g,i,none⟩=some (Nd.map L.gQ d.kids[i]).val:=by
    have:=D.row.cells (g:=g) (by rw[a0.out];rfl) i (Nd.map L1.gQ d.kids[i]).val (by simp[h2]);rw[js]at this;rw[<-q]
    simpa using this
   obtain⟨ty,y,a9, -, -⟩:=Qj (Nd.map L.gQ d.kids[i]) wr;have C1:=WT C hd;have C2:=(λ(W:J) (hk:Z [] wr W)=>hput L1 W (C.ir hk));rw[q]at C1 C2;rw[a9]at hc C2;have an:=hkk2.trans a6;have ap:=hl2.trans a7;have ab:=V I;have aa:=V q;have ac:=V K;clear I K q;generalize ed.kids.length=m at *;go_wp21;refine C1.mono ?_;rintro e W2⟨rfl, -,a3⟩;have C3:=C2 W2 a3;go_wp21;refine C3.mono ?_;rintro e W3⟨rfl,L2,q1,q2,Q3,q4⟩;have am:=(ab.trans (Fr.ib a3)).trans q4;have Q1:=q1.trans aa;have Q2:=(q2 b a2).trans ac;go_wp2;go_roundw
   case rel=>grind
   case measure=>simp[intOf];omega
  .have he:d.kids.drop i=[]:=QT (by rw[<-HN.out];omega);rw[he]at F;have a4:R=.ok () (u.gW b {x with kids:=[]}):=by
    rw[F,M.gw];show aiv b () u=_;unfold aiv;rw[lV]
   have⟨L3,HP1,HP2,p3⟩:=C.als lV;rw[q]at HP1 HP2 p3;have c4:wr.cell? ⟨L.gQ b,3,none⟩=some (.slice ao n cap):=by rw[<-q,fP D.il,a0.out,<-HN.out];rfl
   have ai:=gx D.il 3;rw[q]at ai;have ae:=I.trans p3;have af:=V a4;have ad:=V a7;clear K q a4 I;go_wp2;go_end0;rw[af.out];exact⟨rfl,⟨L3,HP1,HP2⟩,ae,by rw[N.oK,ad.out];simp⟩
attribute [local go_sem] Oper.semAt_some
theorem abT{q:Type}{R:qQ q}{K:Nat->M q}(d:R=(ahead fi>>=K) σ)(hs:R≠ .stuck):∃i,iC σ.gq (posOf σ.gq (some fi)-1)=some i/\R=K i σ/\some fi∈σ.gq:=by
 rw[M.gw]at d;unfold ahead at d;cases hq:iC _ _ with
 |none=>grind
 |some i=>
  rcases uB _ _ with⟨x,h⟩|⟨m,h,u,z,y⟩;rw[h]at hq;cases hq;grind
theorem Xd{a:Unit}(h:lX j σ=.ok a σ'):σ'.nodes.length=σ.nodes.length:=by
 unfold lX at h;split at h;cases h;split at h;grind;split at h;cases h;split at h;grind[N.gW];grind
theorem adh{a:Unit}(h:kD pl j σ=.ok a σ'):σ'.nodes.length=σ.nodes.length:=by
 unfold kD at h;split at h;split at h;grind[N.gW];grind;grind
theorem SC{a:Nat×Nat}(h:placeFor i σ=.ok a σ'):σ'.nodes.length=σ.nodes.length:=by
 grind[ny,oJ,placeFor]
theorem At.nv{d:Nat->Nat}{q:Nat}{u:J}(h:At E d q u f σ w)(hi:i<q):nV f i=nV d i:=by unfold nV;rw[h.ext i hi]
theorem ac0{F:Nat->Nat}{q:N}{w0:J}(h:RF E F q w0)(fi il:Nat)(K:(q.gU fi).isSome=true)(I:some il∈q.gq)(hs:vf fi il q≠ .stuck):
  Calls prog 345 #[Bp E,nV F fi,nV F il] w0 (Leaves E F q.nodes.length w0 (vf fi il q) uV):=by
 have a2:fi<q.nodes.length:=N.nh (σ:=q) (i:=fi) K;have a1:il<q.nodes.length:=N.nh (σ:=q) (i:=il) (h.wf.gq _ I);obtain⟨R,hR⟩:∃R,R=vf fi il q:=⟨_,rfl⟩;rw[<-hR]at hs|-;unfold vf at hR;have HS:=hs;have H:=V (At.start h);have d:=V hR;have HC:=(λhm=>agQ h fi il K I hm);clear h hs hR K I;go_enter func345,ntmps345;go_wp21;have hm:zm fi il q≠ .stuck:=λe=>HS (by grind[Hid.out,M.gw]);refine(HC hm).mono ?_;rintro e w1⟨D,a0⟩;have y:=d;rw[M.gw]at y;cases hr:zm fi il q with
 |stuck=>grind
 |stop c p=>
  rw[hr]at D y;obtain⟨j,rfl,H2,H3⟩:=D;have H1:=V y;clear y hr hm a0 HC d;go_wp2;exact⟨rfl,qx H1 H2 H3⟩
 |ok r σ=>
  have⟨last,mark⟩:=r;have⟨hll,x⟩:=a0 _ _ hr;rw[hr]at D y;obtain⟨f,h1,h2,rfl,h4,h5⟩:=D;replace H:=V (show At E F q.nodes.length w0 f σ w1 from⟨h4,h1,h2,h5,H.hw⟩);replace d:=V y;obtain⟨w,hw⟩:∃w,w=w1:=⟨_,rfl⟩;rw[<-hw]at H|-;clear h1 h2 h4 h5 y hr hm a0 HC hw;dsimp only at hll x d;have hl:=H.lt;go_wp21;refine mE (adL E last) H d HS rfl lT ?_;clear H d;rintro(_) σ w H C d z;replace z:=z;replace x:mark<σ.nodes.length:=by rw[Xd z];exact x
  clear z;have hl:=H.lt;have⟨ia,ha,hR2,hin⟩:=abT d HS;have CA:=H.rel.alg (some fi) (N.xB (H.rel.wf.gq _ hin));rw[ha,show oV f (some fi)=nV F fi from H.out.nv a2]at CA;replace d:=V hR2;clear hR2 ha hin;go_wp21;refine CA.mono ?_;rintro e w_⟨rfl,rfl⟩;clear CA;go_wp21;refine mE (M6 E (iP E) ia) H d HS rfl lT ?_;clear H d;rintro(pl) σ w H C d z;replace z:=z;replace x:mark<σ.nodes.length:=by rw[SC z];exact x
  clear z;go_wp21;refine mE (GK E pl last) H d HS rfl lT ?_;clear H d;rintro(_) σ w H C d z;replace z:=z;replace x:mark<σ.nodes.length:=by rw[adh z];exact x
  clear z;go_wp21;refine dC (Ps E fi) H d HS ((by grind[At.nv,Hid.out])) lT ?_;clear H d;rintro(u) f σ w H HX C d;have a4:=HX mark x;go_wp21;refine Ck (λhm=>(show Calls prog 366 #[nV F il,nV f u] w (kO E f σ.nodes.length w (handOver il u σ) uV)from by rw[<-H.out.nv a1];exact YK H.rel il u hm)) H d HS lT ?_;clear H d;rintro(_) σ w H C d;have hl:=H.lt;go_wp21;refine mC (JD E il) H d HS ((by grind[At.nv,Hid.out])) lT ?_;clear H d;rintro(a3) σ w H C d;go_wp21;refine mC (GK E a3 u) H d HS rfl lT ?_;clear H d;rintro(_) σ w H C d;have hl:=H.lt;go_wp21;refine mC (Rb E (some mark) (some u)) H d HS ((by show #[_,nV f mark,nV f u]=_;simp)) lT ?_;clear H d;rintro(_) σ w H C d;have hl:=H.lt;go_wp21;refine mC (FA E (some fi)) H d HS ((by show #[_,nV f fi]=_;grind[At.nv,Hid.out])) lT ?_;clear H d;rintro(_) σ w H C d;have hl:=H.lt;go_wp21;refine mC (GC E (some fi)) H d HS ((by show #[_,nV f fi]=_;grind[At.nv,Hid.out])) lT ?_;clear H d;rintro(_) σ w H C d;have hl:=H.lt;go_wp21;refine mC (SA E (some il) (some u)) H d HS ((by show #[_,nV f il,nV f u]=_;grind[At.nv,Hid.out])) lT ?_;clear H d;rintro(_) σ w H C d;go_wp2;go_end0;exact gu d H rfl
attribute [local go_sem] Oper.semAt_some
def RF.afj{g:Nat->Nat}(h:RF E g σ W)(hi:σ.gZ (some i)=true):(binOp .eql 66 (nV g i) (.pointer none)).run prog W=.ok (.bool false) W:=by
 obtain⟨L,rfl,d⟩:=h;have:=Ek (d.gZ hi) (d.gZ (x:=none) rfl);exact this
theorem vc:∀{xs:kY},σ.rN s xs=some i->some i∈xs
 |[],h=>by cases h
 |none::_,h=>by cases h
 |some k::r,h=>by
  unfold N.rN at h;split at h;grind;exact abv _ (vc h)
theorem LF{f:Nat}:∀{xs:kY} {b:jj},σ.tV f xs b=some i->some i∈xs\/b=some i
 |[],b,h=> .inr h
 |x::r,b,h=>by
  unfold N.tV at h;split at h;grind
  .rcases LF h with h|h
   all_goals grind
theorem Jq(E:Env)(s:O):jk E 317 (λ_=>#[Bp E,Y s]) (nu s) bV:=by
 intro f σ w h hs;obtain⟨R,hR⟩:∃R,R=nu s σ:=⟨_,rfl⟩;rw[<-hR]at hs|-;have C1:=Gs h s;have H:=At.start h;have HS:=hs;have hl:=h.lt;cases hla:σ.oO s with
 |none=>
  have u:R=(tj s>>=λ_=>(Pure.pure false:M Bool)) σ:=by rw[hR];unfold nu;rw[hla]
  have x:=V u;rw[hla]at C1;clear h hs hR u hla;go_enter func317,ntmps317;go_wp21;refine C1.mono ?_;rintro e w1⟨rfl,q⟩;replace H:=H.k0 q;clear q C1;go_wp21;refine dC (L9 E s) H x HS rfl lT ?_;clear H x;rintro(_) f σ w H HX HF x;go_wp2;go_ret;exact gu x H rfl
 |some i=>
  have F:some i∈σ.act:=by have:=vc hla;simpa using this
  have C:σ.gZ (some i)=true:=h.wf.act _ F;rw[hla]at C1;have y:=(λ(W:J) (q:Z [] w W)=>(h.ir q).anp (some i) C);have a0:=(λ(W:J) (q:Z [] w W)=>(h.ir q).afj C);by_cases ho:some i∈σ.gq
  .rw[Hl ho]at y;have D:=(λ(W:J) (q:Z [] w W)=>JR (h.ir q) i C);have I:=(λ(W:J) (q:Z [] w W)=>Od (h.ir q) i C);cases hsc:σ.pi i with
   |false=>
    have u:R=.ok false σ:=by rw[hR];unfold nu;rw[hla];dsimp only;rw[Xx (by grind),hsc];rfl
    have x:=V u;rw[hsc]at D;clear h hs hR u hla F C ho hsc I;go_enter func317,ntmps317;go_wp21;refine C1.mono ?_;rintro e w1⟨rfl,d⟩;replace H:=H.k0 d;have C2:=y w1 d;have z:=a0 w1 d;clear C1 y;unfold nV at z;go_wp21;refine C2.mono ?_;rintro e w_⟨rfl,K⟩;subst K;clear C2;go_wp21;refine(D _ d).mono ?_;rintro e w2⟨rfl,q⟩;replace H:=H.k0 q;replace d:=d.trans q;clear q D z;go_wp2;go_ret;exact gu x H rfl
   |true=>
    rw[hsc]at D;cases hbb:σ.pq i with
    |none=>
     have u:R=(AG (some i)>>=λ_=>kM (some i)>>=λ_=>(Pure.pure false:M Bool)) σ:=by rw[hR];unfold nu;rw[hla];dsimp only;rw[Xx (by grind),hsc,hbb];rfl
     have x:=V u;rw[hbb]at I;clear h hs hR u hla F C ho hsc hbb;go_enter func317,ntmps317;go_wp21;refine C1.mono ?_;rintro e w1⟨rfl,d⟩;replace H:=H.k0 d;have C2:=y w1 d;have z:=a0 w1 d;clear C1 y;unfold nV at z;go_wp21;refine C2.mono ?_;rintro e w_⟨rfl,K⟩;subst K;clear C2;go_wp21;refine(D _ d).mono ?_;rintro e w2⟨rfl,q⟩;replace H:=H.k0 q;replace d:=d.trans q;clear q D z;go_wp21;refine(I _ d).mono ?_;rintro e w3⟨rfl,q⟩;replace H:=H.k0 q;replace d:=d.trans q;clear q I;have hl:=H.lt;go_wp21;refine mC (agm E (some i)) H x HS rfl lT ?_;clear H x;rintro(_) σ w H HF x;have hl:=H.lt;go_wp21;refine mC (FA E (some i)) H x HS rfl lT ?_;clear H x;rintro(_) σ w H HF x;go_wp2;go_ret;exact gu x H rfl
    |some b=>
     have a1:some b∈σ.gq:=by
      rcases LF (b:=none) hbb with h|h
      simpa using h
      cases h
     have a3:σ.gZ (some b)=true:=N.xB (h.wf.gq _ a1);have a2:=(λ(W:J) (q:Z [] w W)=>(h.ir q).afj a3);have u:R=(vf i b>>=λ_=>(Pure.pure true:M Bool)) σ:=by rw[hR];unfold nu;rw[hla];dsimp only;rw[Xx (by grind),hsc,hbb];rfl
     have x:=V u;have a5:=(λ(W:J) (q:Z [] w W) (hm:vf i b σ≠ .stuck)=>ac0 (h.ir q) i b C a1 hm);rw[hbb]at I;clear h hs hR u hla F C ho hsc hbb a1 a3;go_enter func317,ntmps317;go_wp21;refine C1.mono ?_;rintro e w1⟨rfl,d⟩;replace H:=H.k0 d;have C2:=y w1 d;have z:=a0 w1 d;clear C1 y;unfold nV at z;go_wp21;refine C2.mono ?_;rintro e w_⟨rfl,K⟩;subst K;clear C2;go_wp21;refine(D _ d).mono ?_;rintro e w2⟨rfl,q⟩;replace H:=H.k0 q;replace d:=d.trans q;clear q D z;go_wp21;refine(I _ d).mono ?_;rintro e w3⟨rfl,q⟩;replace H:=H.k0 q;replace d:=d.trans q;clear q I;have a4:=a2 _ d;unfold nV at a4;go_wp21;refine fp (λhm=>a5 _ d hm) H x HS lT ?_;clear H x;rintro(_) f σ w H HX HF x;go_wp2;go_ret;exact gu x H rfl
  .rw[qW ho]at y;have u:R=(kM (some i)>>=λ_=>(Pure.pure false:M Bool)) σ:=by rw[hR];unfold nu;rw[hla];dsimp only;rw[sL ho]
   have x:=V u;clear h hs hR u hla F C ho;go_enter func317,ntmps317;go_wp21;refine C1.mono ?_;rintro e w1⟨rfl,q⟩;replace H:=H.k0 q;have C2:=y w1 q;have z:=a0 w1 q;clear q C1 y a0;unfold nV at z;go_wp21;refine C2.mono ?_;rintro e w_⟨rfl,K⟩;subst K;have hl:=H.lt;go_wp21;refine mC (FA E (some i)) H x HS rfl lT ?_;clear H x;rintro(_) σ w H HF x;go_wp2;go_ret;exact gu x H rfl
attribute [local go_sem] Oper.semAt_some
def Jp{R:qQ Unit}(h:R=tQ s (k+1) σ):R=(nu s>>=λb=>if b then tQ s k else (Pure.pure ():M Unit)) σ:=h
theorem Rg(E:Env)(s:O):jk E 274 (λ_=>#[Bp E,Y s]) (xf s) uV:=by
 intro F d w0 h HS;obtain⟨R,hR⟩:∃R,R=xf s d:=⟨_,rfl⟩;rw[<-hR]at HS|-;obtain⟨i,hi⟩:∃i,d.last=some i:=by
  cases hq:d.last with
  |some i=>simp
  |none=>grind[xf]
 have⟨ei,hei⟩:=h.wf.MI hi;have a2:d.gZ (some i)=true:=by show(d.gU i).isSome=true;rw[hei];rfl
 have CL:=h.Vn;rw[hi]at CL;have c0:w0.cell? ⟨F i,0,none⟩=some (Y (d.nm i)):=by
  obtain⟨L,rfl,hr⟩:=h;exact hr.wU hei
 have I:=h.ano (some i) a2;have H:=At.start h;have hl:=h.lt;have a6:F i<w0.heap.size:=by
  obtain⟨L,rfl,hr⟩:=h;exact hr.LB (N.io hei)
 have y:R=if ld (d.nm i) s&&!decide (some i∈d.act)then (wV>>=λ_=>(Pure.pure ():M Unit)) d else tQ s 8 d:=by
  rw[hR];unfold xf;rw[hi]
 clear h hR hi hei a2;cases hq:ld (d.nm i) s with
 |false=>
  rw[hq]at y;have q:=V (show R=tQ s 8 d from y);have a5:((d.nm i).toList==s.toList)=false:=hq;clear y hq I;go_enter func274,ntmps274;go_wp21;refine CL.mono ?_;rintro e w_⟨rfl,C⟩;have z:=C.symm;subst z;clear CL;rw[show oV F (some i)=gI (F i)from rfl];go_wp21
  go_loopw [27] (λv wr=>∃(k:Nat)(g:Nat->Nat)(a0:N),v=G k/\k<=8/\At E F d.nodes.length w0 g a0 wr/\R=tQ s (8-k) a0) (λv _=>8-(intOf v).toNat)
  case atStart=>exact⟨0,F,d,rfl,by omega,H,q⟩
  case round=>
   obtain⟨k,f,σ,rfl,a3,u,D⟩:=hrel;have a4:d.nodes.length<=σ.nodes.length:=u.le;by_cases hk:k<8
   .have K:=Jp (R:=R) (σ:=σ) (s:=s) (k:=7-k) (by grind);replace H:=u;replace q:=V K;clear u D K;obtain⟨w,hw⟩:∃w,w=wr:=⟨_,rfl⟩;rw[<-hw]at H|-;clear hw;go_wp21;refine dC (Jq E s) H q HS rfl lT ?_;clear H q;rintro(b) f σ w H HX HF q;cases b with
    |false=>
     replace q:Hid (R=(Pure.pure ():M Unit) σ):=q;go_wp2;go_end0;exact gu q H rfl
    |true=>
     have a1:Hid (R=tQ s (7-k) σ):=q;go_wp2;go_roundw
     case rel=>exact⟨k+1,f,σ,by go_num,by omega,H,by rw[show 8-(k+1)=7-k by omega];exact a1⟩
     case measure=>simp[intOf];omega
   .have e8:k=8:=by omega
    subst e8;replace H:=u;replace q:=V (show R=(Pure.pure ():M Unit) σ from D);clear u D;go_wp2;go_end0;exact gu q H rfl
 |true=>
  have a5:((d.nm i).toList==s.toList)=true:=hq;by_cases x:some i∈d.act
  .rw[hq,Hl x]at y;have q:=V (show R=tQ s 8 d from y);rw[Hl x]at I;clear y hq x;go_enter func274,ntmps274;go_wp21;refine CL.mono ?_;rintro e w_⟨rfl,C⟩;have z:=C.symm;subst z;clear CL;rw[show oV F (some i)=gI (F i)from rfl];go_wp21;refine I.mono ?_;rintro e w_⟨rfl,C⟩;have z:=C.symm;subst z;go_wp21
   go_loopw [27] (λv wr=>∃(k:Nat)(g:Nat->Nat)(a0:N),v=G k/\k<=8/\At E F d.nodes.length w0 g a0 wr/\R=tQ s (8-k) a0) (λv _=>8-(intOf v).toNat)
   case atStart=>exact⟨0,F,d,rfl,by omega,H,q⟩
   case round=>
    obtain⟨k,f,σ,rfl,a3,u,D⟩:=hrel;have a4:d.nodes.length<=σ.nodes.length:=u.le;by_cases hk:k<8
    .have K:=Jp (R:=R) (σ:=σ) (s:=s) (k:=7-k) (by grind);replace H:=u;replace q:=V K;clear u D K;obtain⟨w,hw⟩:∃w,w=wr:=⟨_,rfl⟩;rw[<-hw]at H|-;clear hw;go_wp21;refine dC (Jq E s) H q HS rfl lT ?_;clear H q;rintro(b) f σ w H HX HF q;cases b with
     |false=>
      replace q:Hid (R=(Pure.pure ():M Unit) σ):=q;go_wp2;go_end0;exact gu q H rfl
     |true=>
      have a1:Hid (R=tQ s (7-k) σ):=q;go_wp2;go_roundw
      case rel=>exact⟨k+1,f,σ,by go_num,by omega,H,by rw[show 8-(k+1)=7-k by omega];exact a1⟩
      case measure=>simp[intOf];omega
    .have e8:k=8:=by omega
     subst e8;replace H:=u;replace q:=V (show R=(Pure.pure ():M Unit) σ from D);clear u D;go_wp2;go_end0;exact gu q H rfl
  .rw[hq,qW x]at y;have q:=V (show R=(wV>>=λ_=>(Pure.pure ():M Unit)) d from y);rw[qW x]at I;clear y hq x;go_enter func274,ntmps274;go_wp21;refine CL.mono ?_;rintro e w_⟨rfl,C⟩;have z:=C.symm;subst z;clear CL;rw[show oV F (some i)=gI (F i)from rfl];go_wp21;refine I.mono ?_;rintro e w_⟨rfl,C⟩;have z:=C.symm;subst z;go_wp21;obtain⟨w,hw⟩:∃w,w=w0:=⟨_,rfl⟩;refine mC (EN E) H q HS rfl lT ?_;clear H q;rintro(_) σ w H HF q;go_wp2;go_end0;exact gu q H rfl
attribute [local go_sem] Oper.semAt_some
def aga(g:Nat->Nat)(i:Nat)(W:J):(binOp .neq 66 (nV g i) (.pointer none)).run prog W=.ok (.bool true) W:=run_neq_pointer_nil W 66 _ L5
def WK(E:Env)(t:gF)(ht:jo E t):jk E 196 (λ_=>#[Bp E,iG E t]) (qj t) uV:=by
 intro f0 q w0 h K;obtain⟨R,z⟩:∃R,R=qj t q:=⟨_,rfl⟩;rw[<-z]at K|-;have y:=Gs h uI;have H:=V (At.start h);have HS:=K;have hl:=h.lt;cases hla:q.oO uI with
 |none=>
  have u:R=(jb t>>=λ_=>(Pure.pure ():M Unit)) q:=by rw[z];unfold qj;rw[hla]
  have d:=V u;rw[hla]at y;clear h K z u hla;go_enter func196,ntmps196;go_wp21;refine y.mono ?_;rintro e w⟨rfl,F⟩;replace H:=V (H.k0 F);clear F y;go_wp21;refine dC (pC E t ht) H d HS rfl lT ?_;clear H d;rintro(_) f σ w H HX I d;go_wp2;go_end0;exact gu d H rfl
 |some i=>
  have x:some i∈q.act:=by have:=vc hla;simpa using this
  have C:q.gZ (some i)=true:=h.wf.act _ x;have D:i<q.nodes.length:=N.nh (σ:=q) (i:=i) C;have u:R=(xf uI>>=λ_=>kM (some i)>>=λ_=>jR (some i)>>=λ_=>jb t>>=λ_=>(Pure.pure ():M Unit)) q:=by rw[z];unfold qj;rw[hla]
  have d:=V u;rw[hla]at y;clear h K z u hla x C;go_enter func196,ntmps196;go_wp21;refine y.mono ?_;rintro e w⟨rfl,F⟩;replace H:=V (H.k0 F);have a0:=aga f0 i w;clear F y;unfold nV at a0;rw[show oV f0 (some i)=gI (f0 i)from rfl];go_wp21;refine dC (Rg E uI) H d HS rfl lT ?_;clear H d;rintro(_) f σ w H HX I d;have hl:=H.lt;go_wp21;refine mC (FA E (some i)) H d HS ((by show #[_,nV f i]=_;rw[H.out.nv D])) lT ?_;clear H d;rintro(_) σ w H I d;have hl:=H.lt;go_wp21;refine mC (GC E (some i)) H d HS ((by show #[_,nV f i]=_;rw[H.out.nv D])) lT ?_;clear H d;rintro(_) σ w H I d;go_wp21;refine dC (pC E t ht) H d HS rfl lT ?_;clear H d;rintro(_) f σ w H HX I d;go_wp2;go_end0;exact gu d H rfl
def Kr(E:Env)(t:gF):jk E 208 (λ_=>#[Bp E,iG E t]) (pJ t) uV:=by
 refine dI λf σ w R d HS H=>?_;go_enter func208,ntmps208;have⟨ta,tb,tao,tn,tcp,HTG⟩:=Hd E t H.rel;have h:=λw=>Cy ta tb t.name tao tn tcp w;go_wp21;refine(HTG _).mono ?_;rintro e y⟨rfl,q⟩;replace H:=H.k0 q;go_wp21;refine dC (Rg E t.name) H d HS rfl lT ?_;rintro(_) f σ w H x u d;go_wp2;go_end0;exact gu d H rfl
attribute [local go_sem] Oper.semAt_some
section
variable (E:Env)(t:gF)(hG:∀i,jk E 268 (λf=>#[Bp E,nV f i,iG E t]) (uW i t) uV)
include hG
theorem YG:jk E 182 (λ_=>#[Bp E,iG E t]) (nN t) uV:=by
 intro f σ w h HS;obtain⟨R,u⟩:∃R,R=nN t σ:=⟨_,rfl⟩;rw[<-u]at HS|-;obtain⟨i,hi⟩:∃i,iC σ.gq 0=some i:=by
  cases hq:iC σ.gq 0 with
  |some i=>simp
  |none=>unfold nN at u;grind
 have d:R=(uW i t>>=λ_=>(Pure.pure ():M Unit)) σ:=by rw[u];unfold nN;rw[hi]
 have x:=h.dQ 0;rw[hi]at x;have H:=At.start h;have q:=V d;have hl:=h.lt;have C:=hG;clear h u d hi hG;go_enter func182,ntmps182;go_wp21;refine x.mono ?_;rintro e I⟨rfl,z⟩;have y:=z.symm;subst y;clear x;go_wp21;refine dC (C i) H q HS rfl lT ?_;clear H q;rintro(_) f σ w H F D q;go_wp2;go_end0;exact gu q H rfl
theorem YF:jk E 183 (λ_=>#[Bp E,iG E t]) (p5 t) uV:=by
 intro f σ w h F;obtain⟨R,C⟩:∃R,R=p5 t σ:=⟨_,rfl⟩;rw[<-C]at F|-;have y:=h.dQ 1;have H:=At.start h;have HS:=F;have hl:=h.lt;have I:=hG;cases hi:iC σ.gq 1 with
 |none=>
  have d:R=.ok () σ:=by rw[C];unfold p5;rw[hi]
  rw[hi]at y;have z:=V d;clear h F C d hi hG I;go_enter func183,ntmps183;go_wp21;refine y.mono ?_;rintro e w_⟨rfl,u⟩;have q:=u.symm;subst q;clear y;go_wp2;go_end0;exact gu z H rfl
 |some i=>
  obtain⟨ei,x⟩:∃e,σ.gU i=some e:=Option.isSome_iff_exists.1 (h.wf.gq _ (nY hi));have c0:w.cell? ⟨f i,0,none⟩=some (Y (σ.nm i)):=by
   obtain⟨L,rfl,hr⟩:=h;exact hr.wU x
  have a1:f i<w.heap.size:=by
   obtain⟨L,rfl,hr⟩:=h;exact hr.LB (N.io x)
  have D:=aga f i w;rw[hi]at y;cases hq:ld (σ.nm i) fR with
  |true=>
   have d:R=(uW i t>>=λ_=>(Pure.pure ():M Unit)) σ:=by rw[C];unfold p5;rw[hi];dsimp only;rw[hq];rfl
   have z:=V d;have a0:((σ.nm i).toList==[98,111,100,121])=true:=by
    have K:(fR:O).toList=[98,111,100,121]:=by first|rfl|decide|simp
    rw[<-K];exact hq
   clear h F C d hi hG hq x;unfold nV at D;go_enter func183,ntmps183;go_wp21;refine y.mono ?_;rintro e w_⟨rfl,u⟩;have q:=u.symm;subst q;clear y;rw[show oV f (some i)=gI (f i)from rfl];go_wp21;refine dC (I i) H z HS rfl lT ?_;clear H z;rintro(_) f σ w H HX HF z;go_wp2;go_end0;exact gu z H rfl
  |false=>
   have d:R=.ok () σ:=by rw[C];unfold p5;rw[hi];dsimp only;rw[hq];rfl
   have z:=V d;have a0:((σ.nm i).toList==[98,111,100,121])=false:=by
    have K:(fR:O).toList=[98,111,100,121]:=by first|rfl|decide|simp
    rw[<-K];exact hq
   clear h F C d hi hG hq x I;unfold nV at D;go_enter func183,ntmps183;go_wp21;refine y.mono ?_;rintro e w_⟨rfl,u⟩;have q:=u.symm;subst q;clear y;rw[show oV f (some i)=gI (f i)from rfl];go_wp2;go_end0;exact gu z H rfl
end
def akx(L M:lu):flat (L++M)=flat L++flat M:=vE ..
structure amV(w:J)(v:gP)(gG:lu)(v':gP)(w':J):Prop where
 row:Ad w' v' gG
 kp:Z v.ownBlock.toList w w'
 new:v'.ownBlock=v.ownBlock\/∀k,v'.ownBlock=some k->w.heap.size<=k
theorem Rel.anm{w1:J}(h:Rel E L σ w)(hi:σ.gU i=some e)(hg:oA e.name=true)(hf:σ.fresh=true)(a:O×O)(a9:e.gR.length<4096)(I:amV w (L.av i) (e.gR++[a]) v' w1):
  Rel E {L with av:=λx=>if x=i then v' else L.av x} (σ.gW i {e with gR:=e.gR++[a]}) (w1.setCell ⟨L.gQ i,1,none⟩ v')/\Fr E.bs w (w1.setCell ⟨L.gQ i,1,none⟩ v'):=by
 have a1:=N.io hi;have a5:(σ.gU i).isSome=true:=by rw[hi];rfl
 have⟨hEl,hAt,hAl⟩:=h.uz i _ (N.jp hi);have a0:∀g,(L.av i).ownBlock=some g->∃c m,w.heap[g]?=some (.cells c 292 m):=λg hg=>tJ hAt hg;have a3:L.gQ i∉(L.av i).ownBlock.toList:=by
  intro z;have a7:(L.av i).ownBlock=some (L.gQ i):=by simpa using z
  exact EW hAt hEl.il (by decide) a7
 have b1:=I.kp.at hEl.il a3;obtain⟨w',F⟩:∃w',w'=w1.setCell ⟨L.gQ i,1,none⟩ v':=⟨_,rfl⟩;rw[<-F];have b2:w'.heap[L.gQ i]?=some (gH #[Y e.name,v',kX (iF L.gQ e.ji),L.kv i] 136):=by rw[F];exact gh b1 1 v'
 have D:Z (L.gQ i::(L.av i).ownBlock.toList) w w':=by rw[F];exact(I.kp.mono (λk D _=>abv _ D)).setCell (.inl (by simp)) _
 have r2:Ad w' v' (e.gR++[a]):=by rw[F];exact rF (a:=⟨L.gQ i,1,none⟩) I.row (EW I.row b1 (by decide)) v'
 have K:KT E.bs [136,292] w w':=.j9 D (λk D _=>by
  rcases List.mem_cons.1 D with rfl|D;exact⟨⟨_,_,_,hEl.il,by simp⟩,h.bN i a1⟩;have a2:(L.av i).ownBlock=some k:=by simpa using D
  have⟨c,m,hc⟩:=a0 k a2;exact⟨⟨_,_,_,hc,by simp⟩,h.ab i k a1 a2⟩)
 have y:(σ.gW i {e with gR:=e.gR++[a]}).nodes.length=σ.nodes.length:=N.oK _ _ _;have a4:∀j,((σ.gW i {e with gR:=e.gR++[a]}).gU j=none↔σ.gU j=none):=by
  intro j;by_cases u:j=i;grind[N.jc];grind[N.iK]
 have a8:∀j g,j<σ.nodes.length->j≠i->v'.ownBlock=some g->(L.av j).ownBlock≠some g:=by
  intro j g u q d h2;rcases I.new with e1|e1;rw[e1]at d;exact h.uq i j e g hi hg u (yZ q) d h2;grind[Ro]
 have⟨C,hbl,hC⟩:=h.il;refine⟨?_,K.fr (by decide)⟩;exact
  {fr:=h.fr.trans (K.fr (by decide))
   env:=h.env
   Gv:=h.Gv
   uz:=by
    intro j nd u;rcases N.oP u with⟨rfl,rfl⟩|⟨q,u⟩
    .refine⟨⟨?_,?_,hEl.le,?_⟩,?_,?_⟩
     all_goals grind[KT.row,El.row,gz]
    have a6:=(List.getElem?_eq_some_iff.1 u).1;have hN:me E.bs L w' j nd:=by
     refine(h.uz j nd u).kept D ?_ ?_ ?_;intro z;rcases List.mem_cons.1 z with e1|z;exact q (h.inj _ _ e1);grind[Rn];grind[Ay,El.il];intro g d z;rcases List.mem_cons.1 z with e1|z;grind[Ro,El.il];exact h.uq i j e g hi hg a6 (yZ q) (by grind) d
    cases nd with
    |el e'=>grind[me]
    |tx s=>exact hN
    |cm s=>exact hN
    |dt s=>exact hN
   inj:=h.inj
   Dk:=by grind[Dk]
   JS:=λj u hn=>h.JS j (by omega) ((a4 j).1 hn)
   uq:=by
    grind[N.io,N.iK,uq]
   H6:=by
    grind[H6]
   wf:=h.wf.gW a5 (h.wf.ji i e hi) (h.wf.kids i e hi)
   il:=⟨C,K.at hbl (by decide),⟨hC.size,hC.low,hC.gq,hC.act,hC.head,hC.form,hC.mode,hC.kept,hC.wait,hC.Mi,hC.jA,hC.gQ,hC.behind⟩⟩
   qv:=K.row h.qv (by decide)
   ru:=K.row h.ru (by decide)
   JY:=h.JY,yK:=h.yK,Ie:=h.Ie
   qm:=K.row h.qm (by decide)
   Pl:=h.Pl
   rd:=K.at h.rd (by decide)
   Wp:=h.Wp
   tok:=D.ownsRow h.tok (λg d z=>by
    rcases List.mem_cons.1 z with e1|z;have⟨c,m,hc⟩:=tJ h.tok d;grind[El.il];grind[BI])
   Ph:=h.Ph,bz:=h.bz,bB:=h.bB,bR:=h.bR
   bN:=by rw[y];exact h.bN
   BI:=by
    intro _ j g u d;rw[y]at u;by_cases q:j=i;subst q;simp only[if_true];intro h2;rcases I.new with e1|e1;grind[BI];have:=e1 g h2;have⟨c,m,hc⟩:=tJ h.tok d;grind;grind[BI]
   ab:=by
    intro j g u d;rw[y]at u;by_cases q:j=i;subst q;simp only[if_true]at d;rcases I.new with e1|e1;rw[e1]at d;exact h.ab j g u d;exact jZ h.bw (e1 g d);simp only[Xx q]at d;exact h.ab j g u d
   tb:=h.tb
   Pk:=h.Pk}
attribute [local go_sem] Oper.semAt_some
def afF:(prog.info? 292).map (λi=>(i.zero,i.size,i.bytes))=some (some (.agg #[Y kB,Y kB]),2,32):=by kernel_rfl
def Mm(i:Nat)(a:O×O)(r:lu)(σ:N):p6 i (a::r) σ=(match σ.gU i with
  |none=> .stuck
  |some e=>if xx e.gR a.1 then p6 i r σ else if σ.qu<=e.gR.length then .stop 7 σ.gQ else p6 i r (σ.gW i {e with gR:=e.gR++[a]})):=rfl
theorem aj3(E:Env)(t:gF)(z:jo E t)(h:RF E f σ w):∃x y nm d u,AY E t=#[.int .i64 x,.int .i64 y,.string nm,.slice d t.jh.length u]/\t.jh.length<=4096/\∀f σ w,RF E f σ w->Ad w (.slice d t.jh.length u) t.jh:=by
 have⟨L,e,hr⟩:=h;have⟨d,u,htv⟩:=gz hr.tok;have⟨a,b,k,gG⟩:=t;cases k with
 |start n=>
  have e:=z rfl;subst e;exact⟨a,b,n,d,u,by grind[AY,gF.jh],hr.Ph,λf σ w ⟨L,_,h⟩=>by show Ad w (.slice d E.ta.length u) E.ta;grind[Rel.tok]⟩
 |stop n=>
  have e:=z rfl;subst e;exact⟨a,b,n,d,u,by grind[AY,gF.jh],hr.Ph,λf σ w ⟨L,_,h⟩=>by show Ad w (.slice d E.ta.length u) E.ta;grind[Rel.tok]⟩
 |kE s=>exact⟨0,0,_,none,0,rfl,xj _,λ_ _ _ _=>pP _ _ _ _⟩
 |gV s=>exact⟨0,0,_,none,0,rfl,xj _,λ_ _ _ _=>pP _ _ _ _⟩
 |iH n q=>exact⟨0,0,_,none,0,rfl,xj _,λ_ _ _ _=>pP _ _ _ _⟩
 |lost=>exact⟨0,0,_,none,0,rfl,xj _,λ_ _ _ _=>pP _ _ _ _⟩
 |iw=>exact⟨0,0,_,none,0,rfl,xj _,λ_ _ _ _=>pP _ _ _ _⟩
def ac9{o:Oper}{ys:Nat->Option Bool}{a:Act}{q:Act->J->Prop}{Q:Exit->Act->J->Prop}{d:Prop}(s x:Operand)(t:TypeId)(y:o.op=.call {callee:=.builtin .append,args:=#[s,x],argTypes:=#[t,t]})(C:o.guard=none)(v u:gP)(hs:a.eval s=v)(D:a.eval x=u)(z:(Builtin.append_ #[t,t] o.type #[v,u]).run prog w=.ok v' w')(h:q (a.put o.dst v') w'):if Region.wanted o ys=true then Oper.wp prog o a w q Q else d:=by
 rw[sL (by unfold Region.wanted;rw[C])];unfold Oper.wp execOp;simp[y,resolve,invoke,builtin,hs,D,z];exact h
structure QY(w:J)(v:gP)(n:Nat)(gG:lu)(v':gP)(W:J):Prop where
 da:amV w v gG v' W
 shape:∃ao cp,v'=.slice ao (n+1) cp
theorem QY.at{gG:lu}(h:QY w v n gG v' W){c:jL}(d:w.heap[k]?=some (gH c T))(q:v.ownBlock≠some k):W.heap[k]?=some (gH c T):=h.da.kp.at d (by grind)
theorem QY.cell{gG:lu}(h:QY w v n gG v' W){u x y:gP}(q:w.heap[k]?=some (gH #[u,v,x,y] T))(d:v.ownBlock≠some k):W.cell? ⟨k,1,none⟩=some v:=by rw[fP (h.at q d)];rfl
def QY.free{gG:lu}(h:QY w v n gG v' W){c:jL}(q:w.heap[k]?=some (gH c T))(d:v.ownBlock≠some k):W.frozen? ⟨k,1,none⟩=false:=gx (h.at q d) 1
theorem Uc{d:Option Addr}{h:Nat}{gG:lu}(w W:J)(q:Z [] w W)(I:Ad w (.slice d gG.length h) gG)(k:Nat)(a b:O)(F:W.heap[k]?=some (gH #[Y a,Y b] 292))(hn:gG.length<=4096):
  ∃v' w',(Builtin.append_ #[133,133] 133 #[.slice d gG.length h,nX k 1 1]).run prog W=.ok v' w'/\QY w (.slice d gG.length h) gG.length (gG++[(a,b)]) v' w':=by
 obtain⟨K,hi,z,C,D⟩:=qz afF;have⟨v',w',h1,h2,h3,h4⟩:=Bl W 0 133 133 292 K _ 2 32 underlying133 hi z C D rfl (by decide) (.slice d gG.length h) gG.length (flat gG) (q.ownsRow I (λ_ _=>by simp)) ⟨k,0,none⟩ 1 1 [Y a,Y b] rfl (λj u x=>by
  rw[js,fP F,<-x];simp) (λu x=>by simp at x;rcases x with rfl|rfl<;>rfl) (by unfold maxLen;omega) (by omega) (xj _)
 refine⟨v',w',h1,⟨?_,((q.mono (by simp)).grown h3 (λk q=> .inl (by grind))),?_⟩,?_⟩;grind[flat];rcases h4 with e|e;grind;exact .inr λk y=>jZ q.size (e k y);grind[gz]
def dH(h:J)(a b:O)(x:gP)(n:Nat)(gG:lu)(fi:Nat)(g:Nat×gP)(y u d:Bool)(W:J):Prop:=(u=false->Z [] h W/\(y=true->W.heap[g.1]?=some (gH #[Y a,Y b] 292)))/\(u=true->d=false->QY h x n gG g.2 W)/\(d=true->∃q,QY h x n gG g.2 q/\W=q.setCell ⟨fi,1,none⟩ g.2)
def dH.IA{u:J}{b:O}{q:gP}{gG:lu}{g:Nat×gP}{z:Array Bool}(h:dH u a b q n gG fi g (dn z 6) (dn z 7) (dn z 10) W)(x:k≠6)(y:k≠7)(d:k≠10):dH u a b q n gG fi g (dn (z.setIfInBounds k true) 6) (dn (z.setIfInBounds k true) 7) (dn (z.setIfInBounds k true) 10) W:=by rw[lY x,lY y,lY d];exact h
theorem afu(E:Env)(t:gF)(ht:jo E t)(i:Nat):jk E 268 (λf=>#[Bp E,nV f i,iG E t]) (uW i t) uV:=by
 intro f σ w h hs;obtain⟨R,hR⟩:∃R,R=uW i t σ:=⟨_,rfl⟩;rw[<-hR]at hs|-;have D:(σ.fresh&&oA (σ.nm i))=true:=by
  cases hq:(σ.fresh&&oA (σ.nm i))with
  |true=>rfl
  |false=>unfold uW at hR;rw[hq]at hR;exact absurd hR hs
 have a5:R=p6 i t.jh σ:=by rw[hR];unfold uW;rw[D];rfl
 rw[xh]at D;obtain⟨a8,a6⟩:=D;obtain⟨x,y,nm,ao,cp,au,hn,ae⟩:=aj3 E t ht h;have az:∃ao n cp,E.tv=.slice ao n cp:=by
  obtain⟨L,_,hr⟩:=h;obtain⟨ao,cp,e⟩:=gz hr.tok;exact⟨ao,_,cp,e⟩
 have C1:=λW=>zU E t W az;rw[au]at C1;generalize t.jh=gG at *;have am:=V C1;have aq:=V ae;have HS:=V hs;have H:=V (At.start h);have a0:=V a8;have a1:=V a6;have HR:=V a5;clear C1 ae hs h a8 a6 hR a5 au az ht;go_enter func268,ntmps268;go_wp2_with fail;refine(am.out _).mono ?_;rintro e w1⟨rfl,av⟩;replace H:=V (H.out.k0 av);clear av am;have aK:=λ(w:J)=>zV x y nm ao gG.length cp w;go_wp2_with fail;clear aK
 go_loopw [12] (λv wr=>∃(u:Nat)(σ':N),v=.int .i64 u/\u<=gG.length/\R=p6 i (gG.drop u) σ'/\At E f σ.nodes.length w f σ' wr/\σ'.fresh=true/\oA (σ'.nm i)=true) (λv _=>gG.length-(intOf v).toNat)
 case atStart=>exact⟨0,σ,rfl,xj _,HR.out,H.out,a0.out,a1.out⟩
 case round=>
  clear H a0 a1 HR;obtain⟨u,σ',rfl,aR,hR,a3,a8,a6⟩:=hrel;by_cases ax:u<gG.length
  .obtain⟨g0,rfl,c0,c1⟩:=Ad.dP (aq.out _ _ _ a3.rel) ax;rw[NW ax]at hR;obtain⟨e,he⟩:∃e,σ'.gU i=some e:=by
    cases hq:σ'.gU i with
    |some e=>exact⟨e,rfl⟩
    |none=>rw[Mm,hq]at hR;exact absurd hR HS.out
   have a5:R=(if xx e.gR gG[u].1 then p6 i (gG.drop (u+1)) σ' else if σ'.qu<=e.gR.length then .stop 7 σ'.gQ else p6 i (gG.drop (u+1)) (σ'.gW i {e with gR:=e.gR++[gG[u]]})):=by rw[hR,Mm,he]
   have ay:σ'.nm i=e.name:=by unfold N.nm;rw[he]
   rw[ay]at a6;have aA:gG[u]=(gG[u].1,gG[u].2):=rfl;generalize gG[u].1=a at *;generalize gG[u].2=b at *;rw[aA]at a5;have hK:Z [] wr (wr.alloc (.cells #[.string a,.string b] 292 (0,0))):=(Z.refl _ _).alloc _;have hB:=fU wr (.cells #[.string a,.string b] 292 (0,0));obtain⟨L,hL,hr⟩:=(a3.k0 hK).rel;obtain⟨K,d,ar⟩:=hr.uz i _ (N.jp he);have C2:=V (alQ (L.gQ i) e.name (L.av i) _ _ e.gR a _ K.il d ar);rw[hL]at C2;have HE:=V he;have a2:=V a5;have HA:=V (a3.k0 hK);have HB:=V hB;have aQ:=V (ja hB);have a0:=V a8;have a1:=V a6;clear hR a5 he a3 hK hB hr K d ar a8 a6 ay aA hL;go_wp21;refine C2.out.mono ?_;rintro e2 w2⟨rfl,ak⟩;replace HA:=V (HA.out.k0 ak);replace HB:=V (ak.at HB.out (by simp));clear ak C2 L;cases hq:xx e.gR a with
   |true=>
    have a7:=V (show R=p6 i (gG.drop (u+1)) σ' by rw[a2.out,hq];rfl);clear hq a2;go_wp2;go_roundw
    case rel=>exact⟨u+1,σ',by go_num,by omega,a7.out,HA.out,a0.out,by unfold N.nm;rw[HE.out];exact a1.out⟩
    case measure=>simp[intOf];omega
   |false=>
    obtain⟨L,hL,hr⟩:=HA.out.rel;have K:=(hr.uz i _ (N.jp HE.out)).1;have d:=(hr.uz i _ (N.jp HE.out)).2.1;obtain⟨F,I,aa⟩:=gz d;have d0:w2.cell? ⟨f i,1,none⟩=some (.slice F e.gR.length I):=by rw[<-hL,fP K.il,<-aa];rfl
    have d1:w2.cell? ⟨E.bB,2,none⟩=some (.int .i64 (σ'.qu:Int)):=hr.low (by decide) hr.Gv.2.2.1;have aL:=hr.Gv.2.2.2.2.2;have aw:f i<w2.heap.size:=by rw[<-hL];exact ja K.il
    have aS:=hr.lt;by_cases ad:σ'.qu<=e.gR.length
    .have a7:=V (show R=.stop 7 σ'.gQ by rw[a2.out,hq];simp[ad]);have C3:=V (λq=>Te (hr.drewN q) 7);clear hq a2 hr K d aa;go_wp21
     go_quiet (fail)
     go_wp21;refine(C3.out nq).mono ?_;rintro e3 w3⟨k,rfl,h1,h2⟩;have H1:=V h1;have H2:=V ((HA.out.fr.trans (Fr.drewN w2 nq)).trans h2);clear h1 h2 C3;go_wp2;exact⟨rfl,qx a7.out H1.out H2.out⟩
    .have a7:=V (show R=p6 i (gG.drop (u+1)) (σ'.gW i {e with gR:=e.gR++[(a,b)]}) by rw[a2.out,hq];simp[ad]);have a9:=V hr;have ah:=V hL;have af:=V aa;have aF:=V d0;have ai:=V aw;clear hq a2 hr K d aa hL;have ag:=V (show w2.heap[f i]?=some (.cells #[.string e.name,.slice F e.gR.length I,kX (iF L.gQ e.ji),L.kv i] 136 (0,0)) by
      have:=(a9.out.uz i _ (N.jp HE.out)).1.il;rw[ah.out,af.out]at this;rw[ah.out];exact this)
     have ac:=V (show Ad w2 (.slice F e.gR.length I) e.gR by rw[<-af.out];exact(a9.out.uz i _ (N.jp HE.out)).2.1);have aE:=V (a9.out.uz i _ (N.jp HE.out)).2.2;have ap:=V (EW ac.out ag.out (by decide));have aD:=V (λW (hk:Z [] w2 W)=>nr ai.out hk.size);have an:=V ai.out;have aC:=V (λW (hk:Z [] w2 W)=>(hk.cell (p:=⟨f i,1,none⟩) ai.out (by simp)).trans aF.out);have aB:=V (λW (hk:Z [] w2 W)=>(⟨by rw[fP (hk.at HB.out (by simp))];rfl,by rw[fP (hk.at HB.out (by simp))];rfl⟩:W.cell? ⟨wr.heap.size,0,none⟩=some (.string a)/\W.cell? ⟨wr.heap.size,1,none⟩=some (.string b)));have al:=V (show e.gR.length<16 by omega);go_wp21
     go_quiet (fail)
     clear d0 aw;go_wp21;refine Xz (by kernel_rfl) ?_;refine oT (λ(g:Nat×gP) z=>⟨#[Bp E,nV f i,iG E t,undef,undef,undef,undef,.pointer (some ⟨wr.heap.size,0,none⟩),iG E t,.agg #[.int .i64 x,.int .i64 y,.string nm,.slice (some ⟨g0,0,none⟩) gG.length cp],.slice (some ⟨g0,0,none⟩) gG.length cp,.int .i64 (gG.length:Int),.int .i64 (u:Int),.bool true,.pointer (some ⟨g0,u*2,none⟩),.agg #[.string a,.string b],nV f i,.pointer (some ⟨wr.heap.size,0,none⟩),.string a,.bool false,nV f i,.pointer (some ⟨f i,0,none⟩),.pointer (some ⟨f i,1,none⟩),.slice F e.gR.length I,.int .i64 (e.gR.length:Int),Bp E,.pointer (some ⟨E.bB,0,none⟩),.pointer (some ⟨E.bB,0,none⟩),.pointer (some ⟨E.bB,2,none⟩),.int .i64 (σ'.qu:Int),.bool false,u31,u32,ce z 0 u33 (nV f i),ce z 1 u34 (nV f i),ce z 2 u35 (.pointer (some ⟨f i,0,none⟩)),ce z 3 u36 (.pointer (some ⟨f i,1,none⟩)),ce z 4 u37 (.slice F e.gR.length I),ce z 5 u38 (.agg #[.string a,.string b]),ce z 6 u39 (.slice (some ⟨g.1,0,none⟩) 1 1),ce z 7 u40 g.2,ce z 8 u41 (.pointer (some ⟨f i,0,none⟩)),ce z 9 u42 (.pointer (some ⟨f i,1,none⟩)),u43],[]⟩) (λg z W=>dH w2 a b (.slice F e.gR.length I) e.gR.length (e.gR++[(a,b)]) (f i) g (dn z 6) (dn z 7) (dn z 10) W) 11 [[],[],[1],[1,2],[1,2,3],[],[5],[1,2,3,4,5,6],[0,1,2,3,4,5,6,7],[0,1,2,3,4,5,6,7,8],[0,1,2,3,4,5,6,7,8,9]] (0,undef) (by kernel_rfl) (by kernel_rfl) ⟨λ_=>⟨((Z.refl _ _).drewN nq).drew,λh=>by cases h⟩,λh=>(by cases h),λh=>(by cases h)⟩ ?_ ?_
     .repeat' first|exact mg|refine mf ?_ ?_
      all_goals
       rintro g z W hI D hn;simp[Bs]at D;refine N2 rfl ?_;intro K' a4;simp only[yd,D]
       first
       |have k7:=(hI.1 (hn 7 (by decide))).1;have aI:=aD.out W k7;have cc:=aC.out W k7;have⟨c2,c3⟩:=aB.out W k7;go_simp;refine a4 _ _ ⟨g,?_,hI.IA (by decide) (by decide) (by decide)⟩;simp[xl,FJ,yd,D]
       |have k7:=(hI.1 (hn 7 (by decide))).1;go_simp;refine a4 _ _ ⟨(W.heap.size,g.2),?_,λ_=>⟨k7.alloc _,λ_=>fU W _⟩,λh=>(by rw[lY (by decide),hn 7 (by decide)]at h;cases h),λh=>(by rw[lY (by decide),hn 10 (by decide)]at h;cases h)⟩;simp[xl,FJ,yd,D,hn 7 (by decide)]
       |go_simp;refine a4 _ _ ⟨g,?_,hI.IA (by decide) (by decide) (by decide)⟩;simp[xl,FJ,yd,D]
       |skip
      obtain⟨k7,h6⟩:=hI.1 (by simp[D]);obtain⟨v',w',aH,C⟩:=Uc w2 W k7 ac.out g.1 a b (h6 (by simp[D])) aE.out;refine ac9 (.tmp 37) (.tmp 39) 133 rfl rfl (.slice F e.gR.length I) (.slice (some ⟨g.1,0,none⟩) 1 1) rfl rfl (v':=v') (w':=w') aH ?_;refine a4 _ _ ⟨(g.1,v'),?_,λh=>(by rw[pX]at h;cases h),λ_ _=>C,λh=>(by rw[lY (by decide),hn 10 (by decide)]at h;cases h)⟩;simp[Act.put,xl,FJ,yd,D]
      all_goals have C:=hI.2.1 (by simp[D]) (by first|exact hn 10 (by decide)|simp[D])
      all_goals first
       |have aI:=C.lt2 an.out;go_simp;refine a4 _ _ ⟨g,?_,hI.IA (by decide) (by decide) (by decide)⟩;simp[xl,FJ,yd,D]
       |skip
      obtain⟨g1,g2⟩:=g;obtain⟨aM,aP,e9⟩:=C.shape;dsimp only at e9;subst e9;have c9:=C.cell ag.out ap.out;have f9:=C.free ag.out ap.out;go_simp;refine a4 _ _ ⟨(g1,_),?_,λh=>(by rw[lY (by decide)]at h;simp[D]at h),λ_ h=>(by rw[pX]at h;cases h),λ_=>⟨W,C,rfl⟩⟩;simp[xl,FJ,yd,D]
     .rintro g W hI;simp only[RD];obtain⟨W1,C,hW⟩:=hI.2.2 vO;subst hW;have aj:=a9.out.anm HE.out a1.out a0.out (a,b) (by have:=al.out;omega) (v':=g.2) (w1:=W1) (by rw[af.out];exact C.da);rw[ah.out]at aj;have ab:=V aj;clear hI aj;go_wp2;go_roundw
      case rel=>exact⟨u+1,_,by go_num,by omega,a7.out,HA.out.to ⟨_,rfl,ab.out.1⟩ (ZX (N.oK _ _ _).symm) ab.out.2,a0.out,by unfold N.nm;rw[N.jc (N.io HE.out)];exact a1.out⟩
      case measure=>simp[intOf];omega
  .have HD:=V (show R=.ok () σ' by rw[hR,QT (by omega)];rfl);have HA:=V a3;clear hR a3;go_wp2;go_end0;exact gu HD.out HA.out rfl
attribute [local go_sem] Oper.semAt_some
def WM(E:Env)(t:gF)(ht:jo E t):jk E 198 (λ_=>#[Bp E,iG E t]) (sH t) uV:=by
 refine dI λf σ w R d HS H=>?_;unfold sH at d;go_enter func198,ntmps198;obtain⟨I,a0⟩:∃I,I=f:=⟨_,rfl⟩;obtain⟨n0,a1⟩:∃n0,n0=σ.nodes.length:=⟨_,rfl⟩;obtain⟨w0,a2⟩:∃w0,w0=w:=⟨_,rfl⟩;go_wp21;refine dC (tm E (iP E)) H d HS rfl lT ?_;rintro(_) f σ w H D C d;have⟨kb,lbb,cb,HQ⟩:=H.rel.bounds;have F:=H.lt;have z:=cb;have HD:=(Z.refl [] w).drew;go_wp21
 go_cut [13]from 6 to 12 (λr wc=>r=.bool (σ.inScope (gO [iJ]) (iI))/\Z [] w wc)
 case first=>
  go_region_with (first
   |(go_at_call 216;refine(oC E [iJ] w.drew (by simp)).mono ?_;rintro e w1⟨k1,a3,rfl,u,x⟩;have q:=HD.trans x;have c1:w1.cell? ⟨E.bB,186,none⟩=some (.func (.func kb) #[] lbb):=(q.cell (p:=⟨E.bB,186,none⟩) F (by simp)).trans z;have y:=V u;have h:=V q;clear u x q)
   |(go_at_call 229;refine(xN (H.k0 h).rel (gO [iJ]) iI _ _ y (HQ.k0 h)).mono ?_;rintro e w2⟨rfl,K⟩;have HZ:=V (h.trans K);clear K))
  all_goals (try (go_wp21))
  all_goals (go_meet;exact⟨rfl,HZ⟩)
 case rest=>
  obtain⟨rfl,hk⟩:=hcut;replace H:=H.k0 hk;cases hsc:σ.inScope (gO [iJ]) iI with
  |true=>
   replace d:Hid (R=(xf iJ>>=λ_=>jb t>>=λ_=>(Pure.pure ():M Unit)) σ):=by
    refine V ?_;rw[d.out];unfold um;rw[hsc];rfl
   go_wp21;refine dC (Rg E iJ) H d HS rfl lT ?_;rintro(_) f σ w H D C d;go_wp21;refine dC (pC E t ht) H d HS rfl lT ?_;rintro(_) f σ w H D C d;go_wp2;go_end0;exact gu d H rfl
  |false=>
   replace d:Hid (R=(jb t>>=λ_=>(Pure.pure ():M Unit)) σ):=by
    refine V ?_;rw[d.out];unfold um;rw[hsc];rfl
   go_wp21;refine dC (pC E t ht) H d HS rfl lT ?_;rintro(_) f σ w H D C d;go_wp2;go_end0;exact gu d H rfl
def Yl(t:Addr)(w:J):(ReflectliteValue.unpack (.iface 81 (.pointer (some t)))).run prog w
  =.ok (.agg #[j5 7 81,gI w.heap.size,.int .u64 150]) (w.alloc (.cells #[.pointer (some t)] 81)):=by kernel_rfl
def ZD(t:Addr)(w:J):(ReflectliteValue.unpack (.iface 76 (.pointer (some t)))).run prog w
  =.ok (.agg #[j5 7 76,gI w.heap.size,.int .u64 150]) (w.alloc (.cells #[.pointer (some t)] 76)):=by kernel_rfl
def ain(a:Addr)(w:J):(ReflectliteValue.methodAny (ReflectliteValue.valueError "reflectlite.Value.Type" 0) (λt _ _ _=>ReflectliteType.toType t) #[.agg #[j5 7 81,.pointer (some a),.int .u64 150]]).run prog w
  =.ok (.iface 141 (.agg #[j5 7 81])) w:=rfl
def ajV(a:Addr)(w:J):(ReflectliteValue.methodAny (ReflectliteValue.valueError "reflectlite.Value.Type" 0) (λt _ _ _=>ReflectliteType.toType t) #[.agg #[j5 7 76,.pointer (some a),.int .u64 150]]).run prog w
  =.ok (.iface 141 (.agg #[j5 7 76])) w:=rfl
def aa8(h:gP)(w:J):(Go.method 493 141 (.agg #[h]) "Kind").run prog w=.ok (398,h) w:=by kernel_rfl
def aa7(h:gP)(w:J):(Go.method 493 141 (.agg #[h]) "Elem").run prog w=.ok (419,.agg #[h]) w:=by kernel_rfl
def DW(h:gP)(w:J):(Go.method 493 141 (.agg #[h]) "Implements").run prog w=.ok (420,.agg #[h]) w:=by kernel_rfl
def DV(h:gP)(w:J):(Go.method 493 141 (.agg #[h]) "AssignableTo").run prog w=.ok (417,.agg #[h]) w:=by kernel_rfl
def O2(v:gP)(w:J):(Go.method 493 141 v "Comparable").run prog w=.ok (418,v) w:=by kernel_rfl
def ae4(w:J):((ReflectliteType.abiMethod λt=>(λa:Nat=>Value.int IntKind.u8 (a:Int)) <$> Rtype.kind t) #[j5 7 81]).run prog w=.ok (.int .u8 22) w:=by kernel_rfl
def aim(w:J):((ReflectliteType.abiMethod λt=>(λa:Nat=>Value.int IntKind.u8 (a:Int)) <$> Rtype.kind t) #[j5 7 22]).run prog w=.ok (.int .u8 2) w:=by kernel_rfl
def ag5(w:J):((ReflectliteType.abiMethod λt=>(λa:Nat=>Value.int IntKind.u8 (a:Int)) <$> Rtype.kind t) #[j5 7 76]).run prog w=.ok (.int .u8 22) w:=by kernel_rfl
def ajU(w:J):((ReflectliteType.abiMethod λt=>(λa:Nat=>Value.int IntKind.u8 (a:Int)) <$> Rtype.kind t) #[j5 7 74]).run prog w=.ok (.int .u8 22) w:=by kernel_rfl
def eF(z:Sem gP)(f:TypeId->Addr->Nat->Nat->Sem gP)(v:gP):
  ReflectliteValue.method z f #[v]=(do match <-ReflectliteValue.parts v with|none=>z|some (t,a,fl)=>f t a fl (fl%32)):=rfl
def PI(a:Addr)(w:J):(ReflectliteValue.parts (.agg #[j5 7 81,.pointer (some a),.int .u64 150])).run prog w=.ok (some (81,a,150)) w:=rfl
def QJ(a:Addr)(w:J):(ReflectliteValue.parts (.agg #[j5 7 76,.pointer (some a),.int .u64 150])).run prog w=.ok (some (76,a,150)) w:=rfl
def ae3(a p:Addr)(W:J)(d:W.cell? a=some (.pointer (some p))):
  (ReflectliteValue.method (ReflectliteValue.valueError "reflectlite.Value.IsNil" 0) ReflectliteValue.isNil #[.agg #[j5 7 81,.pointer (some a),.int .u64 150]]).run prog W=.ok (.bool false) W:=by
 rw[eF];simp only[NX,PI,Result.andThen];simp[ReflectliteValue.isNil,loadVar,isAgg,underlying,underlying81,d,Result.andThen]
def ag4(a p:Addr)(W:J)(d:W.cell? a=some (.pointer (some p))):
  (ReflectliteValue.method (ReflectliteValue.valueError "reflectlite.Value.IsNil" 0) ReflectliteValue.isNil #[.agg #[j5 7 76,.pointer (some a),.int .u64 150]]).run prog W=.ok (.bool false) W:=by
 rw[eF];simp only[NX,QJ,Result.andThen];simp[ReflectliteValue.isNil,loadVar,isAgg,underlying,underlying76,d,Result.andThen]
def ail(w:J):(ReflectliteType.method ReflectliteType.elem #[.agg #[j5 7 81]]).run prog w=.ok (.iface 141 (.agg #[j5 7 22])) w:=by kernel_rfl
def ajT(w:J):(ReflectliteType.method ReflectliteType.elem #[.agg #[j5 7 76]]).run prog w=.ok (.iface 141 (.agg #[j5 7 74])) w:=by kernel_rfl
def Ot(w:J):(ReflectliteType.relation "Implements" ReflectliteType.implements_ #[.agg #[j5 7 22],.iface 141 (.agg #[j5 7 52])]).run prog w=.ok (.bool true) w:=by kernel_rfl
def O5(w:J):(ReflectliteType.relation "Implements" ReflectliteType.implements_ #[.agg #[j5 7 74],.iface 141 (.agg #[j5 7 52])]).run prog w=.ok (.bool true) w:=by kernel_rfl
def PJ(v:gP)(w:J):(ReflectliteType.typeOf #[.iface 22 v]).run prog w=.ok (.iface 141 (.agg #[j5 7 22])) w:=rfl
def Oq(w:J):(ReflectliteType.relation "AssignableTo" ReflectliteType.assignableTo #[.agg #[j5 7 22],.iface 141 (.agg #[j5 7 22])]).run prog w=.ok (.bool true) w:=by kernel_rfl
def UC(n:Int)(w:J):(ReflectliteValue.unpack (.iface 22 (G n))).run prog w
  =.ok (.agg #[j5 7 22,gI w.heap.size,.int .u64 130]) (w.alloc (.cells #[G n] 22)):=by kernel_rfl
def ack(w:J):(Rtype.elem? 81).run prog w=.ok (some 22) w:=by kernel_rfl
def anj(p:Addr)(w:J):(ReflectliteValue.mk 22 p ReflectliteValue.flagAddr).run prog w=.ok (.agg #[j5 7 22,.pointer (some p),.int .u64 386]) w:=by kernel_rfl
def ae2(a p:Addr)(W:J)(d:W.cell? a=some (.pointer (some p))):
  (ReflectliteValue.method (ReflectliteValue.valueError "reflectlite.Value.Elem" 0) ReflectliteValue.elem #[.agg #[j5 7 81,.pointer (some a),.int .u64 150]]).run prog W
   =.ok (.agg #[j5 7 22,.pointer (some p),.int .u64 386]) W:=by
 rw[eF];simp only[NX,PI,Result.andThen];simp[ReflectliteValue.elem,loadVar,isAgg,underlying,underlying81,d,Result.andThen,ack,anj]
def fD(v x:gP):ReflectliteValue.set #[v,x]=(do
  let (some (dst,a,fl),some (src,b,_)):=(<-ReflectliteValue.parts v,<-ReflectliteValue.parts x)
   |unsupported (.noEntry "extern/(internal/reflectlite.Value).Set.zeroValue")
  if fl / ReflectliteValue.flagAddr%2==0 then unsupported (.noEntry "extern/(internal/reflectlite.Value).Set.unaddressable")
  let d <-loadVar src b
  if <-Rtype.directlyAssignable dst src then storeVar dst a d
  else if <-Rtype.implements dst src then
   if (<-Rtype.kind src)==20 then
    match d with
    | .nilIface=>unsupported (.noEntry "extern/reflectlite: a nil value of one interface type handed on as a value of another")
    |_=>storeVar dst a d
   else storeVar dst a (.iface src d)
  else panicString ("reflectlite.Set: value of type "++(<-Rtype.spelt src)++ " is not assignable to type "++(<-Rtype.spelt dst))
  pure (.tuple #[])):=rfl
def acl(a:Addr)(w:J):(ReflectliteValue.parts (.agg #[j5 7 22,.pointer (some a),.int .u64 386])).run prog w=.ok (some (22,a,386)) w:=rfl
def ae5(a:Addr)(w:J):(ReflectliteValue.parts (.agg #[j5 7 22,.pointer (some a),.int .u64 130])).run prog w=.ok (some (22,a,130)) w:=rfl
def acj(w:J):(Rtype.directlyAssignable 22 22).run prog w=.ok true w:=by rfl
theorem alD(d b:Addr)(n:Int)(h:gP)(W:J)(q:W.cell? b=some (G n))(x:W.cell? d=some h)(u:W.frozen? d=false):
  (ReflectliteValue.set #[.agg #[j5 7 22,.pointer (some d),.int .u64 386],.agg #[j5 7 22,.pointer (some b),.int .u64 130]]).run prog W
   =.ok (.tuple #[]) (W.setCell d (G n)):=by
 rw[fD];simp only[NX,acl,ae5,Result.andThen];simp[ReflectliteValue.flagAddr,loadVar,isAgg,underlying,underlying22,q,Result.andThen,acj,storeVar,Value.cells,storeCells,Addr.add];rw[run_store prog W d _ _ rfl];grind
abbrev rv(T:Nat)(b:Nat):jL:=#[j5 7 T,gI b,.int .u64 150]
def BA{P:Program}(w:J)(d:Nat){x u:TypeId}{z:Array (String×TypeId)}{i:TypeInfo}{k:IntKind}(a b:Int)
  (hi:P.underlying x=some (.interface z)) (y:P.underlying u=some (.int k)) (q:P.info? u=some i) (h:i.comparable=true):
  (Op.equalIn (d+2) x (.iface u (.int k a)) (.iface u (.int k b))).run P w=.ok (a==b) w:=by
 simp[Op.equalIn,gy hi,gy y,typeInfo,q,h]
def GS{P:Program}(w:J){u q:TypeId}{y:Array (String×TypeId)}{i:TypeInfo}{k:IntKind}(a b:Int)
  (hi:P.underlying u=some (.interface y)) (x:P.underlying q=some (.int k)) (h:P.info? q=some i) (d:i.comparable=true):
  (binOp .eql u (.iface q (.int k a)) (.iface q (.int k b))).run P w=.ok (.bool (a==b)) w:=by
 simp[binOp];simp[Op.equal,Op.maxDepth,BA w 9998 a b hi x h d]
def Uq:jL->Sem gP:=Extern.ReflectliteType.method λt=>do Rtype.noPackHeld "Comparable" t;pure (.bool (<-typeInfo t).comparable)
def Ko(w:J):(Uq #[.agg #[j5 7 22]]).run prog w=.ok (.bool true) w:=by kernel_rfl
def aik:(prog.info? 22).map (·.comparable)=some true:=by kernel_rfl
def errorType(w:J):Prop:=w.cell? ⟨0,0,none⟩=some (.iface 141 (.agg #[j5 7 52]))
theorem X1(p q:Addr)(w:J):
  CallsD prog 57 #[.pointer (some p),.pointer (some q)] .returning w λe u w'=>e=qs/\u=.returning/\w'=w:=by
 refine callsD_of_wpS func57 rfl λd x h=>?_;apply wpS_seq;apply wpS_region;simp[wpOpsS,go_sem,recoverD,h];refine wpS_cond (rfl) (wpS_of_wp (wp_skip ?_));cases d;simp_all[bodyPostS,results]
def tC(h:errorType w)(o:Obj):errorType (w.alloc o):=by
 have:0<w.heap.size:=by
  rcases Jc w.heap.size with q|d;simp[errorType,World.cell?,q]at h;exact d
 show(w.alloc o).cell? _=_;rw[XA _ _ _ this];exact h
section
variable {P:Program}{ops:Array Oper}{Q:Exit->Act->J->Prop}{md:Region.Mode}
end
def Hf(w:J):
  Calls prog 17 #[.nilIface] w λe w'=>e=iA (.tuple #[G 0,G 0])/\Z [] w w':=by
 go_wp2;go_ret2;exact⟨rfl,((Z.refl _ _).alloc _).alloc _⟩
def Mf(h:errorType w)(u:Z S w w')(hs:0∉S):errorType w':=by
 have:0<w.heap.size:=by
  rcases Jc w.heap.size with q|d;simp[errorType,World.cell?,q]at h;exact d
 show w'.cell? _=_;rw[u.cell this hs];exact h
def Me(h:errorType w):errorType w.drew:=h
def us(a:Int×Int×Int)(d:gP):jL:=#[G a.1,G a.2.1,G a.2.2,d,.bool false,G 0,.nilIface,jD,.pointer none]
def af1(d f a:Int):Prop:=4<=d/\d<=64/\1<=f/\f<=32/\1<=a/\a<=16
def aiA(d f a:Int)(w:J)(h:af1 d f a):
  Calls prog 16 #[G d,G f,G a] w λe w'=>e=iA (.tuple #[gI w.heap.size,.nilIface])/\w'=w.alloc (.cells (us (d,f,a) (jD)) 70):=by
 have⟨h1,h2,h3,h4,h5,h6⟩:=h;go_enter func16,ntmps16;go_wp2;go_ret2;exact⟨rfl,rfl⟩
theorem ajg(d f a:Int)(w:J)(h:af1 d f a):
  Calls prog 9 #[G d,G f,G a] w λe w'=>e=iA (.tuple #[gI w.heap.size,G 0])/\w'.heap[w.heap.size]?=some (gH (us (d,f,a) (jD)) 70)/\Z [] w w':=by
 go_enter func9,ntmps9;go_wp21;refine(aiA d f a _ h).mono ?_;rintro e C⟨rfl,rfl⟩;go_wp21;refine(Hf _).mono ?_;rintro e x⟨rfl,q⟩;have z:Z [] w x:=((Z.refl _ _).alloc _).next q (by simp)
 have u:=q.at (fU w _) (by simp);have y:Hid _:=u;go_wp2;go_ret2;simp_all
def K9:(prog.info? 5).map (λi=>(i.zero,i.size,i.bytes))=some (some (.int .u8 0),1,1):=by kernel_rfl
def Cc(d:Nat)(a:Int×Int×Int)(q:gP)(w:J)(h:w.heap[d]?=some (gH (us a q) 70)):
  Calls prog 28 #[gI d] w λe w'=>e=iA (.bool false)/\w'=w:=by
 have u:w.cell? ⟨d,4,none⟩=some (.bool false):=by rw[fP h];rfl
 go_wp2;go_ret;simp
theorem adZ(y g c:Nat)(a:Int×Int×Int)(I:gP)(s t:O)(base:Nat)(w:J)(hx:w.heap[y]?=some (gH (us a I) 70))
  (ho:w.ownsRow base 5 1 I s.size (lx s)) (ht:∀j u,(lx t)[j]?=some u->w.cell? ⟨g,j,none⟩=some u) (hl:s.size+t.size<=1024) (hb:base<=w.heap.size):
  Calls prog 18 #[gI y,nX g t.size c] w λe w'=>e=iA (.tuple #[G t.size,.nilIface])/\
   ∃C,w'.heap[y]?=some (gH (us a C) 70)/\w'.ownsRow base 5 1 C (s++t).size (lx (s++t))/\Z (y::I.ownBlock.toList) w w'/\(C.ownBlock=I.ownBlock\/∀k,C.ownBlock=some k->w.heap.size<=k):=by
 obtain⟨i0,hi,a4,a5,a6⟩:=qz K9;have c1:w.cell? ⟨y,3,none⟩=some I:=by rw[fP hx];rfl
 have a2:∃F q,I=.slice F s.size q:=by
  rcases ho.2 with⟨rfl,h0⟩|⟨g,q,K,rfl,_⟩;grind;simp
 obtain⟨F,q,rfl⟩:=a2;have H0:Hid _:=hx;have HO:Hid _:=ho;have HT:Hid _:=ht;go_enter func18,ntmps18;go_wp21;refine(Cc y a _ _ H0).mono ?_;rintro e w1⟨rfl,rfl⟩;go_wp2_with (at_builtin;refine jB _ rfl _ _ 56 rfl base 5 i0 (.int .u8 0) 1 1 underlying56 hi a4 a5 a6 rfl (by decide) _ _ _ rfl HO ⟨g,0,none⟩ t.size c (lx t) rfl ?c1 ?c2 ?c3 ?c4 ?c5 hb ?_)
 case c1=>simp[lx]
 case c2=>grind[js]
 case c3=>grind[XU]
 case c4=>unfold maxLen;omega
 case c5=>omega
 intro v' w2 x z a0;have⟨ao',d,hv⟩:=gz x;subst hv;have a1:∀k,(Value.slice F s.size q).ownBlock=some k->k≠y:=by
  intro k D;rcases HO.2 with⟨h,_⟩|⟨g',d,K,h,_,hc,_⟩;rw[h]at D;cases D;rw[h]at D;obtain rfl:=Ki D;grind
 have h2:w2.heap[y]?=some (gH (us a (.slice F s.size q)) 70):=by
  rw[z.block y (ja H0.out) (λh=>a1 y h.symm rfl)];exact H0
 have d1:w2.cell? ⟨y,3,none⟩=some (.slice F s.size q):=by rw[fP h2];rfl
 have d2:=gx h2 3;have h3:=gh h2 3 (.slice ao' (s.size+t.size) d);have h4:(w2.setCell ⟨y,3,none⟩ (.slice ao' (s.size+t.size) d)).ownsRow base 5 1 (.slice ao' (s.size+t.size) d) (s++t).size (lx (s++t)):=by
  have a3:(s++t).size=s.size+t.size:=ByteArray.size_append;rw[a3,Ob];refine rF x ?_ _;intro D;rcases x.2 with⟨h,_⟩|⟨g',d,K,h,_,hc,_⟩;grind;grind
 have h5:Z (y::(Value.slice F s.size q).ownBlock.toList) w1 (w2.setCell ⟨y,3,none⟩ (.slice ao' (s.size+t.size) d)):=
  ((Z.refl _ _).grown z (λk D=> .inl (by simp[D]))).setCell (.inl (by simp)) _
 have H3:Hid _:=h3;have H4:Hid _:=h4;have HF:Hid _:=a0;go_wp2;go_ret2;exact⟨rfl,_,H3,H4,h5,HF⟩
theorem ab0(t:O)(j:Nat)(u:gP)(h:(lx t)[j]?=some u):∃d:j<t.data.size,u=.int .u8 (t.data[j].toNat:Int):=by
 grind[lx]
theorem LJ(t:O)(d j:Nat)(u:gP)(h:(lx t)[j]?=some u):(bytesRow t d)[j]?=some u:=by
 grind[ab0,bytesRow_at]
def DI(t:O)(d:Nat):t.size<=(bytesRow t d).size:=by
 simp[bytesRow]
theorem De{c:jL}{t:TypeId}{m:Nat×Nat}(h:w.heap[b]?=some (.cells c t m))(j:Nat):w.cell? ⟨b,j,none⟩=c[j]?:=by simp[World.cell?,h]
def PU{c:jL}{t:TypeId}(h:w.heap[b]?=some (.cells c t (n,n+1)))(j:Nat)(d:j<n):w.frozen? ⟨b,j,none⟩=false:=by
 simp[World.frozen?,h];omega
theorem Gx{c:jL}{t:TypeId}{m:Nat×Nat}(h:w.heap[b]?=some (.cells c t m))(j:Nat)(u:gP):(w.setCell ⟨b,j,none⟩ u).heap[b]?=some (.cells (c.setIfInBounds j u) t m):=by
 show(w.heap.modify b _)[b]?=_;grind
def D7(g sz d:Nat)(q:jL)(base n:Nat)(h:gP)(xs:List gP)(S:List Nat)(w wr:J):Prop:=
 (∃C:jL,wr.heap[g]?=some (.cells C 5 (sz,sz+1))/\C.size=sz)/\wr.heap[d]?=some (gH q 70)/\wr.ownsRow base 5 1 h n xs/\Z S w wr
theorem D7.store{d:Nat}{x:jL}{q:gP}(h:D7 g sz d x base n q xs S w wr)(y:w.heap.size<=g)(D:d≠g)(z:q.ownBlock≠some g)(j:Nat)(u:gP):
  D7 g sz d x base n q xs S w (wr.setCell ⟨g,j,none⟩ u):=by
 have⟨⟨C,hC,hs⟩,hx,ho,hk⟩:=h;refine⟨⟨_,Gx hC j u,by grind⟩,?_,rF ho z u,hk.setCell (.inr y) u⟩;grind[Below.heap_setCell]
theorem D7.cell{d:Nat}{x:jL}{u:gP}(h:D7 g sz d x base n u xs S w wr)(j:Nat)(q:j<sz):(∃v,wr.cell? ⟨g,j,none⟩=some v)/\wr.frozen? ⟨g,j,none⟩=false:=by
 have⟨⟨C,hC,hs⟩,_⟩:=h;refine⟨⟨C[j]'(by omega),?_⟩,PU hC j q⟩;rw[De hC];simp
theorem adj(z:Nat)(a:Int×Int×Int)(D:gP)(s t:O)(base:Nat)(w:J)(hx:w.heap[z]?=some (gH (us a D) 70))
  (ho:w.ownsRow base 5 1 D s.size (lx s)) (hl:s.size+t.size<=1024) (hb:base<=w.heap.size):
  Calls prog 10 #[gI z,Y t] w λe w'=>e=iA (.tuple #[G t.size,G 0,.bool true])/\
   ∃d,w'.heap[z]?=some (gH (us a d) 70)/\w'.ownsRow base 5 1 d (s++t).size (lx (s++t))/\Z (z::D.ownBlock.toList) w w'/\(d.ownBlock=D.ownBlock\/∀k,d.ownBlock=some k->w.heap.size<=k):=by
 have C:=run_bytes_of_string (P:=prog) w 9 56 5 t underlying9 underlying56 underlying5;obtain⟨I,a4⟩:∃I,I=grownCap w t.size 0 5:=⟨_,rfl⟩;rw[<-a4]at C;clear a4;have a7:=DI t I;have HR:=LJ t I;generalize bytesRow t I=R at C a7 HR;obtain⟨F,x⟩:∃F,F=w.drew.alloc (.cells R 5 (R.size,R.size+1)):=⟨_,rfl⟩;rw[<-x]at C;have HB:F.heap[w.heap.size]?=some (.cells R 5 (R.size,R.size+1)):=by rw[x];exact fU w.drew _
 have K1:Z [] w F:=by rw[x];exact(Z.refl [] w).drew.alloc _
 have z1:F.heap.size=w.heap.size+1:=by rw[x];show(w.heap.push _).size=_;simp
 clear x;have a8:=ja hx;have HX:=ho.lt;have x1:=K1.at hx (by simp);have o1:=K1.ownsRow ho (λ_ _=>by simp);have a3:=adZ z w.heap.size I a D s t base F x1 o1 (λj u h=>by grind[De]) hl (by omega);have HZ:Hid (F.heap.size=w.heap.size+1):=z1;clear z1 x1 o1 hx ho;go_enter func10,ntmps10;go_wp21;refine a3.mono ?_;rintro e w2⟨rfl,d,a6,a5,a2,a1⟩;clear C a3;go_wp21;refine(Hf _).mono ?_;rintro e w3⟨rfl,y⟩;have hS:w.heap.size∉z::D.ownBlock.toList:=by
  simp only[Db,Option.mem_toList,not_or];exact⟨by omega,λh=>by grind⟩
 have K:w3.heap[w.heap.size]?=some (.cells R 5 (R.size,R.size+1)):=y.at (a2.at HB hS) (by simp);have HT:D7 w.heap.size R.size z (us a d) base (s++t).size d (lx (s++t)) (z::D.ownBlock.toList) w w3:=
  ⟨⟨R,K,rfl⟩,y.at a6 (by simp),y.ownsRow a5 (λ_ _=>by simp),((K1.mono (by simp)).trans a2).trans (y.mono (by simp))⟩
 have HN:d.ownBlock≠some w.heap.size:=by
  rcases a1 with h|h;grind;grind
 have HF:d.ownBlock=D.ownBlock\/∀k,d.ownBlock=some k->w.heap.size<=k:=by
  rcases a1 with h|h;exact .inl h;grind
 have a0:=by
  have:=Je (P:=prog) w3 56 9 5 ⟨w.heap.size,0,none⟩ I t.data.toList underlying56 underlying5 underlying9 (λj hj=>by
   rw[js,De K];exact HR j _ (by grind[lx]))
  simpa using this
 clear a1 a2 y a6 a5 K hS K1;go_wp21;clear a0
 go_loopw [33] (λi wr=>∃k:Nat,k<=t.size/\i=G k/\D7 w.heap.size R.size z (us a d) base (s++t).size d (lx (s++t)) (z::D.ownBlock.toList) w wr) (λi _=>t.size-(intOf i).toNat)
 case atStart=>grind
 case round=>
  obtain⟨k,hk,rfl,q⟩:=hrel;by_cases a9:k<t.size
  .have⟨⟨v,hv⟩,hfz⟩:=q.cell k (by omega);have HS:=q.store (ic _) (by omega) HN k (.int .u8 33);go_wp2;go_roundw
   case rel=>exact⟨k+1,by omega,by go_num,HS⟩
   case measure=>simp[intOf];omega
  .go_wp2;go_ret3;exact⟨rfl,d,q.2.1,q.2.2.1,q.2.2.2,HF⟩
structure RC where
 cs:O
 av:gP
 at_:Int
 mv:gP
 lg:Int
 nW:O:=⟨#[]⟩
 cZ:Bool:=false
variable {R:RC}
def yp(R:RC)(d ps:Nat):jL:=#[Y R.cs,R.av,G d,G ps,G R.at_,R.mv,G R.lg,Y R.nW,.bool R.cZ]
def Rd(w:J)(r:Nat)(R:RC)(d ps:Nat):Prop:=w.heap[r]?=some (gH (yp R d ps) 161)
def Rd.text{d ps:Nat}(h:Rd w r R d ps):w.cell? ⟨r,0,none⟩=some (Y R.cs):=by rw[fP h];rfl
theorem Rd.gG{d ps:Nat}(h:Rd w r R d ps):w.cell? ⟨r,1,none⟩=some R.av:=by rw[fP h];rfl
def Rd.bg{d ps:Nat}(h:Rd w r R d ps):w.cell? ⟨r,2,none⟩=some (G d):=by rw[fP h];rfl
def Rd.ps{d ps:Nat}(h:Rd w r R d ps):w.cell? ⟨r,3,none⟩=some (G ps):=by rw[fP h];rfl
def Rd.mv{d ps:Nat}(h:Rd w r R d ps):w.cell? ⟨r,5,none⟩=some R.mv:=by rw[fP h];rfl
def Rd.lg{d ps:Nat}(h:Rd w r R d ps):w.cell? ⟨r,6,none⟩=some (G R.lg):=by rw[fP h];rfl
def Rd.nW{d ps:Nat}(h:Rd w r R d ps):w.cell? ⟨r,7,none⟩=some (Y R.nW):=by rw[fP h];rfl
def Rd.cZ{d ps:Nat}(h:Rd w r R d ps):w.cell? ⟨r,8,none⟩=some (.bool R.cZ):=by rw[fP h];rfl
def Rd.free{d ps:Nat}(h:Rd w r R d ps)(j:Nat):w.frozen? ⟨r,j,none⟩=false:=by unfold Rd at h;simp[World.frozen?,h]
def Rd.QH{q ps:Nat}(h:Rd w r R q ps)(d:Nat):Rd (w.setCell ⟨r,3,none⟩ (G d)) r R q d:=gh h 3 _
def Rd.anT{q ps:Nat}(h:Rd w r R q ps)(d:Nat):Rd (w.setCell ⟨r,2,none⟩ (G d)) r R d ps:=gh h 2 _
theorem Rd.kept{d ps:Nat}(h:Rd w r R d ps)(q:Z S w w')(hs:r∉S):Rd w' r R d ps:=q.at h hs
def pZ(r:Nat)(R:RC)(d ps:Nat)(w:J)(h:Rd w r R d ps):
  Calls prog 78 #[gI r] w λe w'=>e=iA (.bool (decide (ps=R.cs.size)))/\∃q,w'=w.drewN q:=by
 have t:=h.text;have p:=h.ps;generalize R.cs=s at t;by_cases e:ps=s.size
 .subst e;go_enter func78,ntmps78;go_wp21
  go_quiet (fail)
  go_wp2;go_ret;exact⟨by simp,⟨_,rfl⟩⟩
 .have u:((ps:Int)==(s.size:Int))=false:=beq_eq_false_iff_ne.2 (by omega);go_enter func78,ntmps78;go_wp21
  go_quiet (fail)
  go_wp2;go_ret;exact⟨by simp[e],⟨_,rfl⟩⟩
def yr(r:Nat)(R:RC)(d ps:Nat)(w:J)(h:Rd w r R d ps)(u:ps<=R.cs.size)(_hs:R.cs.size<=1024):
  Calls prog 151 #[gI r] w λe w'=>e=iA (Y (R.cs.extract ps R.cs.size))/\∃q,w'=w.drewN q:=by
 have t:=h.text;have p:=h.ps;go_enter func151,ntmps151;go_wp21
 go_quiet (fail)
 go_wp2;go_ret;exact⟨rfl,⟨_,rfl⟩⟩
def MJ(c:Int)(w:J)(x:0<=c)(y:c<=255):
  Calls prog 153 #[.int .u8 c] w λe w'=>e=iA (.bool (decide (97<=c/\c<=122\/65<=c/\c<=90)))/\w'=w:=by
 by_cases d:97<=c<;>by_cases h:c<=122<;>by_cases q:65<=c<;>by_cases u:c<=90
 all_goals first|(exfalso;omega)|skip
 all_goals (go_enter func153,ntmps153;go_wp2;go_ret;exact⟨by first|(simp;done)|(simp;omega),rfl⟩)
def pre(s p:O):Bool:=decide (p.size<=s.size)&&((s.extract 0 p.size).toList==p.toList)
def MM(s p:O)(w:J)(hs:s.size<=1048576)(d:p.size<=1048576):
  Calls prog 243 #[Y s,Y p] w λe w'=>e=iA (.bool (pre s p))/\w'=w:=by
 by_cases h:p.size<=s.size
 .go_enter func243,ntmps243;go_wp2;go_ret;exact⟨by simp[pre,h],rfl⟩
 .go_enter func243,ntmps243;go_wp2;go_ret;exact⟨by simp[pre,h],rfl⟩
def we(s p:O)(w:J)(hs:s.size<=1048576)(d:p.size<=1048576):
  Calls prog 150 #[Y s,Y p] w λe w'=>e=iA (.bool (pre s p))/\w'=w:=by
 go_enter func150,ntmps150;go_wp21;refine(MM s p w hs d).mono ?_;rintro e w'⟨rfl,rfl⟩;go_wp2;go_ret;simp
theorem IQ(h:pre s p=true):p.size<=s.size:=by
 unfold pre at h;grind
def mL{ps:Nat}(h:pre (s.extract ps s.size) p=true)(d:ps<=s.size):ps+p.size<=s.size:=by
 have:=IQ h;simp at this;omega
def taken(R:RC)(p:O)(ps:Nat):Nat:=if pre (R.cs.extract ps R.cs.size) p=true then ps+p.size else ps
def Xf{ps:Nat}(h:ps<=R.cs.size):taken R p ps<=R.cs.size:=by
 unfold taken;split;rename_i d;exact mL d h;omega
theorem Xe{ps:Nat}:ps<=taken R p ps:=by grind[taken]
def mU(r:Nat)(R:RC)(u ps:Nat)(s:O)(w:J)(h:Rd w r R u ps)(x:ps<=R.cs.size)(hs:R.cs.size<=1024)(F:s.size<=1024):
  Calls prog 82 #[gI r,Y s] w λe w'=>e=iA (.bool (pre (R.cs.extract ps R.cs.size) s))/\Z [r] w w'/\Rd w' r R u (taken R s ps):=by
 have H:=h;by_cases e:pre (R.cs.extract ps R.cs.size) s=true
 .have D:=mL e x;have d:taken R s ps=ps+s.size:=by unfold taken;rw[sL e]
  rw[d];go_enter func82,ntmps82;go_wp21;refine(yr r R u ps w H x hs).mono ?_;rintro e w'⟨rfl,q,rfl⟩;go_wp21;refine(we _ s _ (by simp;omega) (by omega)).mono ?_;rintro e w'⟨rfl,rfl⟩;have p:(w.drewN q).cell? ⟨r,3,none⟩=some (G ps):=H.ps;have I:=H.free 3;have z:Hid (Z [r] w ((w.drewN q).setCell ⟨r,3,none⟩ (G ((ps+s.size:Nat))))):=((Z.refl [r] w).drewN q).setCell (.inl (by simp)) _;have C:Hid (Rd ((w.drewN q).setCell ⟨r,3,none⟩ (G ((ps+s.size:Nat)))) r R u (ps+s.size)):=Rd.QH (w:=w.drewN q) H _;rw[e];go_wp2;go_ret;exact⟨by rw[e];rfl,z,C⟩
 .have d:taken R s ps=ps:=by unfold taken;rw[Xx e]
  rw[d];have y:pre (R.cs.extract ps R.cs.size) s=false:=by simpa using e
  go_enter func82,ntmps82;go_wp21;refine(yr r R u ps w H x hs).mono ?_;rintro e w'⟨rfl,q,rfl⟩;go_wp21;refine(we _ s _ (by simp;omega) (by omega)).mono ?_;rintro e w'⟨rfl,rfl⟩;rw[y];go_wp2;go_ret;exact⟨by rw[y];rfl,(Z.refl [r] w).drewN q,H⟩
def scan(q:Int->Bool)(s:O)(i:Nat):Nat:=if h:i<s.size then (if q (bt s i)then i else scan q s (i+1))else i
  termination_by s.size-i
theorem GU{q:Int->Bool}(h:s.size<=i):scan q s i=i:=by grind[scan]
theorem Nj{q:Int->Bool}(h:q (bt s i)=true):scan q s i=i:=by grind[scan]
theorem Lg{q:Int->Bool}(hi:i<s.size)(h:q (bt s i)=false):scan q s i=scan q s (i+1):=by grind[scan]
def tL{q:Int->Bool}:i<=scan q s i:=by
 fun_induction scan q s i with
 |case1=>omega
 |case2=>omega
 |case3=>omega
theorem qF{q:Int->Bool}(h:i<=s.size):scan q s i<=s.size:=by
 fun_induction scan q s i with
 |case1=>omega
 |case2 _ _ _ ih=>omega
 |case3=>omega
theorem ajC{q:Int->Bool}:scan q s i<s.size->q (bt s (scan q s i))=true:=by
 fun_induction scan q s i with
 |case1 _ _ h=>grind
 |case2 _ _ _ ih=>exact ih
 |case3 _ h=>omega
structure abC(w:J)(S:List Nat)(k:Nat)(caps:jL)(q:Int->Bool):Prop where
 cV:∀(args:jL)(w:J),(callFunc k args).run prog w=.ok (.enter k args) w
 ask:∀(c:Int)(w':J),0<=c->c<=255->Z S w w'->Calls prog k (#[.int .u8 c]++caps) w' λe w''=>e=iA (.bool (q c))/\∃n,w''=w'.drewN n
theorem Xj(r:Nat)(R:RC)(u ps:Nat)(k:Nat)(d:jL)(q:Int->Bool)(w:J)(h:Rd w r R u ps)(hp:ps<=R.cs.size)(hs:R.cs.size<=1024)(hq:abC w [r] k d q):
  Calls prog 249 #[gI r,.func (.func k) #[] d] w λe w'=>e=iA (Y (R.cs.extract ps (scan q R.cs ps)))/\Z [r] w w'/\Rd w' r R u (scan q R.cs ps):=by
 have F:=hq;have p0:=h.ps;have H:=h;have a0:=get_bt R.cs;have a1:=F.cV;go_enter func249,ntmps249;go_wp21
 go_loopw [] (λwr=>∃i:Nat,ps<=i/\i<=R.cs.size/\scan q R.cs i=scan q R.cs ps/\Rd wr r R u i/\Z [r] w wr) (λwr=>R.cs.size-(match wr.cell? ⟨r,3,none⟩with|some v=>(intOf v).toNat|none=>0))
 case atStart=>exact⟨ps,ic _,hp,rfl,H,Z.refl _ _⟩
 case round=>
  have⟨i,hi0,hi1,hsc,HR,HKW⟩:=hrel;have t:=HR.text;have p:=HR.ps;have fz:=HR.free 3;by_cases e:i=R.cs.size
  .have C:=(λw' (h:Rd w' r R u i)=>pZ r R u i w' h);have e2:scan q R.cs ps=i:=by rw[<-hsc];exact GU (by omega)
   have K:decide (i=R.cs.size)=true:=by simp[e]
   rw[e2];rw[K]at C;go_wp21
   go_quiet ((go_at_call 78;refine Jf (C _ ?_);exact HR))
   go_wp21
   go_quiet (fail)
   go_wp2;go_ret;exact⟨by rw[e2,e];rfl,((HKW.drewN _).drewN _),by rw[e2];exact HR⟩
  .have y:i<R.cs.size:=by omega
   have C:=(λw' (h:Rd w' r R u i)=>pZ r R u i w' h);have K:decide (i=R.cs.size)=false:=by simp[e]
   rw[K]at C;have hb:=a0 i y;have h0:=bt_nonneg R.cs i;have h1:=bt_le R.cs i;by_cases x:q (bt R.cs i)=true
   .have e2:scan q R.cs ps=i:=by rw[<-hsc];exact Nj x
    rw[e2];have D:=(λw' h=>F.ask (bt R.cs i) w' h0 h1 h);rw[x]at D;go_wp21
    go_quiet (first|(go_at_call 78;refine Jf (C _ ?_);exact HR)|(refine Jf (D _ ?_);exact HKW.drewN _))
    go_wp21
    go_quiet (fail)
    go_wp2;go_ret;exact⟨by rw[e2];rfl,((HKW.drewN _).drewN _),by rw[e2];exact HR⟩
   .have z:q (bt R.cs i)=false:=by simpa using x
    have HS:scan q R.cs (i+1)=scan q R.cs ps:=by rw[<-hsc,Lg y z]
    have D:=(λw' h=>F.ask (bt R.cs i) w' h0 h1 h);rw[z]at D;go_wp21
    go_quiet (first|(go_at_call 78;refine Jf (C _ ?_);exact HR)|(refine Jf (D _ ?_);exact HKW.drewN _))
    have I:=Rd.QH (w:=wr.drewN nq) HR (i+1);have a2:=(HKW.drewN nq).setCell (p:=⟨r,3,none⟩) (.inl (by simp)) (G ((i+1:Nat)));go_wp2;go_roundw
    case rel=>grind
    case measure=>
     have m1:=I.ps;rw[show((i:Int)+1)=((i+1:Nat):Int)from by omega,m1,p];simp[intOf];omega
def jy(s:O)(c:Int):Bool:=decide (0<=Lib.indexByte s.data.toList c.toNat.toUInt8)
def Va(s:O)(c:Int):jy s c=s.data.toList.contains c.toNat.toUInt8:=by rw[Lib.contains_iff_indexByte];rfl
theorem an0{c:Int}(d:0<=c)(q:c<=255){x:UInt8}(h:c.toNat.toUInt8=x):c=(x.toNat:Int):=by
 grind[UInt8.toNat_ofNat']
def afC{c:Int}(d:0<=c)(q:c<=255)(h:jy iZ c=true):c=62:=by
 rw[Va]at h;simp at h;exact an0 d q h
def MW(b:Nat)(s:O)(c:Int)(w:J)(h:w.cell? ⟨b,0,none⟩=some (Y s)):
  Calls prog 251 #[.int .u8 c,gI b] w λe w'=>e=iA (.bool (jy s c))/\w'=w:=by
 have C:=Tryz.strings_IndexByte s c w;go_enter func251,ntmps251;go_wp21;refine C.mono ?_;rintro e w'⟨rfl,rfl⟩;generalize hx:Lib.indexByte s.data.toList c.toNat.toUInt8=x;have q:jy s c=decide (0<=x):=by unfold jy;rw[hx]
 have d:=V q;clear q;by_cases e:0<=x
 .go_wp2;go_ret;exact⟨by rw[d.out];simp[e],rfl⟩
 .go_wp2;go_ret;exact⟨by rw[d.out];simp[e],rfl⟩
def Ec(w:J)(S:List Nat)(b:Nat)(s:O)(h:w.cell? ⟨b,0,none⟩=some (Y s))(x:b<w.heap.size)(u:b∉S):abC w S 251 #[gI b] (jy s) where
 cV:=enters_of func251 (rfl) rfl
 ask c w' _ _ hk:=(MW b s c w' ((hk.cell x u).trans h)).mono λe y ⟨d,q⟩=>⟨d,0,q⟩
def qh(s:O)(w:J):
  Calls prog 159 #[Y s] w λe w'=>e=iA (.func (.func 251) #[] #[gI w.heap.size])/\w'=w.alloc (.cells #[Y s] 9):=by
 go_wp2;go_ret;simp
def Vp(w:J)(S:List Nat):abC w S 153 #[] (λc=>decide (97<=c/\c<=122\/65<=c/\c<=90)) where
 cV:=enters_of func153 (rfl) rfl
 ask c w' h0 d _:=(MJ c w' h0 d).mono λe q ⟨d,h⟩=>⟨d,0,h⟩
def age(b d:Nat)(s:O)(c:Int)(w:J)(h:w.cell? ⟨b,0,none⟩=some (Y s))(q:w.cell? ⟨d,0,none⟩=some (.func (.func 251) #[] #[gI b])):
  Calls prog 332 #[.int .u8 c,gI d] w λe w'=>e=iA (.bool (!jy s c))/\w'=w:=by
 have C:=MW b s c w h;generalize jy s c=x at C|-;go_enter func332,ntmps332;go_wp21;refine C.mono ?_;rintro e w'⟨rfl,rfl⟩;cases x
 .go_wp2;go_ret;simp
 .go_wp2;go_ret;simp
def aew(w:J)(S:List Nat)(b d:Nat)(s:O)(h:w.cell? ⟨b,0,none⟩=some (Y s))(q:w.cell? ⟨d,0,none⟩=some (.func (.func 251) #[] #[gI b]))(C:b<w.heap.size)(z:b∉S)(x:d<w.heap.size)(u:d∉S):abC w S 332 #[gI d] (λc=>!jy s c) where
 cV:=enters_of func332 (rfl) rfl
 ask c w' _ _ hk:=(age b d s c w' ((hk.cell C z).trans h) ((hk.cell x u).trans q)).mono λe D ⟨y,q⟩=>⟨y,0,q⟩
def ai2(f:Fn)(x y:jL)(w:J):
  Calls prog 295 #[.func f x y] w λe w'=>e=iA (.func (.func 332) #[] #[gI w.heap.size])/\w'=w.alloc (.cells #[.func f x y] 217):=by
 go_wp2;go_ret;simp
theorem xD(r:Nat)(R:RC)(F ps:Nat)(s:O)(w:J)(h:Rd w r R F ps)(hp:ps<=R.cs.size)(hs:R.cs.size<=1024):
  Calls prog 247 #[gI r,Y s] w λe w'=>e=qs/\Z [r] w w'/\Rd w' r R F (scan (λc=>!jy s c) R.cs ps):=by
 have hr:=ja h;have H:=h;clear h;obtain⟨u,d⟩:∃u,u=w.alloc (.cells #[Y s] 9):=⟨_,rfl⟩;obtain⟨x,q⟩:∃x,x=u.alloc (.cells #[.func (.func 251) #[] #[gI w.heap.size]] 217):=⟨_,rfl⟩;have z1:u.heap.size=w.heap.size+1:=by rw[d];simp
 have z2:x.heap.size=w.heap.size+2:=by rw[q];simp[z1]
 have b1:u.heap[w.heap.size]?=some (gH #[Y s] 9):=by rw[d];exact fU w _
 have k1:Z [r] w u:=by rw[d];exact(Z.refl _ _).alloc _
 have y:Z [] u x:=by rw[q];exact(Z.refl _ _).alloc _
 have b2:x.heap[u.heap.size]?=some (gH #[.func (.func 251) #[] #[gI w.heap.size]] 217):=by rw[q];exact fU u _
 have a0:=y.at b1 (by simp);have z:Rd x r R F ps:=by rw[q,d];exact(((Z.refl [] w).alloc _).alloc _).at H (by simp)
 have HK:Z [r] w x:=k1.trans (y.mono (by simp));have hA:abC x [r] 332 #[gI u.heap.size] (λc=>!jy s c):=
  aew x [r] w.heap.size u.heap.size s (by simp_all) (by simp_all) (by omega) (by grind) (by omega) (by grind)
 have C:=Xj r R F ps _ _ _ x z hp hs hA;have I:=V d;have K:=V q;clear hA z a0 b2 y k1 b1 z1 z2 d q;go_enter func247,ntmps247;go_wp21;refine(qh s w).mono ?_;rintro e w'⟨rfl,rfl⟩;rw[<-I.out];go_wp21;refine(ai2 _ _ _ u).mono ?_;rintro e w'⟨rfl,rfl⟩;rw[<-K.out];go_wp21;refine C.mono ?_;rintro e w3⟨rfl,D,a2⟩;have a1:=HK.trans D;clear D;go_wp2;go_end0;grind
structure Po(w:J)(r:Nat)(R:RC)(g cap:Nat)(cut:Nat->Nat):Prop where
 av:R.av=nX g (R.cs.size+1) cap
 ne:g≠r
 lt:g<w.heap.size
 at_:∀i,i<=R.cs.size->w.cell? ⟨g,i,none⟩=some (G (cut i))
theorem Po.kept{d:Nat}{q:Nat->Nat}(h:Po w r R g d q)(u:Z [r] w w'):Po w' r R g d q:=
 ⟨h.av,h.ne,nr h.lt u.size,λi hi=>(u.cell h.lt (by simp[h.ne])).trans (h.at_ i hi)⟩
def rj(r:Nat)(R:RC)(q ps g u:Nat)(d:Nat->Nat)(w:J)(h:Rd w r R q ps)(hA:Po w r R g u d)(z:q<=R.cs.size)(C:ps<=R.cs.size)(hs:R.cs.size<=1024):
  Calls prog 79 #[gI r] w λe w'=>e=iA (.agg #[G (d q),G (d ps)])/\Z [] w w':=by
 have a:=h.gG;rw[hA.av]at a;have p:=h.ps;have b:=h.bg;have D:=hA.at_ q z;have F:=hA.at_ ps C;have K:=ja h;have I:=hA.lt;generalize R.cs.size=n at *;generalize d q=x at *;generalize d ps=y at *;go_enter func79,ntmps79;go_wp21;go_region
 all_goals (try go_wp2)
 refine uF ?_ rfl ⟨rfl,((Z.refl [] w).alloc _).drew⟩;simp[results,results79,asAddr,Result.andThen,go_sem]
def Z.Do(h:Below w.heap.size w w'):Z [] w w':=⟨h.os,h.tape,h.output,h.size,λk d _=>h.block k d⟩
def Gl(w:J)(r:Nat):Prop:=(∃m,w.cell? ⟨3,0,none⟩=some (G m))/\3<w.heap.size/\r≠3
theorem Gl.kept(h:Gl w r)(d:Z [r] w w'):Gl w' r:=by
 have⟨⟨m,hm⟩,hl,hn⟩:=h;exact⟨⟨m,(d.cell hl (by grind)).trans hm⟩,nr hl d.size,hn⟩
def nP(s:O):O:=⟨(Lib.replaceAll s.data.toList (ByteArray.mk #[0]).data.toList (ByteArray.mk #[239,191,189]).data.toList).toArray⟩
theorem zJ(r:Nat)(s:O)(w:J)(hs:s.size<=1048576)(h:Gl w r):
  Calls prog 149 #[Y s] w λe w'=>e=iA (Y (nP s))/\Z [] w w':=by
 have⟨⟨m,hm⟩,_,_⟩:=h;have q:=Lib.countB_le ⟨#[0]⟩ (by decide) s.size s (ic _);have C:=Tryz.strings_ReplaceAll s ⟨#[0]⟩ ⟨#[239,191,189]⟩ m w (by omega) hm (by decide) (by have:(ByteArray.mk #[239,191,189]).size=3:=rfl;grind);go_enter func149,ntmps149;go_wp21;refine C.mono ?_;rintro e w'⟨rfl,d⟩;go_wp2;go_ret;exact⟨rfl,Z.Do d⟩
def low(c:Int):Int:=if 65<=c/\c<=90 then c+32 else c
def small(s:O):O:=⟨s.data.map λb=>if 65<=b.toNat/\b.toNat<=90 then b+32 else b⟩
theorem qH(s:O):(small s).size=s.size:=Array.size_map ..
theorem Uk(s:O)(j:Nat)(h:j<s.size):bt (small s) j=low (bt s j):=by
 have d:j<(small s).size:=by rw[qH];exact h
 unfold bt low;rw[Jg h,Jg d];show(((small s).data[j]'d).toNat:Int)=_;have e:(small s).data[j]'d=(if 65<=(s.data[j]).toNat/\(s.data[j]).toNat<=90 then s.data[j]+32 else s.data[j]):=by simp[small]
 show _=(if 65<=((s.data[j]).toNat:Int)/\((s.data[j]).toNat:Int)<=90 then ((s.data[j]).toNat:Int)+32 else ((s.data[j]).toNat));grind[UInt8.toNat_add]
def uM(g sz:Nat)(s:O)(k:Nat)(w wr:J):Prop:=
 (∃C:jL,wr.heap[g]?=some (.cells C 5 (sz,sz+1))/\C.size=sz/\∀j,j<s.size->C[j]?=some (.int .u8 (if j<k then low (bt s j)else bt s j)))/\Z [] w wr
theorem uM.cell(h:uM g sz s k w wr)(q:s.size<=sz)(j:Nat)(d:j<s.size):wr.cell? ⟨g,j,none⟩=some (.int .u8 (if j<k then low (bt s j)else bt s j))/\wr.frozen? ⟨g,j,none⟩=false:=by
 have⟨⟨C,hC,_,h⟩,_⟩:=h;exact⟨by rw[De hC];grind,PU hC j (by omega)⟩
theorem uM.IA(h:uM g sz s k w wr)(hl:low (bt s k)=bt s k):uM g sz s (k+1) w wr:=by
 grind[uM]
theorem uM.store(h:uM g sz s k w wr)(d:w.heap.size<=g)(u:k<sz):uM g sz s (k+1) w (wr.setCell ⟨g,k,none⟩ (.int .u8 (low (bt s k)))):=by
 have⟨⟨C,hC,hs,h⟩,hk⟩:=h;refine⟨⟨_,Gx hC k _,by grind,λj q=>?_⟩,hk.setCell (.inr d) _⟩;grind
theorem xU(s:O)(w:J)(hs:s.size<=1048576):
  Calls prog 241 #[Y s] w λe w'=>e=iA (Y (small s))/\Z [] w w':=by
 have q:=run_bytes_of_string (P:=prog) w 9 56 5 s underlying9 underlying56 underlying5;obtain⟨x,C⟩:∃x,x=grownCap w s.size 0 5:=⟨_,rfl⟩;rw[<-C]at q;clear C;have K:=DI s x;have F:∀j,j<s.size->(bytesRow s x)[j]?=some (.int .u8 (bt s j)):=λj D=>by rw[bytesRow_at s x j D,<-get_bt s j D];rfl
 generalize bytesRow s x=R at q K F;obtain⟨z,h⟩:∃z,z=w.drew.alloc (.cells R 5 (R.size,R.size+1)):=⟨_,rfl⟩;rw[<-h]at q;have hB:z.heap[w.heap.size]?=some (.cells R 5 (R.size,R.size+1)):=by rw[h];exact fU w.drew _
 have K1:Z [] w z:=by rw[h];exact(Z.refl [] w).drew.alloc _
 clear h;have HT:Hid (uM w.heap.size R.size s 0 w z):=⟨⟨R,hB,rfl,λj D=>by grind⟩,K1⟩;clear hB K1 F;generalize R.size=sz at *;go_enter func241,ntmps241;go_wp21;clear q
 go_loopw [10] (λi wr=>∃k:Nat,k<=s.size/\i=G k/\uM w.heap.size sz s k w wr) (λi _=>s.size-(intOf i).toNat)
 case atStart=>exact⟨0,xj _,rfl,HT⟩
 case round=>
  obtain⟨k,hk,rfl,d⟩:=hrel;by_cases a1:k<s.size
  .have⟨c1,f1⟩:=d.cell K k a1;rw[Xx (by omega)]at c1;have h0:=bt_nonneg s k;have h1:=bt_le s k;by_cases a:65<=bt s k
   .by_cases b:bt s k<=90;have I:=d.store (ic _) (by omega);have u:low (bt s k)=bt s k-65+97:=by unfold low;rw[sL ⟨a,b⟩];omega
    rw[u]at I;clear u
    rotate_left
    have I:=d.IA (by grind[low])
    all_goals
     generalize bt s k=c at *;go_wp2;go_roundw
     case rel=>grind
     case measure=>simp[intOf];omega
   .have I:=d.IA (by grind[low]);generalize bt s k=c at *;go_wp2;go_roundw
    case rel=>grind
    case measure=>simp[intOf];omega
  .have e:k=s.size:=by omega
   subst e;have a0:=by
    have:=Je (P:=prog) wr 56 9 5 ⟨w.heap.size,0,none⟩ x (small s).data.toList underlying56 underlying5 underlying9 (λj D=>by
     have y:j<s.size:=by have:=qH s;simp at D;have e:(small s).data.size=(small s).size:=rfl;omega
     rw[js];have:=(d.cell K j y).1;rw[sL y]at this;rw[this,<-Uk s j y,<-get_bt (small s) j (by simp_all)];rfl)
    have e2:(small s).data.toList.length=s.size:=by simp;exact qH s
    rw[e2]at this
    simpa using this
   have HK:=d.2;go_wp2;go_ret;exact⟨rfl,HK⟩
def rM(x y:Int)(nm:O)(av:gP)(gG:lu)(w:J)(hA:Ad w av gG)(hn:gG.length<=4096)(hz:∀a∈gG,a.2.size<=1048576):
  Calls prog 222 #[.agg #[G x,G y,Y nm,av]] w λe w'=>e=iA (.bool (wg gG))/\Z [] w w':=by
 have⟨ao,cp,hav⟩:=gz hA;subst hav;obtain⟨w1,z⟩:∃w1,w1=w.alloc (gH #[G x,G y,Y nm,.slice ao gG.length cp] 190):=⟨_,rfl⟩;have h:Z [] w w1:=by rw[z];exact(Z.refl _ _).alloc _
 have HA:=h.ownsRow hA (λ_ _=>by simp);have HW:=V z.symm;have HZ:=hz;clear z;obtain⟨R,hR⟩:∃R,R=wg gG:=⟨_,rfl⟩;rw[<-hR];have a1:Hid (R=wg (gG.drop 0)):=V hR;clear hR;go_enter func222,ntmps222;go_wp21;rw[HW.out]
 go_loopw [8] (λv wr=>∃d:Nat,v=G d/\d<=gG.length/\R=wg (gG.drop d)/\Z [] w1 wr) (λv _=>gG.length-(intOf v).toNat)
 case atStart=>exact⟨0,rfl,xj _,a1,Z.refl _ _⟩
 case round=>
  obtain⟨d,rfl,a4,F,I⟩:=hrel;by_cases u:d<gG.length
  .obtain⟨g,rfl,c0,c1⟩:=Ad.dP (I.ownsRow HA (λ_ _=>by simp)) u;have hz:=HZ gG[d] (wK u);rw[NW u]at F;have K:Hid (R=if ld gG[d].1 oW then ld (ZA gG[d].2) mY else wg (gG.drop (d+1))):=V F;have HK:=V I;clear I F;generalize gG[d].1=a at *;generalize gG[d].2=b at *;have C:=(λW=>xU b W hz);have D:=HK.alloc (gH #[Y a,Y b] 292);cases hq:ld a oW with
   |true=>
    have a3:(a.toList==[116,121,112,101])=true:=by rw[<-hq];unfold ld;rw[sd (oW)]
    have q:=V (show R=ld (ZA b) mY by rw[K.out,hq];rfl);go_wp21;refine(C _).mono ?_;rintro e W3⟨rfl,a2⟩;have a0:=D.trans a2;go_wp2;go_ret;refine⟨?_,h.trans a0⟩;rw[q.out];unfold ld;rw[sd (mY)];rfl
   |false=>
    have a3:(a.toList==[116,121,112,101])=false:=by rw[<-hq];unfold ld;rw[sd (oW)]
    have q:=V (show R=wg (gG.drop (d+1)) by rw[K.out,hq];rfl);go_wp2;go_roundw
    case rel=>exact⟨d+1,by go_num,by omega,q,D⟩
    case measure=>simp[intOf];omega
  .have K:Hid (R=false):=V (by rw[F,QT (by omega)];rfl);have HK:=V I;clear I F;go_wp2;go_ret;exact⟨by rw[K.out];rfl,h.trans HK⟩
def DE(E:Env)(rec:Nat->gF->M Unit)(hA:∀(m:Nat)(t:gF),jo E t->jk E 162 (λ_=>#[Bp E,G m,iG E t]) (rec m t) uV)(t:gF)(C:jo E t)(hz:∀a∈t.jh,a.2.size<=1048576):jk E 124 (λ_=>#[Bp E,iG E t]) (jN rec t) uV:=by
 intro f σ w h HS;have K:∃F n I,E.tv=.slice F n I:=by
  have⟨L,_,hr⟩:=h;have⟨F,I,e⟩:=gz hr.tok;exact⟨F,_,I,e⟩
 have C1:=(λW=>zU E t W K);have z:Hid (∀W,Z [] w W->Calls prog 222 #[.agg (AY E t)] W λe W'=>e=iA (.bool (wg t.jh))/\Z [] W W'):=V (by
  intro W hk;have⟨L,_,hr⟩:=h.ir hk;have⟨a,b,k,gG⟩:=t;cases k with
  |start n=>
   have e:gG=E.ta:=C rfl;subst e;exact rM a b n E.tv E.ta W hr.tok hr.Ph hz
  |stop n=>
   have e:gG=E.ta:=C rfl;subst e;exact rM a b n E.tv E.ta W hr.tok hr.Ph hz
  |kE s=>exact rM 0 0 _ _ [] W (pP _ _ _ _) (by simp) (by simp)
  |gV s=>exact rM 0 0 _ _ [] W (pP _ _ _ _) (by simp) (by simp)
  |iH n q=>exact rM 0 0 _ _ [] W (pP _ _ _ _) (by simp) (by simp)
  |lost=>exact rM 0 0 _ _ [] W (pP _ _ _ _) (by simp) (by simp)
  |iw=>exact rM 0 0 _ _ [] W (pP _ _ _ _) (by simp) (by simp))
 obtain⟨R,u⟩:∃R,R=(jN rec t) σ:=⟨_,rfl⟩;rw[<-u]at HS|-;unfold jN at u;have H:=At.start h;cases hq:wg t.jh with
 |true=>
  rw[hq]at z u;have x:Hid (R=(kN t>>=λ_=>(Pure.pure ():M Unit)) σ):=V u;clear u;generalize hav:AY E t=tg at *;go_enter func124,ntmps124;go_wp21;refine(C1 _).mono ?_;rintro e w1⟨rfl,d⟩;have D:=z w1 d;replace H:=H.k0 d;go_wp21;refine D.mono ?_;rintro e w2⟨rfl,y⟩;replace H:=H.k0 y;go_wp21;refine dC (xA E (iP E) t C) H x HS rfl lT ?_;rintro(_) f σ w H HX HF x;go_wp2;go_end0;exact gu x H rfl
 |false=>
  rw[hq]at z u;have x:Hid (R=(qC rec t>>=λ_=>(Pure.pure ():M Unit)) σ):=V u;clear u;generalize hav:AY E t=tg at *;go_enter func124,ntmps124;go_wp21;refine(C1 _).mono ?_;rintro e w1⟨rfl,d⟩;have D:=z w1 d;replace H:=H.k0 d;go_wp21;refine D.mono ?_;rintro e w2⟨rfl,y⟩;replace H:=H.k0 y;go_wp21;refine dC (F5 E rec hA t C) H x HS rfl lT ?_;rintro(_) f σ w H HX HF x;go_wp2;go_end0;exact gu x H rfl
def ac5(E:Env)(t:gF):ni E .nothing t (Pure.pure ()):=by
 intro v f σ w h d q;refine⟨88,#[],#[],d,enters_of func88 (rfl) rfl,?_⟩;go_wp2;go_end0;exact gu rfl (At.start h) rfl
def iW(E:Env)(t:gF)(k:Nat)(m:M Unit)(q:∀d w,(callFunc k d).run prog w=.ok (.enter k d) w)(h:jk E k (λ_=>#[Bp E,iG E t]) m uV):ni E (.iq k) t m:=by
 intro v f σ w u y x;exact⟨k,#[iD E.bB],#[],y,q,h f σ w u x⟩
theorem AX(E:Env)(r:Ru)(t:gF):ni E r t stuck:=λ_ _ _ _ _ _ d=>absurd rfl d
def Yw(E:Env)(t:gF):jk E 115 (λ_=>#[Bp E,iG E t]) (wC t) uV:=by
 refine dI λf σ w R d HS H=>?_;unfold wC at d;go_enter func115,ntmps115;have⟨ta,tb,tao,tn,tcp,HTG⟩:=Hd E t H.rel;have h:=λw=>Cy ta tb t.name tao tn tcp w;go_wp21;refine(HTG _).mono ?_;rintro e y⟨rfl,q⟩;replace H:=H.k0 q;go_wp21;refine dC (L9 E t.name) H d HS rfl lT ?_;rintro(_) f σ w H x u d;go_wp2;go_end0;exact gu d H rfl
def wH(t:gF):Bool:=t.jh.all λa=>decide (a.2.size<=1048576)
def FW(f:Nat):Option (M Bool):=
 if f=129 then some tX else
 if f=136 then some endCell else
 if f=130 then some lc else
 if f=135 then some Ej else
 if f=141 then some rh else
 if f=132 then some qB else
 if f=122 then some uR else
 none
def ae9(E:Env){f:Nat}{b:M Bool}(h:FW f=some b):kP E f (λ_=>#[Bp E]) b bV/\∀d w,(callFunc f d).run prog w=.ok (.enter f d) w:=by
 unfold FW at h;split at h;rename_i e;subst e;cases h;exact⟨RQ E,enters_of func129 (by rfl) rfl⟩;split at h;rename_i e;subst e;cases h;exact⟨acp E,enters_of func136 (by rfl) rfl⟩;split at h;rename_i e;subst e;cases h;exact⟨Il E,enters_of func130 (by rfl) rfl⟩;split at h;rename_i e;subst e;cases h;exact⟨afc E,enters_of func135 (by rfl) rfl⟩;split at h;rename_i e;subst e;cases h;exact⟨UK E,enters_of func141 (by rfl) rfl⟩;split at h;rename_i e;subst e;cases h;exact⟨Mb E,enters_of func132 (by rfl) rfl⟩;split at h;rename_i e;subst e;cases h;exact⟨Yz E,enters_of func122 (by rfl) rfl⟩;cases h
def Vt(lk:Bool)(jt rec:Nat->gF->M Unit)(t:gF)(f:Nat):M Unit:=
 if f=104 then As else
 if f=110 then xv else
 if f=200 then xn else
 if f=203 then tY else
 if f=204 then Au else
 if f=205 then Ov else
 if f=206 then uQ else
 if f=207 then xq else
 if f=209 then sx else
 if f=146 then Ii else
 if f=143 then mF else
 if f=142 then jf else
 if f=91 then nI t else
 if f=94 then xV t else
 if f=98 then xW t else
 if f=106 then uC t else
 if f=100 then jK t else
 if f=101 then kN t else
 if f=111 then nw t else
 if f=113 then mi t else
 if f=195 then sK t else
 if f=184 then mQ t else
 if f=185 then wI t else
 if f=186 then oD t else
 if f=187 then xJ t else
 if f=188 then sG t else
 if f=190 then pz t else
 if f=191 then rV t else
 if f=193 then pE t else
 if f=194 then qy t else
 if f=196 then qj t else
 if f=197 then jb t else
 if f=198 then sH t else
 if f=199 then pD t else
 if f=202 then yi t else
 if f=115 then wC t else
 if f=208 then pJ t else
 if f=117 then pA t else
 if f=134 then rq t else
 if f=123 then lA t else
 if f=137 then oz t else
 if f=138 then kg t else
 if f=139 then ju t else
 if f=140 then lW t else
 if f=102 then sJ t else
 if f=103 then nR t else
 if f=192 then pO t else
 if f=182 then nN t else
 if f=183 then p5 t else
 if f=92 then kK rec t else
 if f=95 then oF rec t else
 if f=99 then oG rec t else
 if f=105 then mj rec t else
 if f=108 then nf rec t else
 if f=107 then tU rec t else
 if f=109 then Ao rec t else
 if f=201 then xu rec t else
 if f=238 then tR rec t else
 if f=126 then qC rec t else
 if f=116 then nM rec t else
 if f=124 then (if wH t then jN rec t else stuck)else
 if f=127 then (if lk then stuck else oq t)else
 if f=128 then (if lk then stuck else lM jt rec t)else
 stuck
theorem mB{f:Nat}{a b:M Unit}(d:ni E (.iq k) t a)(h:ni E (.iq f) t b):ni E (.iq f) t (if f=k then a else b):=by
 grind
section
variable (E:Env)(lk:Bool)(hl:lk=false->E.wv=none)(hi:E.Iu=7)(jt rec:Nat->gF->M Unit)
variable (hAL:∀v ws (m:Nat) (t:gF),jo E t->jk (E.lock v ws) 162 (λ_=>#[Bp E,.int .i64 (m:Int),iG E t]) (jt m t) uV)
variable (hA:∀(m:Nat)(t:gF),jo E t->jk E 162 (λ_=>#[Bp E,.int .i64 (m:Int),iG E t]) (rec m t) uV)
include hl hi hAL hA
theorem aiT(f:Nat)(t:gF)(d:jo E t):ni E (.iq f) t (Vt lk jt rec t f):=by
 unfold Vt;refine mB (iW E t _ _ (enters_of func104 (by rfl) rfl) (PM E t)) ?_;refine mB (iW E t _ _ (enters_of func110 (by rfl) rfl) (PO E t)) ?_;refine mB (iW E t _ _ (enters_of func200 (by rfl) rfl) (acn E t)) ?_;refine mB (iW E t _ _ (enters_of func203 (by rfl) rfl) (RS E t)) ?_;refine mB (iW E t _ _ (enters_of func204 (by rfl) rfl) (acw E t)) ?_;refine mB (iW E t _ _ (enters_of func205 (by rfl) rfl) (alF E t)) ?_;refine mB (iW E t _ _ (enters_of func206 (by rfl) rfl) (Yq E (iP E) t)) ?_;refine mB (iW E t _ _ (enters_of func207 (by rfl) rfl) (acr E t)) ?_;refine mB (iW E t _ _ (enters_of func209 (by rfl) rfl) (UG E t)) ?_;refine mB (iW E t _ _ (enters_of func146 (by rfl) rfl) (ae7 E t)) ?_;refine mB (iW E t _ _ (enters_of func143 (by rfl) rfl) (DA E t)) ?_;refine mB (iW E t _ _ (enters_of func142 (by rfl) rfl) (Bu E t)) ?_;refine mB (iW E t _ _ (enters_of func91 (by rfl) rfl) (KH E t)) ?_;refine mB (iW E t _ _ (enters_of func94 (by rfl) rfl) (WG E t d)) ?_;refine mB (iW E t _ _ (enters_of func98 (by rfl) rfl) (WI E (iP E) t d)) ?_;refine mB (iW E t _ _ (enters_of func106 (by rfl) rfl) (Wy E (iP E) t d)) ?_;refine mB (iW E t _ _ (enters_of func100 (by rfl) rfl) (xy E (iP E) t)) ?_;refine mB (iW E t _ _ (enters_of func101 (by rfl) rfl) (xA E (iP E) t d)) ?_;refine mB (iW E t _ _ (enters_of func111 (by rfl) rfl) (RE E (iP E) t)) ?_;refine mB (iW E t _ _ (enters_of func113 (by rfl) rfl) (sI E (iP E) t d)) ?_;refine mB (iW E t _ _ (enters_of func195 (by rfl) rfl) (WQ E (iP E) t d)) ?_;refine mB (iW E t _ _ (enters_of func184 (by rfl) rfl) (xI E (iP E) t d)) ?_;refine mB (iW E t _ _ (enters_of func185 (by rfl) rfl) (ZG E (iP E) t d)) ?_;refine mB (iW E t _ _ (enters_of func186 (by rfl) rfl) (Nv E (iP E) t d)) ?_;refine mB (iW E t _ _ (enters_of func187 (by rfl) rfl) (adD E (iP E) t d)) ?_;refine mB (iW E t _ _ (enters_of func188 (by rfl) rfl) (WD E t d)) ?_;refine mB (iW E t _ _ (enters_of func190 (by rfl) rfl) (O8 E t d)) ?_;refine mB (iW E t _ _ (enters_of func191 (by rfl) rfl) (S9 E t d)) ?_;refine mB (iW E t _ _ (enters_of func193 (by rfl) rfl) (Pc E (iP E) t d)) ?_;refine mB (iW E t _ _ (enters_of func194 (by rfl) rfl) (Pf E t d)) ?_;refine mB (iW E t _ _ (enters_of func196 (by rfl) rfl) (WK E t d)) ?_;refine mB (iW E t _ _ (enters_of func197 (by rfl) rfl) (pC E t d)) ?_;refine mB (iW E t _ _ (enters_of func198 (by rfl) rfl) (WM E t d)) ?_;refine mB (iW E t _ _ (enters_of func199 (by rfl) rfl) (Pa E (iP E) t d)) ?_;refine mB (iW E t _ _ (enters_of func202 (by rfl) rfl) (Yn E t)) ?_;refine mB (iW E t _ _ (enters_of func115 (by rfl) rfl) (Yw E t)) ?_;refine mB (iW E t _ _ (enters_of func208 (by rfl) rfl) (Kr E t)) ?_;refine mB (iW E t _ _ (enters_of func117 (by rfl) rfl) (Nt E (iP E) t d)) ?_;refine mB (iW E t _ _ (enters_of func134 (by rfl) rfl) (WB E t d)) ?_;refine mB (iW E t _ _ (enters_of func123 (by rfl) rfl) (Fc E t d)) ?_;refine mB (iW E t _ _ (enters_of func137 (by rfl) rfl) (LN E (iP E) t)) ?_;refine mB (iW E t _ _ (enters_of func138 (by rfl) rfl) (BC E (iP E) t d)) ?_;refine mB (iW E t _ _ (enters_of func139 (by rfl) rfl) (uD E (iP E) t d)) ?_;refine mB (iW E t _ _ (enters_of func140 (by rfl) rfl) (GY E (iP E) t d)) ?_;refine mB (iW E t _ _ (enters_of func102 (by rfl) rfl) (by grind[Kd])) ?_;refine mB (iW E t _ _ (enters_of func103 (by rfl) rfl) (by grind[I4])) ?_;refine mB (iW E t _ _ (enters_of func192 (by rfl) rfl) (by grind[KL])) ?_;refine mB (iW E t _ _ (enters_of func182 (by rfl) rfl) (by grind[YG,afu])) ?_;refine mB (iW E t _ _ (enters_of func183 (by rfl) rfl) (by grind[YF,afu])) ?_;refine mB (iW E t _ _ (enters_of func92 (by rfl) rfl) (BF E rec hA t d)) ?_;refine mB (iW E t _ _ (enters_of func95 (by rfl) rfl) (OI E rec hA t d)) ?_;refine mB (iW E t _ _ (enters_of func99 (by rfl) rfl) (OK E (iP E) rec hA t d)) ?_;refine mB (iW E t _ _ (enters_of func105 (by rfl) rfl) (Er E rec hA t d)) ?_;refine mB (iW E t _ _ (enters_of func108 (by rfl) rfl) (OE E (iP E) rec hA t d)) ?_;refine mB (iW E t _ _ (enters_of func107 (by rfl) rfl) (Rs E rec hA t d)) ?_;refine mB (iW E t _ _ (enters_of func109 (by rfl) rfl) (acg E rec hA t d)) ?_;refine mB (iW E t _ _ (enters_of func201 (by rfl) rfl) (acu E rec hA t d)) ?_;refine mB (iW E t _ _ (enters_of func238 (by rfl) rfl) (Rq E rec hA t d)) ?_;refine mB (iW E t _ _ (enters_of func126 (by rfl) rfl) (F5 E rec hA t d)) ?_;refine mB (iW E t _ _ (enters_of func116 (by rfl) rfl) (Oh E rec hA t d)) ?_;by_cases e:f=124;rw[sL e];subst e;refine iW E t _ _ (enters_of func124 (by rfl) rfl) ?_;by_cases q:wH t=true;rw[sL q];exact DE E rec hA t d (λa u=>by grind[wH]);rw[Xx q];exact λ_ _ _ _ h=>absurd rfl h;rw[Xx e];clear e;by_cases e:f=127;rw[sL e];subst e;refine iW E t _ _ (enters_of func127 (by rfl) rfl) ?_
 (cases lk with
  |true=>exact λ_ _ _ _ h=>absurd rfl h
  |false=>grind[YT])
 rw[Xx e];clear e;by_cases e:f=128;rw[sL e];subst e;refine iW E t _ _ (enters_of func128 (by rfl) rfl) ?_
 (cases lk with
  |true=>exact λ_ _ _ _ h=>absurd rfl h
  |false=>grind[Md])
 grind[ni,stuck]
end
def rI:M (Nat×Nat):=λσ=>match iC σ.gq 0 with
 |some i=>jg i σ
 |none=> .stuck
def vC(d:Nat)(own:Bool)(t:gF):M Unit:=
 if d=96/\own=true then nj ky t else
 if d=145/\own=true then nj rI t else
 if d=90/\own=false then nj (jg 0) t else
 stuck
theorem OX{σ1:N}(h:placeFor i σ=.ok pl σ1):σ1=σ:=by
 grind[ny,oJ,placeFor]
theorem sy(i:Nat)(σ:N)(c p:Nat):jg i σ≠ .stop c p:=by
 grind[jg]
theorem Bg(i:Nat)(σ:N)(c p:Nat):mG i σ≠ .stop c p:=by
 grind[sy,mG]
theorem yj(σ:N)(c p:Nat):j7 σ≠ .stop c p:=by
 grind[Bg,sy,j7]
theorem OY(E:Env):Fv E 96 true ky where
 cV:=enters_of func96 (rfl) rfl
 same:=by
  grind[OX,ky]
 Sx:=by
  intro σ c p h;unfold ky at h;split at h;grind[sy,yj,placeFor];grind
 aii:=λf σ w h d=>Lf E (iP E) f σ w h d
theorem Uy(E:Env):Fv E 90 false (jg 0) where
 cV:=enters_of func90 (rfl) rfl
 same:=λ_ _ _ h=>ny h
 Sx:=λσ c p=>sy 0 σ c p
 aii:=λf σ w h d=>JD E 0 f σ w h d
theorem R9(E:Env):Fv E 145 true rI where
 cV:=enters_of func145 (rfl) rfl
 same:=by
  grind[ny,rI]
 Sx:=by
  grind[sy,rI]
 aii:=by
  intro f σ w h d;unfold rI at d|-;cases hq:iC _ 0 with
  |none=>rw[hq]at d;exact absurd rfl d
  |some i=>
   rw[hq]at d;exact UH E i h hq d
theorem aif(E:Env)(d:Nat)(own:Bool)(t:gF):ni E (.gV d own) t (vC d own t):=by
 have u:∀q,Fv E d own q->ni E (.gV d own) t (nj q t):=by
  intro q x v f σ w h z y;have⟨b1,e,hb⟩:=z;exact⟨_,_,_,e,enters_of func165 (rfl) rfl,Yd E d own q x t b1 h y hb⟩
 grind[AX,Uy,R9,OY,vC]
def mH(lk:Bool)(jt rec:Nat->gF->M Unit):Ru->gF->M Unit
 | .nil,_=>stuck
 | .nothing,_=>Pure.pure ()
 | .iq f,t=>Vt lk jt rec t f
 | .o9 m,t=>if 0<=m then rec m.toNat t else stuck
 | .gV pf own,t=>vC pf own t
 | .ahead f,t=>match FW f with
  |some b=>ya rec b t
  |none=>stuck
 | .ends f,_=>match FW f with
  |some b=>DJ b
  |none=>stuck
 | .Sc r,t=>Kv (mH lk jt rec r t) t
 | .sZ ks m,t=>if 0<=m then vp ks m.toNat t else stuck
 | .oX ks name m,t=>if 0<=m then p9 rec ks name m.toNat t else stuck
 | .item ks,t=>Gm ks t
section
variable (E:Env)(lk:Bool)(hl:lk=false->E.wv=none)(hi:E.Iu=7)(jt rec:Nat->gF->M Unit)
variable (hAL:∀v ws (m:Nat) (t:gF),jo E t->jk (E.lock v ws) 162 (λ_=>#[Bp E,.int .i64 (m:Int),iG E t]) (jt m t) uV)
variable (hA:∀(m:Nat)(t:gF),jo E t->jk E 162 (λ_=>#[Bp E,.int .i64 (m:Int),iG E t]) (rec m t) uV)
include hl hi hAL hA
theorem U1(t:gF)(x:jo E t):∀r,ni E r t (mH lk jt rec r t)
 | .nil=>AX E _ t
 | .nothing=>ac5 E t
 | .iq f=>aiT E lk hl hi jt rec hAL hA f t x
 | .o9 m=>by
  show ni E (.o9 m) t (if 0<=m then rec m.toNat t else stuck);split;rename_i y;intro v f σ w h q d;have⟨b1,b2,e,lV,hb2⟩:=q;have z:m=((m.toNat:Nat):Int):=by omega
  rw[z]at hb2;exact⟨_,_,_,e,enters_of func171 (by rfl) rfl,ah3 E rec hA t x m.toNat b1 b2 h d lV hb2⟩;grind[AX]
 | .gV pf own=>aif E pf own t
 | .ahead k=>by
  show ni E (.ahead k) t (match FW k with|some b=>ya rec b t|none=>stuck)
  cases hb:FW k with
  |none=>grind[AX]
  |some b=>
   intro v f σ w h q d;have⟨b1,b2,e,lV,hb2⟩:=q;have⟨y,he⟩:=ae9 E hb;exact⟨_,_,_,e,enters_of func218 (by rfl) rfl,RV E rec hA t x b k y he b1 b2 h d lV hb2⟩
 | .ends k=>by
  show ni E (.ends k) t (match FW k with|some b=>DJ b|none=>stuck)
  cases hb:FW k with
  |none=>grind[AX]
  |some b=>
   intro v f σ w h q d;have⟨b1,e,lV⟩:=q;have⟨y,he⟩:=ae9 E hb;exact⟨_,_,_,e,enters_of func223 (by rfl) rfl,aiq E t b k y he b1 h d lV⟩
 | .Sc r=>by
  intro v f σ w h q d;have⟨b1,b2,u,e,lV,hb2,hu⟩:=q;exact⟨_,_,_,e,enters_of func228 (by rfl) rfl,Sb E t r _ (U1 t x r) b1 b2 u h d lV hb2 hu⟩
 | .sZ ks m=>by
  show ni E (.sZ ks m) t (if 0<=m then vp ks m.toNat t else stuck);split;rename_i y;intro v f σ w h q d;have⟨b1,b2,b3,u,e,lV,hb2,ha,hb3⟩:=q;have z:m=((m.toNat:Nat):Int):=by omega
  rw[z]at hb3;obtain⟨k,C,rfl,_,_⟩:=ha.call;exact⟨_,_,_,e,enters_of func215 (by rfl) rfl,Ke E t x ks m.toNat b1 b2 b3 k C h d lV hb2 ha hb3⟩;grind[AX]
 | .oX ks name m=>by
  show ni E (.oX ks name m) t (if 0<=m then p9 rec ks name m.toNat t else stuck);split
  .rename_i y;intro v f σ w h q d;have⟨b1,b2,b3,b4,u,e,lV,hb2,ha,hb3,hb4⟩:=q;have z:m=((m.toNat:Nat):Int):=by omega
   rw[z]at hb4;obtain⟨k,C,rfl,_,_⟩:=ha.call;exact⟨_,_,_,e,enters_of func217 (by rfl) rfl,by first|exact Gb E rec hA t x ks name m.toNat b1 b2 b3 b4 k C h d lV hb2 ha hb3 hb4|exact Gb E rec hA t x ks name m.toNat b1 b2 b3 b4 k C h d lV hb2 hb3 hb4 ha⟩
  grind[AX]
 | .item ks=>by
  intro v f σ w h q d;have⟨b1,b2,b3,u1,u2,e,lV,hb2,ha1,hb3,ha2⟩:=q;obtain⟨I,D,rfl,_,_⟩:=ha1.call;obtain⟨K,F,rfl,_,_⟩:=ha2.call;exact⟨_,_,_,e,enters_of func272 (by rfl) rfl,S3 E t x ks b1 b2 b3 I K D F h d lV hb2 ha1 hb3 ha2⟩
end
def gX:Bool->Nat->Nat->gF->M Unit
 |_,0,_,_=>stuck
 |lk,n+1,m,t=>match t.k with
  | .lost=>stuck
  |_=>db (mH lk (gX true n) (gX lk n)) m t
theorem amg(E:Env)(a0:∃x m c,E.tv=.slice x m c)(t:gF)(h:t.k≠ .lost):akn E t:=by
 have⟨a,b,k,gG⟩:=t;cases k with
 |kE s=>exact λd u sp z C D F I K v6 v7 v8 v9 w y=>ai9 E d u a b s gG sp z C D F I K v6 v7 v8 v9 w y
 |iw=>exact λd u sp z C D F I K v6 v7 v8 v9 w y=>Zc E d u a b gG sp z C D F I K v6 v7 v8 v9 w y
 |start n=>exact λd u sp z C D F I K v6 v7 v8 v9 w y=>agq E d u a b n gG sp z C D F I K v6 v7 v8 v9 w y a0
 |stop n=>exact λd u sp z C D F I K v6 v7 v8 v9 w y=>aja E d u a b n gG sp z C D F I K v6 v7 v8 v9 w y a0
 |gV s=>exact λd u sp z C D F I K v6 v7 v8 v9 w y=>Y9 E d u a b s gG sp z C D F I K v6 v7 v8 v9 w y
 |iH n q=>exact λd u sp z C D F I K v6 v7 v8 v9 w y=>Za E d u a b n q gG sp z C D F I K v6 v7 v8 v9 w y
 |lost=>grind
theorem zX(lk:Bool)(n m:Nat)(t:gF)(h:t.k≠ .lost):gX lk (n+1) m t=db (mH lk (gX true n) (gX lk n)) m t:=by
 simp[gX]
def Ti:∀(n:Nat)(lk:Bool)(E:Env),(lk=false->E.wv=none)->E.Iu=7->(∃x m c,E.tv=.slice x m c)->∀(m:Nat)(t:gF),jo E t->jk E 162 (λ_=>#[Bp E,G m,iG E t]) (gX lk n m t) uV
 |0,_,_,_,_,_,_,_,_=>λ_ _ _ _ q=>absurd rfl q
 |n+1,lk,E,hl,hi,htv,m,t,u=>by
  by_cases d:t.k=.lost;have e:gX lk (n+1) m t=stuck:=by
   have⟨a,b,k,gG⟩:=t;cases d;rfl
  rw[e];exact λ_ _ _ _ q=>absurd rfl q;rw[zX lk n m t d];exact aha E _ t (amg E htv t d) (λr=>U1 E lk hl hi _ _ (λv ws m t u=>Ti n true (E.lock v ws) (λh=>by cases h) hi htv m t u) (Ti n lk E hl hi htv) t u r) m
theorem abI(E:Env)(rec:Nat->gF->M Unit)(a b:Nat)(gG:lu):jk E 48 (λ_=>#[Bp E,iG E ⟨a,b,.lost,gG⟩]) (qR rec ⟨a,b,.lost,gG⟩) uV:=by
 intro f σ w h u;have q:qR rec ⟨a,b,.lost,gG⟩ σ=.ok () σ:=rfl;rw[q];simp only[iG];have d:=rX underlying186;have H:=V ((At.start h).k0 ((Z.refl [] w).alloc (gH #[G a,G b] 186)));clear h u q;go_enter func48,ntmps48;go_wp2;go_end0;exact gu rfl H.out rfl
section
variable (lk:Bool)(jt rec:Nat->gF->M Unit)(t:gF)
end
theorem aej(E:Env)(hl:E.wv=none)(hi:E.Iu=7)(h:∃x m c,E.tv=.slice x m c)(n:Nat)(t:gF)(d:jo E t):jk E 48 (λ_=>#[Bp E,iG E t]) (qR (gX false n) t) uV:=by
 have hA:=Ti n false E (λ_=>hl) hi h;have⟨a,b,k,gG⟩:=t;cases k with
 |kE s=>exact zy E _ hA _ d nofun rfl (by decide) λw=>by kernel_rfl
 |start s=>exact zy E _ hA _ d nofun rfl (by decide) λw=>by kernel_rfl
 |stop s=>exact zy E _ hA _ d nofun rfl (by decide) λw=>by kernel_rfl
 |gV s=>exact zy E _ hA _ d nofun rfl (by decide) λw=>rfl
 |iH s q=>exact zy E _ hA _ d nofun rfl (by decide) λw=>rfl
 |lost=>grind[abI]
 |iw=>exact zy E _ hA _ d nofun rfl (by decide) λw=>rfl
theorem xP{n:O}{r:Ru}:∀{R:List (List O×Ru)},oZ R n=some r->∃p∈R,gO p.1 n=true/\p.2=r
 |[],h=>by cases h
 |p::R,h=>by
  unfold oZ at h;by_cases d:gO p.1 n=true;grind;rw[Xx d]at h;have⟨q,h1,h2⟩:=xP h;grind
theorem MN{n:O}:∀{R:List (List O×Ru)},oZ R n=none->∀p∈R,gO p.1 n=false
 |[],_,p,d=>by grind
 |q::R,h,p,d=>by
  unfold oZ at h;by_cases u:gO q.1 n=true;grind;rw[Xx u]at h;rcases List.mem_cons.1 d with rfl|d;grind;exact MN h p d
def aaG(t:gF):Bool:=match t.k with
 | .start _=>true
 |_=>false
structure wP(t:gF):Prop where
 sz:t.chars.size<=100
 sm:wH t=true
 nl:t.k≠ .lost
def Lr(σ:N)(t:gF):Prop:=aaG t=true->σ.fresh=true
theorem Lr.tag(h:Lr σ t)(hs:aaG t=true):po σ t:=by
 refine⟨?_,h hs⟩;have⟨a,b,k,gG⟩:=t;cases k<;>first|rfl|cases hs
theorem iN(lk:Bool)(n m:Nat)(t:gF)(hl:t.k≠ .lost)(sp:nc)(hs:yV[m]?=some sp)(r:Ru)(d:iS sp t=r):gX lk (n+1) m t=mH lk (gX true n) (gX lk n) r t:=by
 grind[zX,db]
def Am(t:gF):vC 96 true t=nj ky t:=by rfl
def Us(t:gF):vC 90 false t=nj (jg 0) t:=by rfl
theorem Ms{n:O}(h:gO [s] n=true):n=s:=by grind[ry,zG]
theorem ann{u n:O}(h:gO [s,u] n=true):n=s\/n=u:=by
 grind[ry,gO]
theorem R8{d:List O}{n:O}(h:gO d n=true):n∈d:=by
 grind[ry,gO]
def aaD(lk:Bool)(n a b:Nat)(nm:O)(gG:lu)(q:nm=iB\/nm=je\/nm=iE)(h:td σ)(d:σ.fresh=true)(u:wt σ<999000):RB 1 σ (gX lk (n+1) 3 ⟨a,b,.start nm,gG⟩ σ):=by
 rcases q with rfl|rfl|rfl;rw[iN lk n 3 _ (by simp) _ rfl (.iq 101) (by kernel_rfl)];exact wm h u (⟨rfl,d⟩);rw[iN lk n 3 _ (by simp) _ rfl (.iq 102) (by kernel_rfl)];exact G9 h u (⟨rfl,d⟩);rw[iN lk n 3 _ (by simp) _ rfl (.iq 103) (by kernel_rfl)];exact G1 h u (⟨rfl,d⟩)
def AM{rec:Nat->gF->M Unit}(h:RB c {σ with mode:=m} (rec m t {σ with mode:=m})):RB c σ ((jq m>>=λ_=>jF rec t>>=λ_=>(Pure.pure ():M Unit)) σ):=by
 have z:RB c _ ((jF rec t>>=λ_=>(Pure.pure ())) _):=RB.tail h;show RB c σ ((jF rec t>>=λ_=>(Pure.pure ())) _);revert z;cases(jF rec t>>=λ_=>(Pure.pure ())) _ with
 |ok u σ2=>rintro⟨q,x,d,y⟩;exact⟨q,x,⟨d.gQ,d.qZ,d.sB,d.qu,d.wt,d.wz,d.nm⟩,y⟩
 |stop c p=>exact λh=>h
 |stuck=>exact λh=>h
theorem td.mode(h:td σ)(m:Nat)(d:rC m=true):td {σ with mode:=m}:=⟨h.iv.lf rfl rfl rfl rfl rfl rfl rfl,h.ne,d⟩
theorem FG(lk:Bool)(n:Nat)(t:gF)(z:wP t)(h:td σ)(hf:Lr σ t)(d:wt σ<999000):RB 360 σ (gX lk (n+3) 6 t σ):=by
 obtain⟨a,b,k,gG⟩:=t;cases k with
 |lost=>exact absurd rfl z.nl
 |kE s=>
  have D:iS jU ⟨a,b,.kE s,gG⟩=.iq 111:=by
   unfold iS;dsimp only;split<;>rfl
  rw[iN lk (n+2) 6 _ z.nl jU rfl _ D];exact(Of h d z.sz).mono (by omega)
 |gV s=>
  rw[iN lk (n+2) 6 _ z.nl jU rfl (.gV 96 true) rfl];show RB 360 σ (vC 96 true _ σ);rw[Am];exact RB.mono (c:=1) ((Jy h.iv ky (Cp h.iv h.ne) _ d).rb h.ne h.md) (by omega)
 |iH s q=>
  rw[iN lk (n+2) 6 _ z.nl jU rfl .nothing rfl];exact(tI h.iv h.bU).mono (by omega)
 |iw=>
  rw[iN lk (n+2) 6 _ z.nl jU rfl .nothing rfl];exact(tI h.iv h.bU).mono (by omega)
 |start nm=>
  have u:po σ ⟨a,b,.start nm,gG⟩:=hf.tag rfl;cases hl:oZ lh nm with
  |none=>
   have D:iS jU ⟨a,b,.start nm,gG⟩=.iq 113:=by
    show jv [((oZ lh nm).getD .nil),_,_]=_;rw[hl];rfl
   rw[iN lk (n+2) 6 _ z.nl jU rfl _ D];exact(Pd h d u).mono (by omega)
  |some r=>
   obtain⟨p,C,x,e⟩:=xP hl;have D:r≠ .nil->iS jU ⟨a,b,.start nm,gG⟩=r:=by
    intro I;show jv [((oZ lh nm).getD .nil),_,_]=_;rw[hl];cases r<;>first|rfl|grind
   have go:∀y,r=y->y≠ .nil->RB 360 σ (mH lk (gX true (n+2)) (gX lk (n+2)) y ⟨a,b,.start nm,gG⟩ σ)->RB 360 σ (gX lk (n+3) 6 ⟨a,b,.start nm,gG⟩ σ):=by
    intro y e1 e2 F;rw[iN lk (n+2) 6 _ z.nl jU rfl y (by grind)];exact F
   unfold lh at C;simp only[Db,tw,tz]at C;rcases C with rfl|rfl|rfl|rfl|rfl|rfl|rfl|rfl|rfl|rfl|rfl|rfl|rfl|rfl|rfl|rfl|rfl|rfl|rfl|rfl|rfl
   all_goals refine go _ e.symm (by grind) ?_
   all_goals dsimp only at x
   all_goals first
    |exact(Ny h d u).mono (by omega)
    |exact(S5 h d u (Ms x)).mono (by omega)
    |exact(Fe h d u (by rcases ann x with e|e<;>(show sN nm=true;rw[e];kernel_rfl))).mono (by omega)
    |exact(S4 h d u (Ms x)).mono (by omega)
    |exact(Tc h d u).mono (by omega)
    |exact(NA h d u).mono (by omega)
    |exact(Nz h d u).mono (by omega)
    |exact(I5 h d u).mono (by omega)
    |exact(Pg h d u).mono (by omega)
    |exact(Nr h d u).mono (by omega)
    |exact(aiK h d u _ (by kernel_rfl)).mono (by omega)
    |exact(SZ h d u (Ms x)).mono (by omega)
    |exact(ZE h d u).mono (by omega)
    |exact(KI h d u).mono (by omega)
    |exact(WN h d u).mono (by omega)
    |exact(O6 h d u).mono (by omega)
    |exact(tI h.iv h.bU).mono (by omega)
    |exact(U5 h u.fr).mono (by omega)
    |exact(U3 h u.fr).mono (by omega)
    |exact(aaD lk (n+1) a b nm gG (by have:=R8 x;grind) h u.fr d).mono (by omega)
    |skip
 |stop nm=>
  cases hl:oZ lz nm with
  |none=>
   have D:iS jU ⟨a,b,.stop nm,gG⟩=.iq 115:=by
    show jv [((oZ lz nm).getD .nil),_,_]=_;rw[hl];rfl
   rw[iN lk (n+2) 6 _ z.nl jU rfl _ D];have hh:gO [fN] nm=false:=MN hl ([fN],.iq 201) (by unfold lz;simp);exact(UI h (by
    show nm≠_;grind[anD,zG])).mono (by omega)
  |some r=>
   obtain⟨p,C,x,e⟩:=xP hl;have D:r≠ .nil->iS jU ⟨a,b,.stop nm,gG⟩=r:=by
    intro I;show jv [((oZ lz nm).getD .nil),_,_]=_;rw[hl];cases r<;>first|rfl|grind
   have go:∀y,r=y->y≠ .nil->RB 360 σ (mH lk (gX true (n+2)) (gX lk (n+2)) y ⟨a,b,.stop nm,gG⟩ σ)->RB 360 σ (gX lk (n+3) 6 ⟨a,b,.stop nm,gG⟩ σ):=by
    intro y e1 e2 F;rw[iN lk (n+2) 6 _ z.nl jU rfl y (by grind)];exact F
   unfold lz at C;simp only[Db,tw,tz]at C;rcases C with rfl|rfl|rfl|rfl|rfl|rfl|rfl|rfl|rfl|rfl
   all_goals refine go _ e.symm (by grind) ?_
   all_goals dsimp only at x
   exact(RU h).mono (by omega)
   .exact(Im (t:=⟨a,b,.stop nm,gG⟩) h d x).mono (by omega)
   exact(Yr h).mono (by omega);exact(UE h d).mono (by omega);exact(aip h d).mono (by omega);exact(Yt h).mono (by omega);exact(Ou h).mono (by omega);exact(UD h (by
    show nm≠_;rintro rfl;revert x;simp[gO,ld,sd])).mono (by omega)
   .have K:=Ms x;subst K;show RB 360 σ (xu (gX lk (n+2)) ⟨a,b,.stop _,gG⟩ σ);unfold xu;split;refine AM ?_;rw[iN lk (n+1) 16 _ z.nl xG rfl (.iq 146) (by kernel_rfl)];exact⟨(h.mode 16 rfl).iv.lf rfl rfl rfl rfl rfl rfl rfl,⟨h.ne,.inl rfl⟩,⟨rfl,rfl,rfl,rfl,A5 _,λ_ h=> .inl h,λ_ _ h=>h⟩,jZ (ZX (jx rfl)) (amI _ _)⟩;exact(tI h.iv h.bU).mono (by omega)
   exact(Yo h).mono (by omega)
theorem aiR{l:List Ru}{R:List (List O×Ru)}{nm:O}{lk:Bool}(d:t.k≠ .lost)(hs:yV[m]?=some sp)(e:iS sp t=jv ((oZ R nm).getD .nil::l))(u:∀p∈R,p.2≠ .nil)(h:RB c σ (mH lk (gX true n) (gX lk n) (jv l) t σ))(q:∀p∈R,gO p.1 nm=true->RB c σ (mH lk (gX true n) (gX lk n) p.2 t σ)):RB c σ (gX lk (n+1) m t σ):=by
 cases hl:oZ R nm with
 |none=>
  rw[iN lk n m t d sp hs (jv l) (by rw[e,hl];rfl)];exact h
 |some r=>
  obtain⟨p,y,x,rfl⟩:=xP hl;rw[iN lk n m t d sp hs p.2 (by
   rw[e,hl];cases hq:p.2<;>first|rfl|grind)]
  grind
def agt{lk:Bool}(hl:t.k≠ .lost)(hs:yV[m]?=some sp)(d:RB c σ (mH lk (gX true n) (gX lk n) (iS sp t) t σ)):RB c σ (gX lk (n+1) m t σ):=by
 rw[iN lk n m t hl sp hs _ rfl];exact d
def PT{rec:Nat->gF->M Unit}(h:td σ)(C:∀σ',td σ'->wt σ'=wt σ->σ'.fresh=σ.fresh->RB c σ' (rec 6 t σ')):RB c σ (qC rec t σ):=by
 have z:=RB.then (C {σ with im:=true} ⟨h.iv.lf rfl rfl rfl rfl rfl rfl rfl,h.ne,h.md⟩ rfl rfl) (λσ=>{σ with im:=false}) (λ_=>⟨rfl,rfl,rfl,rfl,rfl,rfl,rfl,rfl,rfl,rfl,rfl,rfl⟩);show RB c σ ((rec 6 t>>=λ_=>uL _>>=λ_=>(Pure.pure ())) _);revert z;cases(rec 6 t>>=λ_=>uL _>>=λ_=>(Pure.pure ())) _ with
 |ok u σ2=>rintro⟨q,x,d,y⟩;exact⟨q,x,⟨d.gQ,d.qZ,d.sB,d.qu,d.wt,d.wz,d.nm⟩,y⟩
 |stop c p=>exact λh=>h
 |stuck=>exact λh=>h
def afA{d:M Unit}(h:td σ)(q:RB c σ (d σ)):RB c σ (Kv d t σ):=by
 unfold Kv;split;exact q;exact(tI h.iv h.bU).mono (xj _)
theorem Aw{rec:Nat->gF->M Unit}(h:td σ)(K:wt σ<999000)(ks:List O)(d:O)(m:Nat)(y:rC m=true)(z:∀σ',td σ'->σ'.mode=m->wt σ'<=wt σ+1->σ'.fresh=σ.fresh->RB c σ' (rec m t σ')):RB (c+1) σ (p9 rec ks d m t σ):=by
 refine RB.bind (yN h.iv _) (c2:=c+1) ?_ (by omega);rintro _ F C u w1 q1;refine RB.bind (tF C (u.ne h.ne) (by omega) d) (c2:=c) ?_ (by omega);rintro _ I D x w2⟨j,q,r2⟩;refine AM (z _ ⟨D.lf rfl rfl rfl rfl rfl rfl rfl,x.ne (u.ne h.ne),y⟩ rfl ?_ ?_);grind[wt];grind[ww.fresh]
def Gp{a:Nat}{gG:lu}(h:σ.waiting.length<4096):oq ⟨a,b,.kE s,gG⟩ σ=.ok () (if uY s then σ else {σ with waiting:=σ.waiting++[(a,b,s)]}):=by
 unfold oq;simp only;cases uY s with
 |true=>rfl
 |false=>simp[h]
theorem LO{a:Nat}{gG:lu}(h:td σ)(hs:s.size<=100)(C:wt σ<999000)(u:σ.waiting.length<4000)(d:σ.mode=7\/σ.mode=11\/σ.mode=12):RB 360 σ (nM (gX false (n+4)) ⟨a,b,.kE s,gG⟩ σ):=by
 unfold nM;split
 .refine RB.mono (c:=0) ?_ (by omega);have e:gX false (n+4) 8 ⟨a,b,.kE s,gG⟩=oq ⟨a,b,.kE s,gG⟩:=iN false (n+3) 8 _ (by grind) lj rfl (.iq 127) (by
   unfold iS;dsimp only;split<;>rfl)
  show RB 0 σ ((gX false (n+4) 8 ⟨a,b,.kE s,gG⟩>>=λ_=>(Pure.pure ():M Unit)) _);rw[e];have y:nU {σ with kept:=σ.mode,mode:=8}:=h.iv.lf rfl rfl rfl rfl rfl rfl rfl;rw[M.gw,Gp (by grind)];cases uY s with
  |true=>exact⟨y,⟨h.ne,.inr (.inr ⟨rfl,d⟩)⟩,⟨rfl,rfl,rfl,rfl,A5 _,λ_ h=> .inl h,λ_ _ h=>h⟩,ZX (jx rfl)⟩
  |false=>exact⟨h.iv.lf rfl rfl rfl rfl rfl rfl rfl,⟨h.ne,.inr (.inr ⟨rfl,d⟩)⟩,⟨rfl,rfl,rfl,rfl,by simp,λx D=>by
    grind,λ_ _ h=>h⟩,ZX (jx rfl)⟩
 refine RB.tail (PT h ?_);intro σ' q w' z;exact FG false (n+1) ⟨a,b,.kE s,gG⟩ ⟨hs,rfl,by grind⟩ q (λh=>by cases h) (by omega)
structure CX(L:Nat)(t:gF)(σ:N):Prop where
 tg:wP t
 h:td σ
 hf:Lr σ t
 hw:wt σ<998000
 E7:σ.waiting.length<4000
 hl:σ.gq.length<=L
def PL(L n:Nat):Prop:=∀t σ,CX L t σ->RB 370 σ (gX false n σ.mode t σ)
theorem PL.ahead{L:Nat}(u:PL L n)(c:CX (L+1) t σ){b:M Bool}(x:x8 b):RB 370 σ (ya (gX false n) b t σ):=
 have⟨tg,h,hf,hw,E7,hl⟩:=c
 aev x h (λσ' q z w' d C _=>u t σ' ⟨tg,q,(λy=>d.trans (hf y)),by omega,by grind,by omega⟩)
def aan(n a b:Nat)(nm:O)(gG:lu)(u:nm=ig\/nm=ij)(h:td σ)(d:po σ ⟨a,b,.start nm,gG⟩)(q:wt σ<999000):RB 1 σ (gX false (n+1) 12 ⟨a,b,.start nm,gG⟩ σ):=by
 rcases u with rfl|rfl;rw[iN _ n 12 _ (by simp) _ rfl (.iq 134) (by kernel_rfl)];exact AV h q d;rw[iN _ n 12 _ (by simp) _ rfl (.iq 134) (by kernel_rfl)];exact AV h q d
def ams(n a b:Nat)(nm:O)(gG:lu)(q:nm∈[ig,ij,gN])(h:td σ)(u:po σ ⟨a,b,.start nm,gG⟩)(C:wt σ<998900):RB 2 σ (gX false (n+2) 11 ⟨a,b,.start nm,gG⟩ σ):=by
 simp at q;have d:nm=(ig)\/nm=(ij)->RB 2 σ (p9 _ [(fW),(fV),(fX)] (gN) 12 _ σ):=λz=>
  Aw h (by omega) _ _ 12 rfl (λσ' y D w' x=>aan n a b nm gG z y ⟨rfl,x.trans u.fr⟩ (by omega))
 rcases q with rfl|rfl|rfl;rw[iN _ _ 11 _ (by simp) _ rfl (.oX _ _ 12) (by kernel_rfl)];exact d (.inl rfl);rw[iN _ _ 11 _ (by simp) _ rfl (.oX _ _ 12) (by kernel_rfl)];exact d (.inr rfl);rw[iN _ _ 11 _ (by simp) _ rfl (.sZ [(fW),(fV),(fX)] 12) (by kernel_rfl)];exact(QK h (by omega) u _ 12 rfl).mono (by omega)
def aiB(h:nU σ)(d:σ.gq≠[]):∃pl,rI σ=.ok pl σ/\Dy σ pl:=by
 have⟨r,hr⟩:=h;have⟨q,e,rest,h1,h2,h3,h4⟩:=hr.first d;exact⟨_,by unfold rI;rw[h2];dsimp only;unfold jg;rw[h3],e,h3,ic _⟩
def agY{L:Nat}(hP:PL L (k+5))(c:CX (L+1) t σ)(hm:m∈[7,9,10,11,12,13,14,15,16,17])(a1:m=7->σ.mode=7\/σ.mode=11\/σ.mode=12)(h7:m=11\/m=12->RB 370 σ (gX false (k+5) 7 t σ))(a0:m=15->RB 370 σ (gX false (k+5) 14 t σ)):RB 370 σ (gX false (k+6) m t σ):=by
 have Ah:=λ{b}=>hP.ahead c (b:=b);obtain⟨z,h,y,hw,a2,hl⟩:=c;have d:wt σ<999000:=by omega
 have q:∀{c r},RB c σ r->c<=370->RB 370 σ r:=RB.mono;have B:RB 370 σ (gX false (k+5) 6 t σ):=q (FG false (k+2) _ z h y d) (by omega);have B2:RB 370 σ (_:qQ Unit):=q (AM (rec:=gX false (k+5)) (FG false (k+2) _ z (h.mode 6 rfl) (λK=>y K) d)) (by omega);have a3:=q (tI h.iv h.bU) (by omega);have F:RB 370 σ (qC (gX false (k+5)) t σ):=q (PT h (λσ' D w' C=>FG false (k+2) _ z D (λK=>C.trans (y K)) (by omega))) (by omega);have En:=λ{b} (hb:x8 b)=>q (air hb h) (by omega);have Co:=λ{pm} hq=>q ((Jy h.iv pm hq t d).rb h.ne h.md) (by omega);have C1:∀{a b s gG},s.size<=100->m=7->RB 370 σ (nM (gX false (k+5)) ⟨a,b,.kE s,gG⟩ σ):=λK e=>q (LO (n:=k+1) h K d a2 (a1 e)) (by omega);have H3:∀{a b nm gG},nm=iE->σ.fresh=true->RB 370 σ (gX false (k+5) 3 ⟨a,b,.start nm,gG⟩ σ):=λe y=>q (aaD false (k+4) _ _ _ _ (.inr (.inr e)) h y d) (by omega);have I1:∀{a b nm gG ks u},nm∈[ig,ij,gN]->σ.fresh=true->RB 370 σ (p9 (gX false (k+5)) ks u 11 ⟨a,b,.start nm,gG⟩ σ):=λe y=>q (Aw (c:=2) h d _ _ 11 rfl (λσ' D m' w' C=>ams (k+3) _ _ _ _ e D ⟨rfl,C.trans y⟩ (by omega))) (by omega);have I2:∀{a b nm gG ks u},nm=ig\/nm=ij->σ.fresh=true->RB 370 σ (p9 (gX false (k+5)) ks u 12 ⟨a,b,.start nm,gG⟩ σ):=λe y=>q (Aw (c:=1) h d _ _ 12 rfl (λσ' D m' w' C=>aan (k+4) _ _ _ _ e D ⟨rfl,C.trans y⟩ (by omega))) (by omega);have I3:∀{a b nm gG ks u},nm=gS->σ.fresh=true->RB 370 σ (p9 (gX false (k+5)) ks u 10 ⟨a,b,.start nm,gG⟩ σ):=λe y=>q (Aw (c:=1) h d _ _ 10 rfl (λσ' D m' w' C=>by
  rw[e,iN false (k+4) 10 _ (by simp) qi rfl (.iq 101) (by kernel_rfl)];exact wm D (by omega) ⟨rfl,C.trans y⟩)) (by omega)
 obtain⟨a,b,kk,gG⟩:=t;simp only[Db,tw,tz]at hm;rcases hm with rfl|rfl|rfl|rfl|rfl|rfl|rfl|rfl|rfl|rfl
 all_goals cases kk
 all_goals first
  |exact absurd rfl z.nl
  |refine aiR z.nl rfl rfl (by simp) ?_ ?_
  |refine agt z.nl rfl ?_
 all_goals generalize gX false (k+5)=rec at *
 all_goals try (unfold iS;dsimp only)
 all_goals try split
 all_goals try (simp only[List.forall_mem_cons,tw,false_implies,implies_true,and_true];and_intros)
 all_goals try intro I
 all_goals try have x:=y.tag rfl
 all_goals try exact a3
 all_goals try exact B
 all_goals try refine Ah ?_
 all_goals try refine En ?_
 all_goals try refine afA h (Ah ?_)
 all_goals try refine afA h (En ?_)
 all_goals try exact h7 (by simp)
 all_goals try exact a0 rfl
 all_goals try exact F
 all_goals try exact C1 z.sz rfl
 all_goals try exact Co (Cp h.iv h.ne)
 all_goals try exact Co (RM h.iv)
 all_goals try exact Co (aiB h.iv h.ne)
 all_goals try exact q (DM h d z.sz) (by omega)
 all_goals try exact q (Kn h d z.sz) (by omega)
 all_goals try first
  |exact Yx
  |exact RP
  |exact Ij
  |exact Ma
  |exact afb
  |exact aco
  |exact UJ
 all_goals try exact I1 (R8 I) x.fr
 all_goals try exact I2 (ann I) x.fr
 all_goals try exact I3 (Ms I) x.fr
 all_goals try exact q (QK h d x _ _ rfl) (by omega)
 all_goals try exact H3 (Ms I) x.fr
 show RB 370 σ ((if wH _ then jN rec _ else stuck:M Unit) σ);rw[sL z.sm];unfold jN;split;exact q (RB.tail (wm h d x)) (by omega);exact RB.tail F;exact q (DC h d x (Ms I)) (by omega);exact q (KF h d x) (by omega);exact q (wm h d x) (by omega);exact q (AV h d x) (by omega);exact q (Ff h d x) (by omega);exact q (zn h d x) (by omega);exact q (AW h d x) (by omega);exact q (BW h) (by omega);exact q (Av h) (by omega)
 iterate 3 exact B2
 exact q (c:=0) ⟨h.iv.lf rfl rfl rfl rfl rfl rfl rfl,⟨h.ne,.inl rfl⟩,⟨rfl,rfl,rfl,rfl,A5 _,λ_ h=> .inl h,λ_ _ h=>h⟩,ZX (jx rfl)⟩ (by omega)
 all_goals exact B2
def Jt(h:rC m=true):m=6\/m∈[7,9,10,11,12,13,14,15,16,17]:=by
 unfold rC at h;simp at h|-;omega
theorem Lt:∀(L n:Nat),4*L+8<=n->PL L n
 |0,n,_=>by
  intro t σ c;exact absurd (List.length_eq_zero_iff.1 (by have:=c.hl;omega)) c.h.ne
 |L+1,n,hn=>by
  intro t σ c;obtain⟨k,rfl⟩:∃k,n=k+7:=⟨n-7,by omega⟩;have d:PL L (k+5):=Lt L _ (by omega);have S:=λm u q=>agY (m:=m) d c u q;rcases Jt c.h.md with e|e;grind[RB.mono,FG,CX.tg,CX.h,CX.hf,CX.hw];refine agY (Lt L (k+1+5) (by omega)) c e (λh=> .inl h) (λh=>S 7 (by simp) (λ_=> .inr h) (λh=>by grind) (λh=>by cases h)) (λ_=>S 14 (by simp) (λh=>by cases h) (λh=>by grind) (λh=>by cases h))
def HS(m:Nat)(o:kY)(q:jj):Prop:=
 (m<=1/\o=[]/\q=none)\/(m=2/\∃h,o=[some h])\/(m=3/\∃h d,o=[some h,some d]/\q=some d)\/(m=4/\∃h d,o=[some h]/\q=some d)\/(rC m=true/\o≠[])
def B3(σ:N):Prop:=(∃d,iV σ d fY)/\∃b,iV σ b fR
def BH(σ:N):Prop:=6<=σ.mode\/σ.mode=5/\6<=σ.kept->B3 σ
def B3.of(h:B3 σ)(nm:∀i s,iV σ i s->iV σ' i s):B3 σ':=⟨h.1.imp λ_=>nm _ _,h.2.imp λ_=>nm _ _⟩
def BH.of(h:BH σ)(u:σ'.mode=σ.mode)(d:σ'.kept=σ.kept)(nm:∀i s,iV σ i s->iV σ' i s):BH σ':=λq=>(h (by omega)).of nm
theorem BH.low(h:σ.mode<=4):BH σ:=λq=>by omega
def eK(σ:N):Prop:=HS σ.mode σ.gq σ.head\/(σ.mode=5/\3<=σ.kept/\2<=σ.gq.length/\HS σ.kept σ.gq.dropLast σ.head)\/(σ.mode=8/\(σ.kept=7\/σ.kept=11\/σ.kept=12)/\σ.gq≠[])
def MS(σ:N):Prop:=eK σ/\BH σ
def RG(c:Nat)(σ:N)(r:qQ Unit):Prop:=match r with
 | .ok _ σ'=>nU σ'/\MS σ'/\Lm σ σ'/\wt σ'<=wt σ+c
 | .stop _ p=>p=σ.gQ
 | .stuck=>False
theorem RG.mono{c':Nat}{r:qQ Unit}(h:RG c σ r)(d:c<=c'):RG c' σ r:=by
 cases r with
 |ok a σ'=>grind[RG]
 |stop e p=>exact h
 |stuck=>exact h
def FF(h:rC m=true):6<=m:=by have:=Jt h;simp at this;omega
theorem dx.ms(h:dx σ)(x:B3 σ):MS σ:=by
 refine⟨?_,λ_=>x⟩;rcases h.sh with d|⟨d,q,u⟩|⟨d,q⟩;exact .inl (.inr (.inr (.inr (.inr ⟨d,h.ne⟩))));refine .inr (.inl ⟨d,?_,u,.inr (.inr (.inr (.inr ⟨q,?_⟩)))⟩);have:=FF q;omega;intro e;have:=DZ List.length e;grind;exact .inr (.inr ⟨d,q,h.ne⟩)
def RB.rg{r:qQ Unit}(h:RB c σ r)(d:B3 σ):RG c σ r:=by
 cases r with
 |ok a σ'=>exact⟨h.1,h.2.1.ms (d.of h.2.2.1.nm),h.2.2.1,h.2.2.2⟩
 |stop e p=>exact h
 |stuck=>exact h
def jH.rg{r:qQ Unit}{Q:Unit->N->Prop}(h:jH c σ r Q)(d:MS σ)(q:∀σ',Q () σ'->σ'.gq=σ.gq):RG c σ r:=by
 cases r with
 |ok a σ'=>
  have⟨h1,h2,h3,h4⟩:=h;refine⟨h1,⟨?_,d.2.of h2.mode h2.kept h2.nm⟩,h2.lm,h3⟩;unfold eK;rw[h2.mode,h2.kept,h2.head,q σ' h4];exact d.1
 |stop e p=>exact h
 |stuck=>exact h
theorem sE(h:nU σ)(d:MS σ):RG 0 σ ((Pure.pure ():M Unit) σ):=⟨h,d,fA σ,ic _⟩
theorem RG.tail{m:M Unit}(h:RG c σ (m σ)):RG c σ ((m>>=λ_=>(Pure.pure ():M Unit)) σ):=by
 rw[M.gw];revert h;cases m σ<;>exact λh=>h
def RG.from{c1 c2:Nat}{σ1:N}{r:qQ Unit}(h:RG c1 σ1 r)(hl:Lm σ σ1)(z:σ1.waiting.length<=σ.waiting.length)(u:∀x∈σ1.waiting,x∈σ.waiting)(y:wt σ1<=wt σ+c2)(hs:c1+c2<=c):RG c σ r:=by
 cases r with
 |ok a σ'=>
  have⟨h1,h2,h3,h4⟩:=h;exact⟨h1,h2,⟨h3.gQ.trans hl.gQ,h3.qZ.trans hl.qZ,h3.sB.trans hl.sB,h3.qu.trans hl.qu,by have:=h3.wt;omega,λx d=>(h3.wz x d).imp (u x) id,λi s q=>h3.nm i s (hl.nm i s q)⟩,by omega⟩
 |stop e p=>exact Tu h hl.gQ
 |stuck=>exact h
theorem OA(h:nU σ)(q:σ.gq≠[])(t:gF)(y:σ.fresh=true)(x:MS σ):RG 0 σ (nN t σ):=by
 have C:∀(gG:lu)(i:Nat)(σ:N),∀σ',p6 i gG σ=.ok () σ'->σ'.gq=σ.gq:=by
  intro gG i
  induction gG with
  |nil=>intro σ σ' e;cases e;rfl
  |cons a r ih=>
   intro σ σ' e;rw[PY]at e;split at e;cases e;split at e;grind;split at e;cases e;have:=ih _ σ' e;exact this
 have d:=F8 h q t y;cases hq:nN t σ with
 |ok u σ'=>
  rw[hq]at d;have⟨g1,g2,g3,_⟩:=d;refine⟨g1,⟨?_,x.2.of g2.mode g2.kept g2.nm⟩,g2.lm,g3⟩;have z:σ'.gq=σ.gq:=by
   unfold nN at hq;split at hq
   .rename_i i hi;rw[M.gw]at hq;cases hg:uW i t σ with
    |ok u2 σ2=>
     rw[hg]at hq;cases hq<;>grind[uW]
    |stop c p=>grind
    |stuck=>grind
   cases hq
  unfold eK;rw[g2.mode,g2.kept,g2.head,z];exact x.1
 |stop c p=>rwa [hq]at d
 |stuck=>rw[hq]at d;exact d.elim
theorem Sa(n a b:Nat)(gG:lu)(h:nU σ)(d:σ.gq≠[])(q:σ.fresh=true)(u:MS σ):RG 0 σ (gX false (n+1) 6 ⟨a,b,.start fN,gG⟩ σ):=by
 rw[iN _ n 6 _ (by grind) _ rfl (.iq 182) (by kernel_rfl)];exact OA h d _ q u
def ahe(hi:nU σ)(d:σ.gq≠[])(u:σ.mode=6)(F:wP t)(z:Lr σ t)(D:wt σ<998000)(q:σ.waiting.length<4000)(C:4*64+8<=n)(y:370<=c)(x:B3 σ):RG c σ (gX false n 6 t σ):=by
 have h:=Lt 64 n C t σ ⟨F,⟨hi,d,by rw[u];rfl⟩,z,D,q,(by have⟨r,hr⟩:=hi;exact jZ hr.yK hr.TM)⟩;rw[u]at h;exact(h.rg x).mono y
theorem Mz(h:nU σ)(x:σ.gq≠[])(K:wt σ<998000)(s:O)(m:Nat){rec:Nat->gF->M Unit}(D:∀σ',nU σ'->Fx σ {σ' with mode:=σ.mode}->σ'.mode=m->wt σ'<=wt σ+1->σ'.fresh=σ.fresh->(∃j,iV σ' j s)->RG c σ' (rec m t σ')):RG (c+1) σ ((j8 s>>=λ_=>jq m>>=λ_=>jF rec t>>=λ_=>(Pure.pure ():M Unit)) σ):=by
 have z:=tF h x (by omega) s;rw[M.gw];revert z;cases j8 s σ with
 |ok u σ1=>
  rintro⟨F,d,y,j,q,I⟩;have C:=RG.tail (D {σ1 with mode:=m} (F.lf rfl rfl rfl rfl rfl rfl rfl) (by
   have e:({({σ1 with mode:=m})with mode:=σ.mode})=σ1:=by rw[<-d.mode]
   grind) rfl y I ⟨j,q.nm⟩)
  exact RG.from C ⟨d.gQ,d.qZ,d.sB,d.qu,by grind[Fx.waiting],by grind[Fx.waiting],d.nm⟩ (by grind[Fx.waiting]) (by grind[Fx.waiting]) y (ic _)
 |stop c p=>exact λh=>h
 |stuck=>simp[jH]
theorem yg(h:nU σ)(x:M (Nat×Nat))(u:∃pl,x σ=.ok pl σ/\Dy σ pl)(t:gF)(y:wt σ<999000)(d:MS σ):RG 1 σ (nj x t σ):=by
 have⟨a,b,k,gG⟩:=t;cases k with
 |gV s=>
  have⟨pl,h1,h2⟩:=u;show RG 1 σ ((x>>=λpl=>oR pl _ .cm>>=λ_=>(Pure.pure ())) σ);rw[M.gw,h1];exact RG.tail ((IU h h2 _ .cm (.inl ⟨s,rfl,rfl⟩) (by omega)).rg d (λ_ q=>q.gq))
 |kE s=>exact(sE h d).mono (by omega)
 |start s=>exact(sE h d).mono (by omega)
 |stop s=>exact(sE h d).mono (by omega)
 |iH s q=>exact(sE h d).mono (by omega)
 |lost=>exact(sE h d).mono (by omega)
 |iw=>exact(sE h d).mono (by omega)
theorem Li{R:List (List O×Ru)}(d:sp.start=some R)(y:∀p∈R,p.2≠ .nil)(u:jv [sp.jS,sp.iy]=o){lk:Bool}{a:Nat}{nm:O}{gG:lu}(hs:yV[m]?=some sp)(x:∀p∈R,gO p.1 nm=true->P (mH lk (gX true n) (gX lk n) p.2 ⟨a,b,.start nm,gG⟩ σ))(q:P (mH lk (gX true n) (gX lk n) o ⟨a,b,.start nm,gG⟩ σ)):P (gX lk (n+1) m ⟨a,b,.start nm,gG⟩ σ):=by
 have h:iS sp ⟨a,b,.start nm,gG⟩=jv [((oZ R nm).getD .nil),sp.jS,sp.iy]:=by
  show jv _=_;rw[d];rfl
 cases hl:oZ R nm with
 |none=>
  rw[iN lk n m _ (by simp) sp hs o (by rw[h,hl,<-u];rfl)];exact q
 |some r=>
  obtain⟨p,C,z,rfl⟩:=xP hl;rw[iN lk n m _ (by simp) sp hs p.2 (by
   grind[jv])]
  grind
theorem Td{R:List (List O×Ru)}(d:sp.stop=some R)(y:∀p∈R,p.2≠ .nil)(u:jv [sp.kR,sp.iy]=o){lk:Bool}{a:Nat}{nm:O}{gG:lu}(hs:yV[m]?=some sp)(x:∀p∈R,gO p.1 nm=true->P (mH lk (gX true n) (gX lk n) p.2 ⟨a,b,.stop nm,gG⟩ σ))(q:P (mH lk (gX true n) (gX lk n) o ⟨a,b,.stop nm,gG⟩ σ)):P (gX lk (n+1) m ⟨a,b,.stop nm,gG⟩ σ):=by
 have h:iS sp ⟨a,b,.stop nm,gG⟩=jv [((oZ R nm).getD .nil),sp.kR,sp.iy]:=by
  show jv _=_;rw[d];rfl
 cases hl:oZ R nm with
 |none=>
  rw[iN lk n m _ (by simp) sp hs o (by rw[h,hl,<-u];rfl)];exact q
 |some r=>
  obtain⟨p,C,z,rfl⟩:=xP hl;rw[iN lk n m _ (by simp) sp hs p.2 (by
   grind[jv])]
  grind
theorem Ed{d:Ru}(u:jv [sp.blank,sp.kE,sp.iy]=d)(x:jv [sp.kE,sp.iy]=o){lk:Bool}{a:Nat}{gG:lu}(hs:yV[m]?=some sp)(h:P (mH lk (gX true n) (gX lk n) d ⟨a,b,.kE s,gG⟩ σ))(q:P (mH lk (gX true n) (gX lk n) o ⟨a,b,.kE s,gG⟩ σ)):P (gX lk (n+1) m ⟨a,b,.kE s,gG⟩ σ):=by
 cases hk:mJ s with
 |true=>
  rw[iN lk n m _ (by simp) sp hs d (by
   grind[iS])]
  exact h
 |false=>
  rw[iN lk n m _ (by simp) sp hs o (by
   grind[iS])]
  exact q
def jM{r:Ru}{lk:Bool}(hl:t.k≠ .lost)(hs:yV[m]?=some sp)(h:iS sp t=r)(d:P (mH lk (gX true n) (gX lk n) r t σ)):P (gX lk (n+1) m t σ):=by
 rw[iN lk n m t hl sp hs r h];exact d
structure xr(σ:N):Prop where
 iv:nU σ
 md:σ.mode=4
 sh:∃h d,σ.gq=[some h]/\σ.head=some d
theorem xr.ms(h:xr σ):MS σ:=by
 have⟨x,d,h1,h2⟩:=h.sh;exact⟨.inl (.inr (.inr (.inr (.inl ⟨h.md,x,d,h1,h2⟩)))),BH.low (by grind[md])⟩
theorem xr.ne(h:xr σ):σ.gq≠[]:=by grind[sh]
def Mv(h:xr σ)(tg:wP t)(z:Lr σ t)(hw:wt σ<997000)(u:σ.waiting.length<4000)(D:4*64+8<=n):RG 371 σ (nf (gX false n) t σ):=by
 refine Mz h.iv h.ne (by omega) _ 6 ?_;intro σ' I q K w' r' C;have y:B3 σ':=by
  have⟨x,d,_,hd⟩:=h.sh;have⟨r,hr⟩:=h.iv;exact⟨⟨d,q.nm _ _ (hr.head d hd)⟩,C⟩
 exact ahe I (q.ne h.ne) K tg (λF=>r'.trans (z F)) (by omega) (by have:=q.waiting;rw[this];exact u) D (ic _) y
theorem J4(hi:nU σ)(h:σ.gq≠[])(x:po σ t)(b:Bool)(D:wt σ<998000):match ou t b σ with
 | .ok _ σ'=>nU σ'/\Lm σ σ'/\wt σ'<=wt σ+1/\σ'.mode=5/\σ'.kept=σ.mode/\(∃j,σ'.gq=σ.gq++[some j]/\σ.nodes.length<=j)/\σ'.head=σ.head/\(∀i s,iV σ i s->iV σ' i s)
 | .stop _ p=>p=σ.gQ
 | .stuck=>False:=by
 have y:=kC hi h (by omega) t x.tag x.fr;have e:ou t b σ=(iL t>>=λ_=>FC _ b>>=λ_=>uL _>>=λ_=>jq 5>>=λ_=>(Pure.pure ())) σ:=rfl;rw[e,M.gw];revert y;cases iL t σ with
 |ok u σ1=>
  rintro⟨z,d,C,j,q⟩;exact⟨z.lf rfl rfl rfl rfl rfl rfl rfl,⟨d.gQ,d.qZ,d.sB,d.qu,by grind[Fx.waiting],by grind[Fx.waiting],d.nm⟩,C,rfl,d.mode,⟨j,q.gq,q.new⟩,d.head,d.nm⟩
 |stop c p=>simp[jH]
 |stuck=>simp[jH]
theorem Oa{a:Nat}{nm:O}{gG:lu}(h:xr σ)(a5:nm=iB\/nm=je\/nm=iE)(hf:σ.fresh=true)(hw:wt σ<997000):RG 2 σ (tU (gX false (n+1)) ⟨a,b,.start nm,gG⟩ σ):=by
 have⟨x,d,ho,hd⟩:=h.sh;have⟨r,hr⟩:=h.iv;have a2:=hr.head d hd;have⟨ed,hed,hedn⟩:=id a2;have a7:r x<r d:=hr.uK.hd d x hd (by grind);unfold tU;rw[M.gw];have e1:pushHead σ=oH (some d) σ:=by unfold pushHead;rw[hd]
 rw[e1];unfold oH;by_cases hl:σ.qZ<=σ.gq.length;grind[RG]
 .rw[Xx hl,sL (show σ.nk (some d)=true by grind[N.nk])];dsimp only;have⟨g1,g2⟩:=hr.push hed (by
   grind[rk]) (by omega) (.inl h.ne)
  obtain⟨z,C⟩:∃z,z=({σ with gq:=σ.gq++[some d]}:N):=⟨_,rfl⟩;rw[<-C]at g1 g2|-;have i1:nU z:=⟨r,g1⟩;have o1:z.gq=[some x,some d]:=by rw[C];show σ.gq++[some d]=_;rw[ho];rfl
  have a3:z.gq≠[]:=by rw[o1];simp
  have w1:wt z=wt σ:=by rw[C];rfl
  have a1:z.fresh=true:=by rw[C];exact hf
  have a6:z.mode=4:=g2.mode.trans h.md;have K:z.head=some d:=g2.head.trans hd;have xd:x≠d:=by rintro rfl;omega
  have ht:po z ⟨a,b,.start nm,gG⟩:=⟨rfl,a1⟩;have a0:∀y,nU y->Lm z y->wt y<=wt z+1->y.head=some d->iV y d fY->MS {y with gq:=y.gq.erase (some d)}->RG 2 σ ((nC>>=λ_=>(Pure.pure ():M Unit)) y):=by
   intro y i2 l2 w2 h2 n2 m2;have e2:nC y=jR (some d) y:=by unfold nC;rw[h2]
   have D:=EE i2 n2 (by simp);rw[M.gw,e2];have e3:jR (some d) y=.ok () {y with gq:=y.gq.erase (some d)}:=MU (nA n2);rw[e3]at D|-;have⟨k3,k4,k5,k6⟩:=D;refine⟨k3,m2,⟨l2.gQ.trans g2.gQ,l2.qZ.trans g2.qZ,l2.sB.trans g2.sB,l2.qu.trans g2.qu,?_,by have:=l2.wz;grind,λi s q=>l2.nm i s (g2.nm i s q)⟩,?_⟩;show y.waiting.length<=_;have:=l2.wt;grind;omega
  have F:iV z d fY:=g2.nm _ _ a2;have a4:([some x,some d]:kY).erase (some d)=[some x]:=by
   rw[rY (by grind),xb]
  have I:∀bb,RG 2 σ (((ou ⟨a,b,.start nm,gG⟩ bb>>=λ_=>(Pure.pure ():M Unit))>>=λ_=>nC>>=λ_=>(Pure.pure ():M Unit)) z):=by
   intro bb;have k:=J4 i1 a3 ht bb (by omega);rw[M.gw,M.gw];revert k;cases ou ⟨a,b,.start nm,gG⟩ bb z with
   |ok u y=>
    rintro⟨k1,D,k3,k4,k5,⟨j,k6,k7⟩,k8,k9⟩;refine a0 y k1 D k3 (k8.trans K) (k9 _ _ F) ?_;have hj:j≠d:=by
     have:=N.io hed;have e4:z.nodes.length=σ.nodes.length:=by rw[C]
     omega
    have he:y.gq.erase (some d)=[some x,some j]:=by
     rw[k6,o1];show([some x,some d,some j]:kY).erase (some d)=_;rw[rY (by grind),xb]
    refine⟨.inr (.inl ⟨k4,?_,?_,?_⟩),λq=>?_⟩;grind;grind
    all_goals grind[HS]
   |stop c p=>exact λh=>Tu h g2.gQ
   |stuck=>simp
  rcases a5 with rfl|rfl|rfl
  .rw[iN false n 3 _ (by grind) jV rfl (.iq 101) (by kernel_rfl)];have k:=rK i1 a3 (by omega) ⟨a,b,.start iB,gG⟩ rfl a1;show RG 2 σ ((kN ⟨a,b,.start iB,gG⟩>>=λ_=>nC>>=λ_=>(Pure.pure ():M Unit)) z);rw[M.gw];revert k;cases kN ⟨a,b,.start iB,gG⟩ z with
   |ok u y=>
    rintro⟨k1,D,k3,k4,k5⟩;refine a0 y k1 D.lm k3 (D.head.trans K) (D.nm _ _ F) ?_;refine⟨.inl (.inr (.inr (.inr (.inl ⟨D.mode.trans a6,x,d,?_,D.head.trans K⟩)))),BH.low (by grind[Fx.mode])⟩;grind
   |stop c p=>exact λh=>Tu h g2.gQ
   |stuck=>simp[jH]
  rw[iN false n 3 _ (by grind) jV rfl (.iq 102) (by kernel_rfl)];exact I false;rw[iN false n 3 _ (by grind) jV rfl (.iq 103) (by kernel_rfl)];exact I true
theorem abc(hn:4*64+8<=n)(t:gF)(y:wP t)(h:xr σ)(C:Lr σ t)(hw:wt σ<997000)(a0:σ.waiting.length<4000):RG 372 σ (gX false (n+1) 4 t σ):=by
 obtain⟨k,rfl⟩:∃k,n=k+1:=⟨n-1,by omega⟩;have I:∀t,wP t->Lr σ t->RG 372 σ (nf (gX false (k+1)) t σ):=λt y C=>(Mv h y C hw a0 hn).mono (by omega);have NO:RG 372 σ ((Pure.pure ():M Unit) σ):=(sE h.iv h.ms).mono (by omega);have⟨a,b,kk,gG⟩:=t;cases kk with
 |lost=>exact absurd rfl y.nl
 |kE s=>
  refine Ed (sp:=mP) (P:=RG 372 σ) rfl rfl rfl ?_ ?_;exact RG.mono (c:=s.size+1) ((qc h.iv h.ne _ (by grind[wP.sz])).rg h.ms (λ_ q=>q.gq)) (by have:=y.sz;have e:gF.chars ⟨a,b,.kE s,gG⟩=s:=rfl;grind);exact I _ y C
 |gV s=>
  refine jM y.nl (sp:=mP) (P:=RG 372 σ) rfl rfl ?_;show RG 372 σ (vC 96 true _ σ);rw[Am];grind[RG.mono,yg,xr.iv,Cp,xr.ne,xr.ms]
 |iH s q=>exact jM y.nl (sp:=mP) (P:=RG 372 σ) rfl rfl NO
 |iw=>exact jM y.nl (sp:=mP) (P:=RG 372 σ) rfl rfl (I _ y C)
 |start nm=>
  have K:po σ ⟨a,b,.start nm,gG⟩:=C.tag rfl;refine Li (sp:=mP) (P:=RG 372 σ) rfl (by simp) rfl rfl ?_ ?_
  .intro p D F;simp only[Db,tw,tz]at D;rcases D with rfl|rfl|rfl|rfl
   all_goals dsimp only at F|-
   exact(Oa h (by have:=R8 F;grind) K.fr hw).mono (by omega)
   .have e:=Ms F;subst e;show RG 372 σ (uC _ σ);unfold uC;have k1:=kC h.iv h.ne (by omega) ⟨a,b,.start fR,gG⟩ K.tag K.fr;rw[M.gw];revert k1;cases iL ⟨a,b,.start fR,gG⟩ σ with
    |ok u σ1=>
     rintro⟨i1,z,w1,j,q⟩;have hb:B3 σ1:=by
      have⟨x,d,_,hd⟩:=h.sh;have⟨r,hr⟩:=h.iv;exact⟨⟨d,z.nm _ _ (hr.head d hd)⟩,j,q.nm⟩
     exact⟨i1.lf rfl rfl rfl rfl rfl rfl rfl,⟨.inl (.inr (.inr (.inr (.inr ⟨rfl,z.ne h.ne⟩)))),λ_=>hb⟩,⟨z.gQ,z.qZ,z.sB,z.qu,z.lm.wt,z.lm.wz,z.nm⟩,jZ w1 (by omega)⟩
    |stop c p=>exact λh=>h
    |stuck=>simp[jH]
   have e:=Ms F;subst e;exact(Sa k a b gG h.iv h.ne K.fr h.ms).mono (by omega);exact NO
  exact I _ y C
 |stop nm=>
  refine Td (sp:=mP) (P:=RG 372 σ) rfl (by simp) rfl rfl ?_ ?_;intro p D F;simp only[Db,tw,tz]at D;subst D;exact I _ y C;exact NO
structure eI(σ:N):Prop where
 iv:nU σ
 md:σ.mode=3
 sh:∃h d,σ.gq=[some h,some d]/\σ.head=some d
theorem eI.ms(h:eI σ):MS σ:=by
 have⟨x,d,h1,h2⟩:=h.sh;exact⟨.inl (.inr (.inr (.inl ⟨h.md,x,d,h1,h2⟩))),BH.low (by grind[md])⟩
theorem eI.ne(h:eI σ):σ.gq≠[]:=by grind[sh]
theorem eI.pop(h:eI σ):xr {σ.pop with mode:=4}/\Lm σ {σ.pop with mode:=4}:=by
 have⟨x,d,h1,h2⟩:=h.sh;have⟨g1,g2⟩:=IP h.iv (by grind);refine⟨⟨g1.lf rfl rfl rfl rfl rfl rfl rfl,rfl,x,d,?_,h2⟩,⟨rfl,rfl,rfl,rfl,A5 _,λ_ h=> .inl h,λ_ _ h=>h⟩⟩;grind[N.pop]
theorem J6(hi:nU σ)(d:σ.gq≠[])(y:po σ t)(b:Bool)(z:wt σ<998000)(hk:3<=σ.mode)(x:BH σ)(hs:HS σ.mode σ.gq σ.head):RG 1 σ ((ou t b>>=λ_=>(Pure.pure ():M Unit)) σ):=by
 refine RG.tail ?_;have k:=J4 hi d y b z;revert k;cases ou t b σ with
 |ok u σ2=>
  rintro⟨C,D,F,I,k5,⟨j,k6,k7⟩,k8,K⟩;refine⟨C,⟨.inr (.inl ⟨I,by omega,?_,?_⟩),λq=>(x (by omega)).of K⟩,D,F⟩
  all_goals grind[List.length_pos_iff]
 |stop c p=>exact λh=>h
 |stuck=>simp
def zg(h:nU σ)(d:σ.gq≠[])(u:MS σ)(hs:t.chars.size<=100)(x:wt σ<999000):RG 101 σ (jK t σ):=
 RG.mono ((qc h d t (by omega)).rg u (λ_ q=>q.gq)) (by omega)
theorem abb(hn:4*64+8<=n)(t:gF)(u:wP t)(h:eI σ)(y:Lr σ t)(hw:wt σ<997000)(a0:σ.waiting.length<4000):RG 373 σ (gX false (n+2) 3 t σ):=by
 have⟨g4,gl⟩:=h.pop;have F:∀t,wP t->Lr σ t->RG 373 σ (mj (gX false (n+1)) t σ):=by
  intro t u y;have K:=RG.tail (abc hn t u g4 (λhs=>y hs) hw a0);exact RG.from (c1:=372) (c2:=0) K gl (ic _) (λ_ h=>h) (ZX (jx rfl)) (by omega)
 have I:RG 373 σ ((Pure.pure ():M Unit) σ):=(sE h.iv h.ms).mono (by omega);have z:HS σ.mode σ.gq σ.head:=by
  have⟨x,d,K,h2⟩:=h.sh;exact .inr (.inr (.inl ⟨h.md,x,d,K,h2⟩))
 have⟨a,b,kk,gG⟩:=t;cases kk with
 |lost=>exact absurd rfl u.nl
 |kE s=>
  refine Ed (sp:=jV) (P:=RG 373 σ) rfl rfl rfl ?_ ?_;exact(zg h.iv h.ne h.ms u.sz (by omega)).mono (by omega);exact F _ u y
 |gV s=>
  refine jM u.nl (sp:=jV) (P:=RG 373 σ) rfl rfl ?_;show RG 373 σ (vC 96 true _ σ);rw[Am];grind[RG.mono,yg,eI.iv,Cp,eI.ne,eI.ms]
 |iH s q=>exact jM u.nl (sp:=jV) (P:=RG 373 σ) rfl rfl I
 |iw=>exact jM u.nl (sp:=jV) (P:=RG 373 σ) rfl rfl (F _ u y)
 |start nm=>
  have D:po σ ⟨a,b,.start nm,gG⟩:=y.tag rfl;refine Li (sp:=jV) (P:=RG 373 σ) rfl (by simp) rfl rfl ?_ ?_
  .intro p C hq;simp only[Db,tw,tz]at C;rcases C with rfl|rfl|rfl|rfl|rfl
   all_goals dsimp only at hq|-
   exact(J6 h.iv h.ne D true (by omega) (by grind[eI.md]) h.ms.2 z).mono (by omega);exact(J6 h.iv h.ne D false (by omega) (by grind[eI.md]) h.ms.2 z).mono (by omega);exact RG.mono (c:=1) ((rK h.iv h.ne (by omega) _ D.tag D.fr).rg h.ms (λ_ q=>q.1)) (by omega);have e:=Ms hq;subst e;exact(Sa n a b gG h.iv h.ne D.fr h.ms).mono (by omega);exact I
  exact F _ u y
 |stop nm=>
  refine Td (sp:=jV) (P:=RG 373 σ) rfl (by simp) rfl rfl ?_ ?_;intro p C hq;simp only[Db,tw,tz]at C;rcases C with rfl|rfl;exact F _ u y;exact⟨g4.iv,g4.ms,gl,jZ (ZX (jx rfl)) (amI _ _)⟩;exact I
structure fJ(σ:N):Prop where
 iv:nU σ
 md:σ.mode=2
 sh:∃h,σ.gq=[some h]
theorem fJ.ms(h:fJ σ):MS σ:=by
 have⟨x,h1⟩:=h.sh;exact⟨.inl (.inr (.inl ⟨h.md,x,h1⟩)),BH.low (by grind[md])⟩
theorem fJ.ne(h:fJ σ):σ.gq≠[]:=by grind[sh]
theorem jJ.ajG{r:Nat->Nat}(h:jJ r σ){d:Nat}(u:iV σ d fY)(z:∀x,σ.gq.head?=some (some x)->r x<r d):jJ r {σ with head:=some d}:=
 ⟨⟨h.pc.up,h.pc.dn,h.pc.nd,h.pc.kd⟩,⟨h.uK.ji,h.uK.gq,by grind⟩,h.gq,h.act,λy q=>by cases q;exact u,h.form,h.Pw,h.yK,h.Br,h.TM,h.XH,h.wA⟩
theorem J0(h:fJ σ)(own:Bool)(gG:lu)(hf:own=true->σ.fresh=true)(hw:wt σ<998000){k:M Unit}(hk:∀σ',eI σ'->Lm σ σ'->σ'.waiting=σ.waiting->wt σ'<=wt σ+1->(own=false->σ'.fresh=σ.fresh)->RG c σ' (k σ')):RG (c+1) σ ((rQ own gG>>=λ_=>k) σ):=by
 have⟨x,ho⟩:=h.sh;have⟨r,hr⟩:=h.iv;have⟨B,hB⟩:=BQ r σ.nodes.length;have a7:x<σ.nodes.length:=hr.II (by grind);have I:∀(C:lu)(F:Bool),(own=false->F=σ.fresh)->rA fY own gG σ=.ok σ.nodes.length (σ.qt (.el {name:=fY,gR:=C,ji:=none,kids:=[]}) F)->RG (c+1) σ ((rQ own gG>>=λ_=>k) σ):=by
  intro C F a1 he;have⟨g1,g2⟩:=hr.new fY C F (B+1);obtain⟨y,z⟩:∃y,y=σ.qt (.el {name:=fY,gR:=C,ji:=none,kids:=[]}) F:=⟨_,rfl⟩;rw[<-z]at g1 g2 he;have K:y.gU σ.nodes.length=some {name:=fY,gR:=C,ji:=none,kids:=[]}:=by rw[z];exact N.su
  have o1:y.gq=σ.gq:=by rw[z];rfl
  have w1:wt y=wt σ:=by rw[z];exact Hk _ _ _
  have hh:=g1.ajG (d:=σ.nodes.length) ⟨_,K,rfl⟩ (by
   grind[yL])
  have a3:some σ.nodes.length∉({y with head:=some σ.nodes.length}:N).gq:=by
   show some σ.nodes.length∉y.gq;rw[o1];intro hm;have:=hr.II (i:=σ.nodes.length) hm;omega
  have a2:=Qc (σ:={y with head:=some σ.nodes.length}) ⟨_,hh⟩ (j:=σ.nodes.length) K rfl rfl a3 (by grind) (by show wt y<_;omega);show RG (c+1) σ (((rA fY own gG>>=λe=>uL (λσ=>{σ with head:=some e})>>=λ_=>jT e>>=λ_=>jq 3>>=λ_=>(Pure.pure ():M Unit))>>=λ_=>k) σ);rw[M.gw,M.gw,he];dsimp only;rw[M.gw];have hu:uL (λa0:N=>{a0 with head:=some σ.nodes.length}) y=.ok () {y with head:=some σ.nodes.length}:=rfl;rw[hu];dsimp only;rw[M.gw];revert a2;cases jT σ.nodes.length {y with head:=some σ.nodes.length} with
  |ok u σ2=>
   rintro⟨i2,D,w2,q2⟩;dsimp only;have i3:eI {σ2 with mode:=3}:=⟨i2.lf rfl rfl rfl rfl rfl rfl rfl,rfl,x,σ.nodes.length,by
    show σ2.gq=_;rw[q2.gq];grind,D.head⟩
   have a5:σ2.waiting=σ.waiting:=by rw[D.waiting];show y.waiting=_;rw[z];rfl
   have lq:Lm σ {σ2 with mode:=3}:=⟨D.gQ.trans g2.gQ,D.qZ.trans g2.qZ,D.sB.trans g2.sB,D.qu.trans g2.qu,by grind,by grind,λi s q=>D.nm i s (g2.nm i s q)⟩;have a6:wt σ2<=wt y+1:=w2;have h4:=hk {σ2 with mode:=3} i3 lq a5 (by grind[wt]) (λa4=>by
    show σ2.fresh=_;rw[q2.fresh];show y.fresh=_;rw[z];exact a1 a4)
   exact RG.from (c1:=c) (c2:=1) (σ1:={σ2 with mode:=3}) h4 lq (by grind) (by grind) (by grind[wt]) (ic _)
  |stop e p=>exact λh=>Tu h g2.gQ
  |stuck=>simp[jH]
 cases own with
 |true=>
  refine I gG false (λh=>by cases h) ?_;grind[rA]
 |false=>exact I [] σ.fresh (λ_=>rfl) rfl
theorem aba(K:4*64+8<=n)(t:gF)(d:wP t)(h:fJ σ)(u:Lr σ t)(hw:wt σ<996000)(a0:σ.waiting.length<4000):RG 374 σ (gX false (n+3) 2 t σ):=by
 have y:∀t,wP t->Lr σ t->RG 374 σ (oG (gX false (n+2)) t σ):=by
  intro t d u;refine J0 (c:=373) h false [] (λh=>by cases h) (by omega) ?_;intro σ' D l' wq w' F;have I:=abb K t d D (λhs=>(F rfl).trans (u hs)) (by omega) (by grind);refine RG.tail ?_;show RG 373 σ' (gX false (n+2) σ'.mode t σ');rw[D.md];exact I
 have z:RG 374 σ ((Pure.pure ():M Unit) σ):=(sE h.iv h.ms).mono (by omega);have⟨a,b,kk,gG⟩:=t;cases kk with
 |lost=>exact absurd rfl d.nl
 |kE s=>
  refine Ed (sp:=lQ) (P:=RG 374 σ) rfl rfl rfl ?_ ?_;exact z;exact y _ d u
 |gV s=>
  refine jM d.nl (sp:=lQ) (P:=RG 374 σ) rfl rfl ?_;show RG 374 σ (vC 96 true _ σ);rw[Am];grind[RG.mono,yg,fJ.iv,Cp,fJ.ne,fJ.ms]
 |iH s q=>exact jM d.nl (sp:=lQ) (P:=RG 374 σ) rfl rfl z
 |iw=>exact jM d.nl (sp:=lQ) (P:=RG 374 σ) rfl rfl (y _ d u)
 |start nm=>
  refine Li (sp:=lQ) (P:=RG 374 σ) rfl (by simp) rfl rfl ?_ ?_
  .intro p x C;simp only[Db,tw,tz]at x;rcases x with rfl|rfl
   all_goals dsimp only at C|-
   refine RG.mono (c:=1) (J0 (c:=0) h true gG (λ_=>(u.tag rfl).fr) (by omega) (k:=(Pure.pure ():M Unit)) ?_) (by omega);grind[sE,eI.iv,eI.ms];have e:=Ms C;subst e;exact(Sa (n+1) a b gG h.iv h.ne (u.tag rfl).fr h.ms).mono (by omega)
  exact y _ d u
 |stop nm=>
  refine Td (sp:=lQ) (P:=RG 374 σ) rfl (by simp) rfl rfl ?_ ?_;intro p x C;simp only[Db,tw,tz]at x;subst x;exact y _ d u;exact z
structure dG(σ:N):Prop where
 iv:nU σ
 md:σ.mode<=1
 op:σ.gq=[]
 hd:σ.head=none
theorem dG.ms(h:dG σ):MS σ:=⟨.inl (.inl ⟨h.md,h.op,h.hd⟩),BH.low (by grind[md])⟩
theorem JZ(h:dG σ)(own:Bool)(gG:lu)(hf:own=true->σ.fresh=true)(hw:wt σ<998000){k:M Unit}(hk:∀σ',fJ σ'->Lm σ σ'->σ'.waiting=σ.waiting->wt σ'<=wt σ+1->(own=false->σ'.fresh=σ.fresh)->RG c σ' (k σ')):RG (c+1) σ ((rP own gG>>=λ_=>k) σ):=by
 have⟨r,hr⟩:=h.iv;have⟨B,hB⟩:=BQ r σ.nodes.length;have⟨e0,he0⟩:=Option.isSome_iff_exists.1 hr.wA;have D:=N.io he0;have y:∀(u:lu)(x:Bool),(own=false->x=σ.fresh)->rA fN own gG σ=.ok σ.nodes.length (σ.qt (.el {name:=fN,gR:=u,ji:=none,kids:=[]}) x)->RG (c+1) σ ((rP own gG>>=λ_=>k) σ):=by
  intro u x I he;have⟨g1,g2⟩:=hr.new fN u x (B+1);obtain⟨q,d⟩:∃q,q=σ.qt (.el {name:=fN,gR:=u,ji:=none,kids:=[]}) x:=⟨_,rfl⟩;rw[<-d]at g1 g2 he;have C:q.gU σ.nodes.length=some {name:=fN,gR:=u,ji:=none,kids:=[]}:=by rw[d];exact N.su
  have z:q.gU 0=some e0:=by rw[d];show(σ.add _).gU 0=_;rw[N.tW D];exact he0
  have w1:wt q=wt σ:=by rw[d];exact Hk _ _ _
  have o1:q.gq=[]:=by rw[d];exact h.op
  have hd:Aq q=.ok (0,e0.kids.length) q:=by unfold Aq jg;rw[z]
  have⟨σ2,q1,q2,q3,q4,q5,q6,q7,q8,q9,q10⟩:=g1.put (pl:=(0,e0.kids.length)) ⟨e0,z,ic _⟩ C rfl (by
   grind[yL]) (by omega)
  have⟨e2,he2,hn2,_⟩:=q9 _ _ C;show RG (c+1) σ (((rA fN own gG>>=λe=>Aq>>=λpl=>kD pl e>>=λ_=>oH (some e)>>=λ_=>jq 2>>=λ_=>(Pure.pure ():M Unit))>>=λ_=>k) σ);rw[M.gw,M.gw,he];dsimp only;rw[M.gw,hd];dsimp only;rw[M.gw,q1];dsimp only;rw[M.gw];have o2:σ2.gq=[]:=q5.trans o1;have F:=g2.trans q3;unfold oH;by_cases hl:σ2.qZ<=σ2.gq.length;rw[sL hl];exact F.gQ;rw[Xx hl,sL (show σ2.nk (some σ.nodes.length)=true by grind[N.nk])];dsimp only;have⟨p1,p2⟩:=q2.push he2 (by grind) (by omega) (.inr ⟨hn2,by rw[F.head];exact h.hd⟩);have a0:σ2.waiting=σ.waiting:=F.waiting;have i3:fJ {({σ2 with gq:=σ2.gq++[some σ.nodes.length]}:N)with mode:=2}:=⟨nU.lf ⟨_,p1⟩ rfl rfl rfl rfl rfl rfl rfl,rfl,σ.nodes.length,by grind⟩;have lq:Lm σ {({σ2 with gq:=σ2.gq++[some σ.nodes.length]}:N)with mode:=2}:=⟨F.gQ,F.qZ,F.sB,F.qu,by grind,by grind,F.nm⟩;have h4:=hk _ i3 lq a0 (by grind[wt]) (λK=>by
   show σ2.fresh=_;rw[q7,d];exact I K)
  exact RG.from (c1:=c) (c2:=1) h4 lq (by grind) (by grind) (by grind[wt]) (ic _)
 cases own with
 |true=>
  refine y gG false (λh=>by cases h) ?_;grind[rA]
 |false=>exact y [] σ.fresh (λ_=>rfl) rfl
theorem aa9(F:4*64+8<=n)(t:gF)(d:wP t)(h:dG σ)(u:Lr σ t)(hw:wt σ<995000)(a0:σ.waiting.length<4000):RG 375 σ (gX false (n+4) 1 t σ):=by
 have y:∀t,wP t->Lr σ t->RG 375 σ (oF (gX false (n+3)) t σ):=by
  intro t d u;refine JZ (c:=374) h false [] (λh=>by cases h) (by omega) ?_;intro σ' C l' wq w' D;refine RG.tail ?_;show RG 374 σ' (gX false (n+3) σ'.mode t σ');rw[C.md];exact(aba F t d C (λK=>(D rfl).trans (u K)) (by omega) (by grind))
 have z:RG 375 σ ((Pure.pure ():M Unit) σ):=(sE h.iv h.ms).mono (by omega);have⟨a,b,kk,gG⟩:=t;cases kk with
 |lost=>exact absurd rfl d.nl
 |kE s=>
  refine Ed (sp:=lO) rfl rfl rfl (z) (y _ d u)
 |gV s=>
  refine jM d.nl (sp:=lO) rfl rfl ?_;show RG 375 σ (vC 90 false _ σ);rw[Us];grind[RG.mono,yg,dG.iv,RM,dG.ms]
 |iH s q=>exact jM d.nl rfl rfl z
 |iw=>exact jM d.nl (sp:=lO) rfl rfl (y _ d u)
 |start nm=>
  refine Li rfl (by simp) rfl rfl ?_ (y _ d u);intro p x I;simp at x;subst x;refine RG.mono (c:=1) (JZ (c:=0) h true gG (λ_=>(u.tag rfl).fr) (by omega) ?_) (by omega);grind[sE,fJ.iv,fJ.ms]
 |stop nm=>
  refine Td rfl (by simp) rfl rfl ?_ (z);intro p x I;simp at x;subst x;exact y _ d u
def rU:nc:={blank:=.nothing,gV:=.gV 90 false,iH:=.iq 91,iy:=.iq 92}
theorem dG.q(h:dG σ)(q:Bool):dG {σ with jA:=q,mode:=1}:=⟨h.iv.lf rfl rfl rfl rfl rfl rfl rfl,ic _,h.op,h.hd⟩
theorem ajD(K:4*64+8<=n)(t:gF)(d:wP t)(h:dG σ)(y:Lr σ t)(hw:wt σ<995000)(C:σ.waiting.length<4000):RG 376 σ (gX false (n+5) 0 t σ):=by
 have z:∀t,wP t->Lr σ t->RG 376 σ (kK (gX false (n+4)) t σ):=by
  intro t d y;exact RG.from (c1:=375) (c2:=0) (RG.tail (aa9 K t d (h.q true) (λhs=>y hs) hw C)) ⟨rfl,rfl,rfl,rfl,A5 _,λ_ h=> .inl h,λ_ _ h=>h⟩ (ic _) (λ_ h=>h) (ZX (jx rfl)) (by omega)
 have⟨a,b,kk,gG⟩:=t;cases kk with
 |lost=>exact absurd rfl d.nl
 |kE s=>
  refine Ed (sp:=rU) rfl rfl rfl ?_ ?_;exact((sE h.iv h.ms).mono (by omega));exact z _ d y
 |gV s=>
  refine jM d.nl (sp:=rU) rfl rfl ?_;show RG 376 σ (vC 90 false _ σ);rw[Us];grind[RG.mono,yg,dG.iv,RM,dG.ms]
 |iH s q=>
  have⟨pl,h1,h2⟩:=RM h.iv;have F:=IU h.iv h2 (.dt s) .dt (.inr ⟨s,rfl,rfl⟩) (by omega);show RG 376 σ ((jg 0>>=λpl=>oR pl (.dt s) .dt>>=λ_=>(do uL _;jq 1;return ():M Unit)) σ);rw[M.gw,h1];dsimp only;rw[M.gw];revert F;cases oR pl (.dt s) .dt σ with
  |ok u σ1=>
   rintro⟨i1,x,w1,q1⟩;have I:dG σ1:=⟨i1,by rw[x.mode];exact h.md,by rw[q1.gq];exact h.op,by rw[x.head];exact h.hd⟩;have D:=I.q (q||!ld s fN);exact⟨D.iv,D.ms,⟨x.gQ,x.qZ,x.sB,x.qu,by grind[Fx.waiting],by grind[Fx.waiting],x.nm⟩,by grind[wt]⟩
  |stop c p=>exact λh=>h
  |stuck=>simp[jH]
 |iw=>exact jM d.nl (sp:=rU) rfl rfl (z _ d y)
 |start nm=>exact jM d.nl (sp:=rU) rfl rfl (z _ d y)
 |stop nm=>exact jM d.nl (sp:=rU) rfl rfl (z _ d y)
theorem XS(F:4*64+8<=n)(t:gF)(x:wP t)(hi:nU σ)(hs:HS σ.mode σ.gq σ.head)(z:BH σ)(u:Lr σ t)(I:wt σ<995000)(q:σ.waiting.length<4000):RG 380 σ (gX false (n+5) σ.mode t σ):=by
 rcases hs with⟨d,h,y⟩|⟨d,h⟩|⟨d,h⟩|⟨d,h⟩|⟨d,h⟩;have D:dG σ:=⟨hi,d,h,y⟩;rcases D0 σ.mode 1 with C|C;grind[RG.mono,ajD];have e:σ.mode=1:=by omega
 grind[RG.mono,aa9];rw[d];exact(aba (by omega) t x ⟨hi,d,h⟩ u (by omega) q).mono (by omega);rw[d];exact(abb (by omega) t x ⟨hi,d,h⟩ u (by omega) q).mono (by omega);rw[d];exact(abc (by omega) t x ⟨hi,d,h⟩ u (by omega) q).mono (by omega);exact((Lt 64 (n+5) (by omega) t σ ⟨x,⟨hi,h,d⟩,u,by omega,q,(by have⟨r,hr⟩:=hi;exact jZ hr.yK hr.TM)⟩).rg (z (.inl (FF d)))).mono (by omega)
theorem ajE(I:4*64+8<=n)(t:gF)(d:wP t)(hi:nU σ)(C:σ.mode=5)(F:3<=σ.kept)(hl:2<=σ.gq.length)(hs:HS σ.kept σ.gq.dropLast σ.head)(z:BH σ)(hf:Lr σ t)(K:wt σ<995000)(y:σ.waiting.length<4000):RG 380 σ (gX false (n+6) 5 t σ):=by
 have u:MS σ:=⟨.inr (.inl ⟨C,F,hl,hs⟩),z⟩;have lV:=λq=>(z (.inr ⟨C,by have q:6<=σ.kept\/σ.kept=5/\6<=σ.kept:=q;omega⟩)).of λ_ _ h=>h;have⟨g1,g2⟩:=IP hi hl;have D:nU {σ.pop with mode:=σ.kept}:=g1.lf rfl rfl rfl rfl rfl rfl rfl;have lq:Lm σ {σ.pop with mode:=σ.kept}:=⟨rfl,rfl,rfl,rfl,A5 _,λ_ h=> .inl h,λ_ _ h=>h⟩;have x:RG 380 σ (xv σ):=⟨D,⟨.inl hs,lV⟩,lq,jZ (ZX (jx rfl)) (amI _ _)⟩;have⟨a,b,kk,gG⟩:=t;cases kk with
 |lost=>exact absurd rfl d.nl
 |kE s=>
  refine Ed rfl rfl rfl ((zg hi (by grind) u d.sz (by omega)).mono (by omega)) ((zg hi (by grind) u d.sz (by omega)).mono (by omega))
 |gV s=>exact jM d.nl rfl rfl x
 |iH s q=>exact jM d.nl rfl rfl x
 |start nm=>exact jM d.nl rfl rfl x
 |stop nm=>exact jM d.nl rfl rfl x
 |iw=>
  exact RG.from (c2:=0) (RG.tail (XS I _ d D hs lV (λh=>by cases h) K y)) lq (ic _) (λ_ h=>h) (ZX (jx rfl)) (by omega)
def Q0(c:Nat)(σ:N)(r:qQ Unit):Prop:=match r with
 | .ok _ σ'=>nU σ'/\σ'.gq≠[]/\σ'.mode=σ.mode/\σ'.kept=σ.kept/\σ'.gQ=σ.gQ/\σ'.qZ=σ.qZ/\σ'.sB=σ.sB/\σ'.qu=σ.qu/\σ'.fresh=σ.fresh/\wt σ'<=wt σ+c/\∀i s,iV σ i s->iV σ' i s
 | .stop _ p=>p=σ.gQ
 | .stuck=>False
theorem Q0.bind{c1 c2:Nat}{m k:M Unit}(h:Q0 c1 σ (m σ))(C:∀σ',nU σ'->σ'.gq≠[]->wt σ'<=wt σ+c1->Q0 c2 σ' (k σ'))(hc:c1+c2<=c):Q0 c σ ((m>>=λ_=>k) σ):=by
 rw[M.gw];revert h;cases m σ with
 |ok u σ1=>
  rintro⟨q,y,D,F,I,K,a7,a8,a9,d,x⟩;have z:=C σ1 q y d;dsimp only;revert z;cases k σ1 with
  |ok v σ2=>
   grind[Q0]
  |stop e p=>grind[Q0]
  |stuck=>simp[Q0]
 |stop e p=>simp[Q0]
 |stuck=>simp[Q0]
def jH.kw{r:qQ Unit}{Q:Unit->N->Prop}(h:jH c σ r Q)(d:σ.gq≠[])(q:∀σ',Q () σ'->σ'.fresh=σ.fresh):Q0 c σ r:=by
 cases r with
 |ok a σ'=>
  have⟨h1,f,h3,h4⟩:=h;exact⟨h1,f.ne d,f.mode,f.kept,f.gQ,f.qZ,f.sB,f.qu,q σ' h4,h3,f.nm⟩
 |stop e p=>exact h
 |stuck=>exact h
theorem LM(h:nU σ)(d:σ.gq≠[])(hs:t.chars.size<=100)(q:wt σ<999000):jH 200 σ (nw t σ) (λ_ σ'=>σ'.fresh=σ.fresh):=by
 unfold nw;split;exact⟨h,Fx.refl _,amI _ _,rfl⟩;refine jH.bind (pj h d (by omega)) (c2:=101) ?_ (by omega);grind[jH.iM,jH.mono,qc,Fx.ne,Rest.fresh]
def Ox(h:nU σ)(q:σ.gq≠[])(x:Nat×Nat×O)(hs:x.2.2.size<=100)(z:wt σ<999000):Q0 200 σ (qC (gX true (n+1)) (ol x) σ):=by
 have e:gX true _ 6 (ol x)=nw _:=iN true n 6 _ (by simp[ol]) _ rfl (.iq 111) (by
  unfold ol iS;dsimp only;split<;>rfl)
 have y:=LM (σ:={σ with im:=true}) (t:=ol x) (h.lf rfl rfl rfl rfl rfl rfl rfl) q hs z;show Q0 200 σ ((gX true _ 6 _>>=λ_=>uL _>>=λ_=>(Pure.pure ())) _);rw[e,M.gw];revert y;cases nw _ _ with
 |ok u σ1=>
  rintro⟨C,d,F,D⟩;exact⟨C.lf rfl rfl rfl rfl rfl rfl rfl,d.ne q,d.mode,d.kept,d.gQ,d.qZ,d.sB,d.qu,D,F,d.nm⟩
 |stop c p=>exact λh=>h
 |stuck=>simp[jH]
theorem F4:∀(xs:List (Nat×Nat×O)){σ:N},nU σ->σ.gq≠[]->(∀x∈xs,x.2.2.size<=100)->wt σ+200*xs.length<999000->Q0 (200*xs.length) σ (uv (gX true (n+1)) xs σ)
 |[],σ,h,hne,_,_=>⟨h,hne,rfl,rfl,rfl,rfl,rfl,rfl,rfl,amI _ _,by grind⟩
 |x::xs,σ,h,hne,hs,hw=>by
  simp at hw;refine Q0.bind (Ox h hne x (hs x (N1 ..)) (by omega)) (c2:=200*xs.length) ?_ (by grind);intro σ' d u w';exact F4 xs d u (λy q=>hs y (abv _ q)) (by omega)
theorem Ge:∀(xs:List (Nat×Nat×O)){σ:N},nU σ->σ.gq≠[]->(∀x∈xs,x.2.2.size<=100)->wt σ+200*xs.length<999000->Q0 (200*xs.length) σ (uw xs σ)
 |[],σ,h,hne,_,_=>⟨h,hne,rfl,rfl,rfl,rfl,rfl,rfl,rfl,amI _ _,by grind⟩
 |x::xs,σ,h,hne,hs,hw=>by
  simp at hw;have C:(ol x).chars.size<=100:=hs x (N1 ..);refine Q0.bind (((qc h hne (ol x) (by omega)).mono (c':=200) (by omega) (λ_ _ _ _ h=>h)).kw hne (λ_ q=>q.fresh)) (c2:=200*xs.length) ?_ (by grind);intro σ' d z w';exact Ge xs d z (λy u=>hs y (abv _ u)) (by omega)
theorem DH(h:nU σ)(d:σ.gq≠[])(hs:∀x∈σ.waiting,x.2.2.size<=100)(q:wt σ+200*σ.waiting.length<999000):Q0 (200*σ.waiting.length) σ (oM (gX true (n+1)) σ):=by
 grind[Ge,F4,oM]
def Hq(σ:N):Nat:=wt σ+200*σ.waiting.length
structure zx(σ:N):Prop where
 iv:nU σ
 ms:MS σ
 wz:∀x∈σ.waiting,x.2.2.size<=100
def RT(c:Nat)(σ:N)(r:qQ Unit):Prop:=match r with
 | .ok _ σ'=>zx σ'/\σ'.gQ=σ.gQ/\σ'.qZ=σ.qZ/\σ'.sB=σ.sB/\σ'.qu=σ.qu/\σ'.waiting.length<=σ.waiting.length+1/\Hq σ'<=Hq σ+c/\∀i s,iV σ i s->iV σ' i s
 | .stop _ p=>p=σ.gQ
 | .stuck=>False
def RG.rt{r:qQ Unit}(h:RG c σ r)(q:∀x∈σ.waiting,x.2.2.size<=100):RT (c+200) σ r:=by
 cases r with
 |ok a σ'=>
  have⟨h1,h2,h3,h4⟩:=h;refine⟨⟨h1,h2,λx d=>(h3.wz x d).elim (q x) id⟩,h3.gQ,h3.qZ,h3.sB,h3.qu,h3.wt,?_,h3.nm⟩;unfold Hq;have:=h3.wt;omega
 |stop e p=>exact h
 |stuck=>exact h
theorem ajF(hn:4*64+8<=n)(t:gF)(d:wP t)(g:zx σ)(hm:σ.mode=8)(hk:σ.kept=7\/σ.kept=11\/σ.kept=12)(K:σ.gq≠[])(z:Lr σ t)(hw:Hq σ<990000)(ab:σ.waiting.length<4000):RT 580 σ (gX false (n+6) 8 t σ):=by
 have I:MS σ:=g.ms;have D:∀t,wP t->Lr σ t->RT 580 σ (lM (gX true (n+5)) (gX false (n+5)) t σ):=by
  intro t d z;have h1:=DH (n:=n+4) g.iv K g.wz (by grind[Hq]);unfold lM;rw[M.gw];revert h1;cases oM (gX true (n+4+1)) σ with
  |ok u σ1=>
   rintro⟨a1,a2,a3,a4,a5,a6,a7,a8,a9,a0,F⟩;dsimp only;have i2:nU {σ1 with waiting:=[],mode:=σ1.kept}:=a1.lf rfl rfl rfl rfl rfl rfl rfl;have hb:rC σ1.kept=true:=by rw[a4];rcases hk with e|e|e<;>(rw[e];rfl)
   have h2:=XS hn t d (σ:={σ1 with waiting:=[],mode:=σ1.kept}) i2 (.inr (.inr (.inr (.inr ⟨hb,a2⟩)))) (λ_=>(I.2 (.inl (by omega))).of F) (λhs=>a9.trans (z hs)) (by show wt σ1<_;grind[Hq]) (by simp);have h3:=RG.tail h2;show RT 580 σ ((jF (gX false (n+5)) t>>=λ_=>(Pure.pure ():M Unit)) {σ1 with waiting:=[],mode:=σ1.kept});have h4:RG 380 {σ1 with waiting:=[],mode:=σ1.kept} ((jF (gX false (n+5)) t>>=λ_=>(Pure.pure ():M Unit)) {σ1 with waiting:=[],mode:=σ1.kept}):=h3;revert h4;cases(jF (gX false (n+5)) t>>=λ_=>(Pure.pure ():M Unit)) {σ1 with waiting:=[],mode:=σ1.kept} with
   |ok v σ2=>
    rintro⟨b1,b2,y,b4⟩;have hl:σ2.waiting.length<=0+1:=y.wt;refine⟨⟨b1,b2,λx C=>(y.wz x C).elim (λh=>by cases h) id⟩,y.gQ.trans a5,y.qZ.trans a6,y.sB.trans a7,y.qu.trans a8,by omega,?_,λi s q=>y.nm i s (F i s q)⟩;have aa:wt σ2<=wt σ1+380:=b4;grind[Hq]
   |stop c p=>exact λh=>Tu h a5
   |stuck=>simp[RG]
  |stop c p=>exact λh=>h
  |stuck=>simp[Q0]
 have⟨a,b,kk,gG⟩:=t;cases kk with
 |lost=>exact absurd rfl d.nl
 |kE s=>
  have KC:RT 580 σ (oq ⟨a,b,.kE s,gG⟩ σ):=by
   rw[Gp (by omega)];cases uY s with
   |true=>grind[RT]
   |false=>
    refine⟨⟨g.iv.lf rfl rfl rfl rfl rfl rfl rfl,⟨.inr (.inr ⟨hm,hk,K⟩),I.2⟩,?_⟩,rfl,rfl,rfl,rfl,by simp,?_,λ_ _ h=>h⟩;intro x C;rcases List.mem_append.1 (show x∈σ.waiting++[(a,b,s)]from C)with C|C;grind[zx.wz];rw[List.mem_singleton.1 C];exact d.sz;show wt σ+200*(σ.waiting++[(a,b,s)]).length<=_;grind[Hq]
  exact Ed (sp:=lj) (P:=RT 580 σ) rfl rfl rfl KC KC
 |gV s=>exact jM d.nl (sp:=lj) (P:=RT 580 σ) rfl rfl (D _ d z)
 |iH s q=>exact jM d.nl (sp:=lj) (P:=RT 580 σ) rfl rfl (D _ d z)
 |start nm=>exact jM d.nl (sp:=lj) (P:=RT 580 σ) rfl rfl (D _ d z)
 |stop nm=>exact jM d.nl (sp:=lj) (P:=RT 580 σ) rfl rfl (D _ d z)
 |iw=>exact jM d.nl (sp:=lj) (P:=RT 580 σ) rfl rfl (D _ d z)
abbrev uU:Nat:=300
theorem alj(t:gF)(z:wP t)(g:zx σ)(y:Lr σ t)(D:Hq σ<990000)(d:σ.waiting.length<4000):RT 580 σ (gX false uU σ.mode t σ):=by
 have F:wt σ<990000:=by unfold Hq at D;omega
 rcases g.ms.1 with h|⟨q,u,x,C⟩|⟨q,u,x⟩;exact(XS (by omega) t z g.iv h g.ms.2 y (by omega) d).rt g.wz;rw[q];exact(ajE (by omega) t z g.iv q u x C g.ms.2 y (by omega) d).rt g.wz;grind[ajF]
def eL(σ:N)(t:gF)(r:qQ Unit):Prop:=match r with
 | .ok _ σ'=>zx σ'/\σ'.qZ=σ.qZ/\σ'.sB=σ.sB/\σ'.qu=σ.qu/\σ'.waiting.length<=σ.waiting.length+1/\Hq σ'<=Hq σ+580/\∀i s,iV σ i s->iV σ' i s
 | .stop _ p=>p=t.a
 | .stuck=>False
theorem aj4(t:gF)(tg:t.k=.lost\/wP t)(g:zx σ)(hf:Lr σ t)(hw:Hq σ<990000)(d:σ.waiting.length<4000):eL σ t (qR (gX false uU) t σ):=by
 have a0:t.k≠ .lost->eL σ t ((if σ.behind&&ld t.chars y8 then .ok () {σ with behind:=false,gQ:=t.a} else jF (gX false uU) t {σ with behind:=false,gQ:=t.a})):=by
  intro hk;have x:zx {σ with behind:=false,gQ:=t.a}:=⟨g.iv.lf rfl rfl rfl rfl rfl rfl rfl,g.ms,g.wz⟩;split;exact⟨x,rfl,rfl,rfl,A5 _,amI _ _,λ_ _ h=>h⟩
  .have h:=alj t (tg.resolve_left hk) x (λhs=>hf hs) hw d;show eL σ t (gX false uU σ.mode t _);revert h;cases gX false uU _ t _ with
   |ok u σ'=>rintro⟨y,a2,z,C,D,F,I,K⟩;exact⟨y,z,C,D,F,I,K⟩
   |stop c p=>exact λh=>h
   |stuck=>simp[RT]
 have⟨a,b,kk,gG⟩:=t;cases kk with
 |lost=>exact⟨g,rfl,rfl,rfl,A5 _,amI _ _,λ_ _ h=>h⟩
 |kE s=>grind[qR]
 |gV s=>grind[qR]
 |iH s q=>grind[qR]
 |start nm=>grind[qR]
 |stop nm=>grind[qR]
 |iw=>grind[qR]
def dj:List O:=[jW,qM,oU,jd,iB,gS]
theorem PX:∀(L:List (O×Nat))(s:O),(∀p∈L,(decide (p.2&&& 1=0)||gO dj p.1)=true)->xw L s&&& 1≠0->gO dj s=true
 |[],_,_,h=>(h (show 0&&& 1=0 by decide)).elim
 |p::L,s,hp,h=>by
  unfold xw at h;split at h;grind[ry];exact PX L s (λq d=>hp q (abv _ d)) h
theorem Qp(s:O):kJ s=gO dj s:=by
 cases h:gO dj s with
 |true=>
  simp only[gO,dj,List.any_cons,List.any_nil,Bool.or_false,Bool.or_eq_true]at h;rcases h with h|h|h|h|h|h<;>(rw[ry h];decide+kernel)
 |false=>
  cases h1:kJ s with
  |false=>rfl
  |true=>
   have:=PX sW s (List.all_eq_true.1 (by decide+kernel)) (of_decide_eq_true h1);grind
theorem Mt(h:gO l s=true):s∈l:=by
 have⟨x,h1,h2⟩:=List.any_eq_true.1 h;grind[ry]
theorem wF(h:σ.last=some i):some i∈σ.gq:=nY h
def acA{l:kY}{y:jj}:∀x,x∈l.erase y->x∈l:=λ_ h=>wZ h
def vW:O:=⟨#[98,114,32,104,114,32,105,109,103,32,105,110,112,117,116,32,109,101,116,97,32,99,111,108]⟩
theorem ahZ(s:O):aV s vW 25 0 0=kJ s:=by
 have e:aV s vW 25 0 0=if s.toList≠[]/\(vW.extract 0 2).toList=s.toList then true else if s.toList≠[]/\(vW.extract 3 5).toList=s.toList then true else if s.toList≠[]/\(vW.extract 6 9).toList=s.toList then true else if s.toList≠[]/\(vW.extract 10 15).toList=s.toList then true else if s.toList≠[]/\(vW.extract 16 20).toList=s.toList then true else if s.toList≠[]/\(vW.extract 21 24).toList=s.toList then true else false:=rfl
 rw[e,Qp];have n:∀(a b:Nat)(u:O),(vW.extract a b).toList=u.toList->u.toList≠[]->((s.toList≠[]/\(vW.extract a b).toList=s.toList)↔ld s u=true):=by
  intro a b u h d;rw[h];unfold ld;rw[beq_iff_eq];exact⟨λh=>h.2.symm,λh=>⟨by grind,h.symm⟩⟩
 simp only[n 0 2 jW (by decide+kernel) (by decide+kernel),n 3 5 qM (by decide+kernel) (by decide+kernel),n 6 9 oU (by decide+kernel) (by decide+kernel),n 10 15 jd (by decide+kernel) (by decide+kernel),n 16 20 iB (by decide+kernel) (by decide+kernel),n 21 24 gS (by decide+kernel) (by decide+kernel)];grind[gO,dj]
theorem Fu.kept{d:Nat}{A:Nat->It}(h:Fu w g d n A)(u:Z [] w w')(q:g<w.heap.size):Fu w' g d n A:=
 ⟨λi hi=>by rw[u.cell q (by simp)];grind[c0],λi hi=>by rw[u.cell q (by simp)];grind[c1],λi hi=>by rw[u.cell q (by simp)];grind[c2]⟩
theorem drop_at{L:List It}(h:k<L.length):L.drop k=Cf L k::L.drop (k+1):=by
 grind[List.drop_eq_getElem_cons,Cf]
def Ft:Tn:=.tx ⟨#[]⟩
def DY(σ:N):Nat->Nd->Tn
 |0,_=>Ft
 |k+1,.el i=>match σ.gU i with
  |some e=> .el e.name e.gR (e.kids.map (DY σ k))
  |none=>Ft
 |_+1,.tx i=>match σ.nodes[i]? with
  |some (.tx s)=> .tx s
  |_=>Ft
 |_+1,.cm i=>match σ.nodes[i]? with
  |some (.cm s)=> .cm s
  |_=>Ft
 |_+1,.dt i=>match σ.nodes[i]? with
  |some (.dt s)=> .dt s
  |_=>Ft
theorem Vk(g:Nd->Tn)(f:Nd->Nd):∀ks:List Nd,(∀k∈ks,jQ w (g k) (f k))->sg w (ks.map g) (ks.map f)
 |[],_=>by simp[sg]
 |k::ks,h=>by
  exact⟨by grind,Vk g f ks (λx d=>h x (abv _ d))⟩
theorem aaH(h:Rel E L σ w){r:Nat->Nat}(q:jJ r σ)(y:∀i,i<σ.nodes.length->r i<=B):∀(k:Nat)(d:Nd),σ.jr d=true->(∀i,d=.el i->B-r i+1<k)->1<=k->jQ w (DY σ k d) (Nd.map L.gQ d)
 |0,_,_,_,h1=>absurd h1 (by omega)
 |k+1,.el i,hk,hi,_=>by
  have⟨e,he⟩:=Option.isSome_iff_exists.1 (hk);have⟨a1,a2,a3⟩:=h.uz i _ (N.jp he);have D:=hi i rfl;show jQ w (match σ.gU i with|some e=> .el e.name e.gR _|none=>Ft) _
  rw[he];simp;refine⟨_,_,_,_,⟨a1.il,ke a1.row (xj _),a1.le,a1.aG⟩,a2,a3,(Vk (DY σ k) (Nd.map L.gQ) e.kids ?_)⟩;intro x u;refine aaH h q y k x (q.pc.kd i e he x u) ?_ (by omega);intro j z;subst z;have⟨ej,g1,g2⟩:=q.pc.dn i e j he (xR.2 u);have C:=q.uK.ji j ej i g1 g2;grind[N.io]
 |k+1,.tx i,hk,_,_=>by
  unfold N.jr at hk;show jQ w (match σ.nodes[i]? with|some (.tx s)=> .tx s|_=>Ft) _
  cases hq:σ.nodes[i]? with
  |none=>grind
  |some d=>
   cases d with
   |tx s=>exact h.uz i _ hq
   |el e=>grind
   |cm s=>grind
   |dt s=>grind
 |k+1,.cm i,hk,_,_=>by
  unfold N.jr at hk;show jQ w (match σ.nodes[i]? with|some (.cm s)=> .cm s|_=>Ft) _
  cases hq:σ.nodes[i]? with
  |none=>grind
  |some d=>
   cases d with
   |cm s=>exact h.uz i _ hq
   |el e=>grind
   |tx s=>grind
   |dt s=>grind
 |k+1,.dt i,hk,_,_=>by
  unfold N.jr at hk;show jQ w (match σ.nodes[i]? with|some (.dt s)=> .dt s|_=>Ft) _
  cases hq:σ.nodes[i]? with
  |none=>grind
  |some d=>
   cases d with
   |dt s=>exact h.uz i _ hq
   |el e=>grind
   |tx s=>grind
   |cm s=>grind
def afK:(prog.info? 5).map (λi=>(i.zero,i.size,i.bytes))=some (some (.int .u8 0),1,1):=by kernel_rfl
theorem Rz:(∃j,prog.info? 94=some j/\j.size≠0):=by
 have h:((prog.info? 94).map λi=>i.size)=some 2:=rfl;grind[Option.map_eq_some_iff]
def Xq:liesAt prog prog.depth 96 (4 / prog.cellsOf 96) 0 94 1=true:=by kernel_rfl
def KB(W W':J):Prop:=∀(k:Nat)(c:jL)(t:TypeId),W.heap[k]?=some (gH c t)->t∉[96,5]->W'.heap[k]?=some (gH c t)
theorem KB.trans{B C:J}(h:KB A B)(k:KB B C):KB A C:=λi c t hi d=>k i c t (h i c t hi d) d
def KB.j9{B:J}(h:Z [] A B):KB A B:=λi c t hi _=>h.at hi (by simp)
theorem KB.Zb{B:J}{cb:jL}(h:Z [b] A B)(d:A.heap[b]?=some (gH cb 96)):KB A B:=λi c t hi q=>h.at hi (by
 grind)
theorem KB.agp{B:J}(q:A.grownBy B v.ownBlock)(u:A.ownsRow base 5 1 v n xs):KB A B:=λi c t hi z=>(q.block i (ja hi) (by
 intro e;rcases u.2 with⟨e2,_⟩|⟨g,d,h,e2,_,y,_⟩;rw[e2]at e;cases e;rw[e2]at e;have x:=Ki e;grind)).trans hi
def Oe(l:List UInt8)(s:O):Lib.byteCells (l++s.data.toList)=Lib.byteCells l++Lib.strCells s:=by
 unfold Lib.byteCells Lib.strCells;simp
def lC(xs:List O):List UInt8:=xs.flatMap λs=>s.data.toList
def Gn(xs ys:List O):lC (xs++ys)=lC xs++lC ys:=vE ..
def bO(w:J)(B b:Nat)(vv:gP×Bool)(p:gP)(l:List UInt8):Prop:=B<=b/\∃v,w.heap[b]?=some (gH #[p,v,vv.1,.bool vv.2] 96)/\w.ownsRow B 5 1 v l.length (Lib.byteCells l)/\v.ownBlock≠some b
def Wu(w:J)(B b:Nat)(vv:gP×Bool)(l:List UInt8):Prop:=bO w B b vv (.pointer none) l\/bO w B b vv (gI b) l
theorem bO.kept{p:gP}{l:List UInt8}(h:bO w B b vv p l)(d:Z [] w w'):bO w' B b vv p l:=by
 have⟨h0,v,h1,h2,h3⟩:=h;exact⟨h0,v,d.at h1 (by simp),d.ownsRow h2 (λ_ _=>by simp),h3⟩
theorem Wu.kept{l:List UInt8}(h:Wu w B b vv l)(d:Z [] w w'):Wu w' B b vv l:=h.imp (·.kept d) (·.kept d)
theorem Ye(B b:Nat)(vv:gP×Bool)(l:List UInt8)(w:J)(h:Wu w B b vv l):
  Calls prog 351 #[gI b] w λe w'=>e=qs/\bO w' B b vv (gI b) l/\Z [b] w w':=by
 have⟨j,hj,hj0⟩:=Rz;rcases h with⟨C,v,d,y,z⟩|⟨C,v,d,y,z⟩
 .have I:w.cell? ⟨b,0,none⟩=some (.pointer none):=by rw[fP d];rfl
  have f0:=gx d 0;have D:=ja d;have u:w.shape? b=some (96,4):=by simp[World.shape?,d]
  have F:=(Z.refl [b] w).setCell (p:=⟨b,0,none⟩) (.inl (by simp)) (gI b);have x:Hid (bO (w.setCell ⟨b,0,none⟩ (gI b)) B b vv (gI b) l):=V ⟨C,v,gh d 0 _,F.ownsRow y (λq hq=>by grind),z⟩;have d0:(w.setCell ⟨b,0,none⟩ (gI b)).cell? ⟨b,0,none⟩=some (gI b):=by rw[fP (gh d 0 _)];rfl
  have hu:=Lib.run_to_unsafe (P:=prog) w (src:=92) (dst:=98) ⟨b,0,none⟩ underlying92 underlying98 hj hj0 u (show 0<4 by decide);have hf:=Lib.run_from_unsafe (P:=prog) w (src:=98) (dst:=92) ⟨b,0,none⟩ underlying98 underlying92 hj u Xq;have K:=yz (P:=prog) (w.setCell ⟨b,0,none⟩ (gI b)) (tp:=92) ⟨b,0,none⟩ underlying92 hj;go_enter func351,ntmps351;go_wp2;rw[vw func369 (by rfl) (by rfl) rfl (e:=Extern.AbiNoEscape.same) rfl];rw[Lib.run_noEscape];simp only[Result.andThen];rw[Oper.upon_value];go_wp2;go_end0;exact⟨rfl,x,F⟩
 .have I:w.cell? ⟨b,0,none⟩=some (gI b):=by rw[fP d];rfl
  have D:=ja d;have x:Hid (bO w B b vv (gI b) l):=V ⟨C,v,d,y,z⟩;have K:=yz (P:=prog) w (tp:=92) ⟨b,0,none⟩ underlying92 hj;go_enter func351,ntmps351;go_wp2;go_end0;exact⟨rfl,x,Z.refl _ _⟩
theorem Tt(B b:Nat)(vv:gP×Bool)(l:List UInt8)(s:O)(w D:J)(h:Wu w B b vv l)(a5:l.length+s.size<=140737488355328)(a8:B<=w.heap.size)(a0:Z [] D w)(a9:D.heap.size<=B):
  Calls prog 326 #[gI b,Y s] w λe w'=>e=iA (.tuple #[G s.size,.nilIface])/\Wu w' B b vv (l++s.data.toList)/\Z [] D w'/\KB w w':=by
 have⟨i0,hi,hz0,hz1,hz2⟩:=qz afK;have HH:=h;have F:=a0;go_enter func326,ntmps326;go_wp21;refine(Ye B b vv l _ HH).mono ?_;rintro e w1⟨rfl,h1,a1⟩;have⟨hB,v,hbk,hown,hne⟩:=h1;have a3:KB w w1:=by
  rcases HH with⟨_,_,hx,_⟩|⟨_,_,hx,_⟩;grind[KB.Zb];grind[KB.Zb]
 have c1:=fP hbk 1;dsimp at c1;have a2:b<w1.heap.size:=ja hbk;go_wp2_with (at_builtin;refine Lib.wpList_append_own_string _ rfl _ _ 56 9 rfl B 5 i0 underlying56 underlying9 hi hz0 hz1 hz2 _ _ _ rfl hown s rfl ?c3 ?c4 ?c5 ?_)
 case c3=>unfold maxLen;omega
 case c4=>omega
 case c5=>omega
 intro v' z u d _;have x:z.heap[b]?=some (gH #[gI b,v,vv.1,.bool vv.2] 96):=by
  rw[d.block b a2 (λe=>hne e.symm)];exact hbk
 have d1:=fP x 1;dsimp at d1;have f1:z.frozen? ⟨b,1,none⟩=false:=gx x 1;have⟨ao,cap,hv⟩:=gz u;subst hv;have a6:∀q,v.ownBlock=some q->B<=q:=λq C=>(hown.lt q C).1;have y:∀q,(Value.slice ao (l.length+s.size) cap).ownBlock=some q->q≠b:=λq C e=>by
  subst e;rcases u.2 with⟨e2,_⟩|⟨g,a4,a7,e2,_,hc,_⟩;grind;rw[e2]at C;have e3:=Ki C;grind
 have kx:Z [b] z (z.setCell ⟨b,1,none⟩ (.slice ao (l.length+s.size) cap)):=(Z.refl [b] z).setCell (.inl (by simp)) _;have HP:Hid (Wu (z.setCell ⟨b,1,none⟩ (.slice ao (l.length+s.size) cap)) B b vv (l++s.data.toList)):=V (.inr ⟨hB,_,gh x 1 _,by
  rw[Oe,N3];exact kx.ownsRow u (λq C=>by grind),λe=>y b e rfl⟩)
 have K:Hid (Z [] D (z.setCell ⟨b,1,none⟩ (.slice ao (l.length+s.size) cap))):=V ((((F.next a1 (by simp;omega))).grown d (λq C=> .inr (by grind))).setCell (.inr (by grind)) _);have I:=(a3.trans (KB.agp d hown)).trans (KB.Zb kx x);go_wp2;go_ret2;exact⟨rfl,HP,K,I⟩
theorem CV(B b g a2:Nat)(vv:gP×Bool)(l:List UInt8)(xs:List O)(w D:J)(h:Wu w B b vv l)(hg:w.heap[g]?=some (gH (xs.map Value.string).toArray 9))(y:l.length+(lC xs).length<=140737488355328)(a4:Z [] D w)(a6:D.heap.size<=B)(a7:xs.length<=4096):
  Calls prog 410 #[gI b,nX g xs.length a2] w λe w'=>e=qs/\Wu w' B b vv (l++lC xs)/\Z [] D w'/\KB w w':=by
 obtain⟨n,hn⟩:∃n,n=xs.length:=⟨_,rfl⟩;rw[<-hn]at a7|-;have HN:=V hn;have HT:=h;have HG:=hg;have a8:=a4;have a0:=y;clear hn;go_enter func410,ntmps410;go_wp21
 go_loopw [8] (λv wr=>∃i:Nat,v=G i/\i<=n/\Wu wr B b vv (l++lC (xs.take i))/\Z [] D wr/\KB w wr) (λv _=>n-(intOf v).toNat)
 case atStart=>grind[lC,KB]
 case round=>
  obtain⟨i,rfl,hi,F,hk,x⟩:=hrel;by_cases a5:i<n
  .have h1:i<xs.length:=by rw[<-HN.out];exact a5
   have gg:=x g _ _ HG (by decide);have hc:wr.cell? ⟨g,i,none⟩=some (Y xs[i]):=by rw[fP gg];simp[h1]
   have d:lC (xs.take (i+1))=lC (xs.take i)++xs[i].data.toList:=by
    rw[yH,yG h1,Gn];simp[lC]
   have q:(l++lC (xs.take i)).length+xs[i].size<=140737488355328:=by
    have e:=DZ List.length (DZ lC (QV (i+1) xs));rw[Gn,d]at e;have:=a0;have es:xs[i].data.toList.length=xs[i].size:=Ty;simp only[N3]at e|-;omega
   have a9:B<=b/\b<wr.heap.size:=by rcases F with⟨z,_,hx,_⟩|⟨z,_,hx,_⟩<;>exact⟨z,ja hx⟩
   have C:=Tt B b vv _ xs[i] wr D F q (by omega) hk a6;rw[vu,<-d]at C;have HB:=V x;generalize xs[i]=u at *;clear x;go_wp21;refine C.mono ?_;rintro e W2⟨rfl,a1,K,a3⟩;have I:=HB.trans a3;go_wp2;go_roundw
   case rel=>grind
   case measure=>simp[intOf];omega
  .have he:xs.take i=xs:=NZ (by grind[Hid.out]);rw[he]at F;have a1:=F;have K:=hk;have I:=x;clear x;go_wp2;go_end0;grind
def SS(s h d:O):O:=⟨(Lib.replaceAll s.data.toList h.data.toList d.data.toList).toArray⟩
def N5(w:J):Prop:=(∃m,w.cell? ⟨3,0,none⟩=some (G m))/\3<w.heap.size
theorem N5.kept(h:N5 w)(d:Z [] w w'):N5 w':=by
 have⟨⟨m,hm⟩,hl⟩:=h;exact⟨⟨m,(d.cell hl (by simp)).trans hm⟩,nr hl d.size⟩
def MG(h:Below w.heap.size w w'):Z [] w w':=⟨h.os,h.tape,h.output,h.size,λk d _=>h.block k d⟩
def Bv(s:O):O:=SS (SS s vG kL) ut ob
def Ks(s:O):O:=SS (SS (Bv s) rG my) iZ sM
def akZ(u:J)(vv:gP)(q:O->Bool):Prop:=∃k h,vv=.func (.func k) #[] h/\(∀d w,(callFunc k d).run prog w=.ok (.enter k d) w)/\∀W,Z [] u W->∀s,Calls prog k (#[Y s]++h) W λe W'=>e=iA (.bool (q s))/\W'=W
theorem QE(q u:List UInt8)(c:Nat)(x:1<=c)(h:u.length<=c*q.length):∀(k:Nat)(s:List UInt8),(Lib.replaceK q u k s).length<=c*s.length
 |0,s=>by exact Jh _ x
 |k+1,s=>by
  rw[Lib.replaceK];split;exact Jh _ x;have F:=Lib.index_ge s q;have z:0<=Lib.index s q:=by grind
  have I:=Lib.index_room s q z;have K:(Lib.index s q).toNat+q.length<=s.length:=by omega
  have y:=QE q u c x h k (s.drop ((Lib.index s q).toNat+q.length));generalize (Lib.index s q).toNat=i at *;simp at y|-;obtain⟨d,C⟩:∃d,s.length=i+q.length+d:=⟨s.length-(i+q.length),by omega⟩;rw[C]at y|-;have e1:i+q.length+d-(i+q.length)=d:=by omega
  rw[e1]at y;have e2:c*(i+q.length+d)=c*i+c*q.length+c*d:=by grind
  have D:i<=c*i:=Jh _ x;omega
theorem AP(s q d:O)(c:Nat)(u:1<=c)(h:d.size<=c*q.size):(SS s q d).size<=c*s.size:=by
 have e2:(SS s q d).size=(Lib.replaceAll _ _ _).length:=rfl;rw[e2];unfold Lib.replaceAll Lib.replace;split;exact Jh _ u;exact QE _ _ c u (by simp_all) _ _
theorem F0(s:O):(Bv s).size<=15*s.size:=by
 have d:=AP s vG kL 5 (by decide) (by decide);have h:=AP (SS s vG kL) ut ob 3 (by decide) (by decide);grind[Bv]
theorem UN(s:O):(Ks s).size<=240*s.size:=by
 have d:=F0 s;have h:=AP (Bv s) rG my 4 (by decide) (by decide);have q:=AP (SS (Bv s) rG my) iZ sM 4 (by decide) (by decide);grind[Ks]
def GP(s d h:O)(w:J)(x:N5 w)(hs:s.size<=2000000000)(q:1<=d.size)(y:h.size<=16):
  Calls prog 242 #[Y s,Y d,Y h] w λe w'=>e=iA (Y (SS s d h))/\Z [] w w':=by
 have⟨⟨m,hm⟩,_⟩:=x;refine(Tryz.strings_ReplaceAll s d h m w (by omega) hm q ?_).mono ?_;have:=Nat.mul_le_mul (Lib.countB_le d q _ s (ic _)) y;omega;rintro e w'⟨rfl,u⟩;exact⟨rfl,MG u⟩
def PQ(s:O)(w:J)(q:N5 w)(hs:s.size<=1048576):
  Calls prog 411 #[Y s] w λe w'=>e=iA (Y (Bv s))/\Z [] w w':=by
 have y:=AP s vG kL 5 (by decide) (by decide);go_enter func411,ntmps411;go_wp21;refine(GP s vG _ w q (by omega) (by decide) (by decide)).mono ?_;rintro e x⟨rfl,d⟩;go_wp21;refine(((λw' (u)=>GP (SS s vG kL) ut ob w' (q.kept u) (by omega) (by decide) (by decide))) x d).mono ?_;rintro e z⟨rfl,h⟩;go_wp2;go_ret;exact⟨rfl,(d.trans h)⟩
theorem Wu.cells{l:List UInt8}(h:Wu w B b vv l):∃p v,w.heap[b]?=some (gH #[p,v,vv.1,.bool vv.2] 96)/\B<=b:=by
 rcases h with⟨d,v,q,_⟩|⟨d,v,q,_⟩
 all_goals grind
theorem amH(B b:Nat)(vv:gP×Bool)(l:List UInt8)(s:O)(w y:J)(h:Wu w B b vv l)(C:N5 y)(hf:vv.2=false)(hs:s.size<=1048576)(a0:l.length+240*s.size<=140737488355328)(d:Z [] y w)(F:y.heap.size<=B):
  Calls prog 439 #[gI b,Y s] w λe w'=>e=qs/\Wu w' B b vv (l++(Ks s).data.toList)/\Z [] y w':=by
 have⟨p,v,hb,hBb⟩:=h.cells;have c3:w.cell? ⟨b,3,none⟩=some (.bool false):=by rw[fP hb,<-hf];rfl
 have a1:=ja hb;have z1:=F0 s;have z3:=UN s;have z2:=AP (Bv s) rG my 4 (by decide) (by decide);have C1:=PQ s w (C.kept d) hs;have C2:=(λw' (u:Z [] w w')=>GP (Bv s) rG my w' ((C.kept d).kept u) (by omega) (by decide) (by decide));have I:=(λw' (u:Z [] w w')=>GP (SS (Bv s) rG my) iZ sM w' ((C.kept d).kept u) (by omega) (by decide) (by decide));rw[show SS (SS (Bv s) rG my) iZ sM=Ks s from rfl]at I;have K:=(λw' (u:Z [] w w')=>CV B b w'.heap.size 1 vv l [Ks s] (w'.alloc (gH #[Y (Ks s)] 9)) y (h.kept (u.alloc _)) (fU w' _) (by simp only[lC,ZZ,zr,Xt];rw[show(Ks s).data.toList.length=(Ks s).size from Ty];omega) ((d.trans u).alloc _) F (by simp));have ej:lC [Ks s]=(Ks s).data.toList:=by simp[lC]
 rw[ej]at K;generalize Bv s=u1 at *;generalize Ks s=u3 at *;go_enter func439,ntmps439;go_wp21;refine C1.mono ?_;rintro e w1⟨rfl,q⟩;have D2:=C2 w1 q;go_wp21;refine D2.mono ?_;rintro e w2⟨rfl,x⟩;have D3:=I w2 (q.trans x);have z:=q.trans x;go_wp21;refine D3.mono ?_;rintro e w3⟨rfl,D⟩;have D4:=K w3 (z.trans D);go_wp21;refine D4.mono ?_;rintro e w4⟨rfl,H4,H5,_⟩;go_wp2;go_end0;grind
theorem amF(B b:Nat)(vv:gP×Bool)(l:List UInt8)(s:O)(w d:J)(h:Wu w B b vv l)(z:vv.2=true)(y:l.length+s.size<=140737488355328)(q:Z [] d w)(u:d.heap.size<=B):
  Calls prog 439 #[gI b,Y s] w λe w'=>e=qs/\Wu w' B b vv (l++s.data.toList)/\Z [] d w':=by
 have⟨p,v,hb,hBb⟩:=h.cells;have F:w.cell? ⟨b,3,none⟩=some (.bool true):=by rw[fP hb,<-z];rfl
 have x:=CV B b w.heap.size 1 vv l [s] (w.alloc (gH #[Y s] 9)) d (h.kept ((Z.refl [] w).alloc _)) (fU w _) (by simp only[lC,ZZ,zr,Xt];simp_all) (q.alloc _) u (by simp);have ej:lC [s]=s.data.toList:=by simp[lC]
 rw[ej]at x;go_enter func439,ntmps439;go_wp21;refine x.mono ?_;rintro e I⟨rfl,C,D,_⟩;go_wp2;refine uF (QU rfl _ _ _) rfl ?_;grind
theorem Wu.set{w:J}{B b:Nat}{vv:gP×Bool}{l:List UInt8}(h:Wu w B b vv l)(a:Bool):Wu (w.setCell ⟨b,3,none⟩ (.bool a)) B b (vv.1,a) l:=by
 have z:Z [b] w (w.setCell ⟨b,3,none⟩ (.bool a)):=(Z.refl [b] w).setCell (.inl (by simp)) _;have go:∀p,bO w B b vv p l->bO (w.setCell ⟨b,3,none⟩ (.bool a)) B b (vv.1,a) p l:=by
  rintro p⟨d,v,u,x,y⟩;exact⟨d,v,gh u 3 _,z.ownsRow x (λq C=>by grind),y⟩
 grind[Wu]
def Qg(x y s:O):(lC [x,s,y]).length=x.size+s.size+y.size:=by
 simp only[lC,ZZ,zr,Xt,N3];rw[show s.data.toList.length=s.size from Ty,show x.data.toList.length=x.size from Ty,show y.data.toList.length=y.size from Ty];omega
theorem ake(B b:Nat)(vv:gP×Bool)(l:List UInt8)(s:O)(w q:J)(h:Wu w B b vv l)(I:l.length+s.size+3<=140737488355328)(z:Z [] q w)(C:q.heap.size<=B):
  Calls prog 409 #[gI b,Y s] w λe w'=>e=qs/\Wu w' B b (vv.1,false) (l++lC [qY,s,iZ])/\Z [] q w':=by
 have⟨p,v,hb,hBb⟩:=h.cells;have K:=fP hb 3;have f3:=gx hb 3;dsimp at K;have a0:=ja hb;have F:=h.set false;have d:Z [] q (w.setCell ⟨b,3,none⟩ (.bool false)):=z.setCell (.inr (by grind)) _;have ez:=Qg qY iZ s;have e1:qY.size=2:=rfl;have e2:iZ.size=1:=rfl;rw[e1,e2]at ez;obtain⟨W,u⟩:∃W,W=w.setCell ⟨b,3,none⟩ (.bool false):=⟨_,rfl⟩;rw[<-u]at F d;have D:=CV B b W.heap.size 3 _ l [qY,s,iZ] (W.alloc (gH #[Y qY,Y s,Y iZ] 9)) q (F.kept ((Z.refl [] W).alloc _)) (fU W _) (by omega) (d.alloc _) C (by simp);have y:W.heap.size=w.heap.size:=by rw[u];simp
 rw[y]at D;have x:=V u.symm;generalize lC [qY,s,iZ]=a1 at *;clear u;go_enter func409,ntmps409;go_wp21;rw[x.out];refine D.mono ?_;rintro e w4⟨rfl,H4,H5,_⟩;go_wp2;go_end0;grind
theorem adU(B b:Nat)(vv:gP×Bool)(l:List UInt8)(s:O)(w d:J)(h:Wu w B b vv l)(x:l.length+s.size+7<=140737488355328)(q:Z [] d w)(u:d.heap.size<=B):
  Calls prog 407 #[gI b,Y s] w λe w'=>e=qs/\Wu w' B b vv (l++lC [nT,s,pH])/\Z [] d w':=by
 have z:=Qg nT pH s;have e1:nT.size=4:=rfl;have e2:pH.size=3:=rfl;rw[e1,e2]at z;have y:=CV B b w.heap.size 3 _ l [nT,s,pH] (w.alloc (gH #[Y nT,Y s,Y pH] 9)) d (h.kept ((Z.refl [] w).alloc _)) (fU w _) (by omega) (q.alloc _) u (by simp);generalize lC [nT,s,pH]=I at *;go_enter func407,ntmps407;go_wp21;refine y.mono ?_;rintro e F⟨rfl,C,D,_⟩;go_wp2;go_end0;grind
theorem adV(B b:Nat)(vv:gP×Bool)(l:List UInt8)(s:O)(w d:J)(h:Wu w B b vv l)(x:l.length+s.size+11<=140737488355328)(q:Z [] d w)(u:d.heap.size<=B):
  Calls prog 438 #[gI b,Y s] w λe w'=>e=qs/\Wu w' B b vv (l++lC [iR,s,iZ])/\Z [] d w':=by
 have z:=Qg iR iZ s;have e1:iR.size=10:=rfl;have e2:iZ.size=1:=rfl;rw[e1,e2]at z;have y:=CV B b w.heap.size 3 _ l [iR,s,iZ] (w.alloc (gH #[Y iR,Y s,Y iZ] 9)) d (h.kept ((Z.refl [] w).alloc _)) (fU w _) (by omega) (q.alloc _) u (by simp);generalize lC [iR,s,iZ]=I at *;go_enter func438,ntmps438;go_wp21;refine y.mono ?_;rintro e F⟨rfl,C,D,_⟩;go_wp2;go_end0;grind
theorem KB.row(h:KB w w'){e:TypeId}{d:Nat}(y:w.ownsRow base e d v n xs)(D:e∉[96,5]):w'.ownsRow base e d v n xs:=by
 refine⟨y.1,?_⟩;rcases y.2 with e2|⟨q,u,x,e2,z,C,F⟩;grind;exact .inr ⟨q,u,x,e2,z,h _ _ _ C D,F⟩
theorem YA(L:lu)(i:Nat)(h:i<L.length):(F1 L)[i*2]?=some (Y (L[i]).1)/\(F1 L)[i*2+1]?=some (Y (L[i]).2):=by
 induction L generalizing i with
 |nil=>simp at h
 |cons a L ih=>
  cases i<;>grind
def Kt(s:O):O:=SS (Bv s) qq pR
theorem afl(s:O):(Kt s).size<=90*s.size:=by
 have d:=F0 s;have h:=AP (Bv s) qq pR 6 (by decide) (by decide);grind[Kt]
def Uf(L:lu):List UInt8:=L.flatMap λa=>lC [⟨#[32]⟩,a.1,Aa,Kt a.2,qq]
def alH(s:O)(gG:lu):List UInt8:=lC [rG,s]++Uf gG++lC [iZ]
theorem akd(B b:Nat)(vv:gP×Bool)(vd:O->Bool)(l:List UInt8)(s:O)(av:gP)(gG:lu)(w D:J)(h:Wu w B b vv l)(hv:akZ D vv.1 vd)(hg:N5 D)(hs:s.size<=5000)(hA:vH w av gG)(aR:gG.length<=16)(ha:∀a∈gG,a.1.size<=5000/\a.2.size<=66000)(aL:l.length+6000+16*6000000<=140737488355328)(aj:Z [] D w)(a7:D.heap.size<=B):
  Calls prog 408 #[.pointer (some ⟨b,0,none⟩),.string s,av] w λe w'=>e=.returned (.bool (!vd s))/\(∃u,Wu w' B b (vv.1,s.toList==[115,116,121,108,101]) u/\u.length<=l.length+6000+gG.length*6000000/\u≠[]/\u=l++alH s gG)/\Z [] D w':=by
 have⟨vx,fl⟩:=vv;have⟨kv,lb,hvx,hcf,hcall⟩:=hv;have al:vx=.func (.func kv) #[] lb:=hvx;subst al;clear hvx;have⟨ao,cp,hav⟩:=gz hA;subst hav;have ez:(lC [rG,s]).length=s.size+1:=by
  simp only[lC,ZZ,zr,Xt,N3];rw[show s.data.toList.length=s.size from Ty];simp;omega
 have ag:(lC [iZ]).length=1:=rfl;have C1:=V (CV B b w.heap.size 2 _ l [rG,s] (w.alloc (.cells #[.string rG,.string s] 9 (0,0))) D (h.kept ((Z.refl [] w).alloc _)) (fU w _) (by omega) (aj.alloc _) a7 (by simp));have C2:=V (λw' u (hw:Wu w' B b (.func (.func kv) #[] lb,fl) u) (hl:u.length+1<=140737488355328) (hk:Z [] D w')=>CV B b w'.heap.size 1 _ _ [iZ] (w'.alloc (.cells #[.string iZ] 9 (0,0))) D (hw.kept ((Z.refl [] w').alloc _)) (fU w' _) (by omega) (hk.alloc _) a7 (by simp));have HC:=V hcall;have a9:=V (hA.alloc (.cells #[.string rG,.string s] 9 (0,0)));have EZ:=V ez;have a3:lC [rG,s]≠[]:=by simp[lC]
 have aA:=V a3;have ap:=V ag;have aq:=V ha;have ar:=V hg;clear a3 ha hg;unfold alH;generalize lC [rG,s]=J1 at *;generalize lC [iZ]=J2 at *;clear h aj ez ag hcall hA;go_enter func408,ntmps408;go_wp21;refine C1.out.mono ?_;rintro e w1⟨rfl,h1,k1,an⟩;have aa:=V (an.row a9.out (by decide));have H1:=V h1;have K1:=V k1;clear h1 k1 an a9;go_wp21
 go_loopw [15] (λv wr=>∃(d:Nat)(u:List UInt8),v=.int .i64 d/\d<=gG.length/\Wu wr B b (.func (.func kv) #[] lb,fl) u/\u.length<=l.length+5001+d*6000000/\u≠[]/\u=l++(J1++Uf (gG.take d))/\Z [] D wr/\vH wr (.slice ao gG.length cp) gG) (λv _=>gG.length-(intOf v).toNat)
 case atStart=>exact⟨0,_,rfl,xj _,H1.out,by rw[N3,EZ.out];omega,λe=>aA.out (List.append_eq_nil_iff.1 e).2,by simp[Uf],K1.out,aa.out⟩
 case round=>
  obtain⟨d,u,rfl,aS,hW,aI,I,y,a2,C⟩:=hrel;by_cases a6:d<gG.length
  .have aT:gG.length≠0:=by omega
   obtain⟨gA,aF⟩:∃gA,ao=some ⟨gA,0,none⟩:=by
    rcases C.2 with⟨e,h0⟩|⟨q,aK,aQ,e,_⟩
    all_goals grind
   subst aF;have⟨f0,f1⟩:=YA gG d a6;have q0:wr.cell? ⟨gA,d*2,none⟩=some (.string gG[d].1):=by rw[C.cellAt (d*2) (by omega)];exact f0
   have q1:wr.cell? ⟨gA,d*2+1,none⟩=some (.string gG[d].2):=by rw[C.cellAt (d*2+1) (by omega)];exact f1
   have⟨z1,z2⟩:=aq.out gG[d] (wK a6);have K:Uf (gG.take (d+1))=Uf (gG.take d)++lC [⟨#[32]⟩,gG[d].1,Aa,Kt gG[d].2,qq]:=by
    rw[yH,yG a6];simp only[Uf,Option.toList,vE,ZZ,zr,Xt]
   have af:=V K;have ay:=V y;clear K y;generalize gG[d].1=nm at *;generalize gG[d].2=x at *;clear f0 f1;have H2:=V hW;have K2:=V a2;have ad:=V I;have A2:=V C;clear hW a2 C I;go_wp21;obtain⟨ba,a4⟩:∃ba,ba=wr.heap.size:=⟨_,rfl⟩;obtain⟨W0,a1⟩:∃W0,W0=wr.alloc (.cells #[.string nm,.string x] 292 (0,0)):=⟨_,rfl⟩;have ab:Hid (W0.heap[ba]?=some (.cells #[.string nm,.string x] 292 (0,0))):=by rw[a1,a4];exact V (fU wr _)
   have k0:Z [] wr W0:=by rw[a1];exact(Z.refl [] wr).alloc _
   have ac:=V ((ar.out.kept K2.out).kept k0);obtain⟨aW,hG⟩:∃aW:J->Prop,aW=λW=>∃l2,Wu W B b (.func (.func kv) #[] lb,fl) l2/\l2.length<=l.length+5001+(d+1)*6000000/\l2≠[]/\l2=l++(J1++Uf (gG.take (d+1)))/\Z [] D W/\vH W (.slice (some ⟨gA,0,none⟩) gG.length cp) gG:=⟨_,rfl⟩;have aC:Hid (∀W g',Z [] W0 W->W.heap[g']?=some (.cells #[.string ⟨#[32]⟩,.string nm,.string Aa,.string (Kt x),.string qq] 9 (0,0))->Calls prog 410 #[.pointer (some ⟨b,0,none⟩),.slice (some ⟨g',0,none⟩) 5 5] W λe W2=>e=.returned (.tuple #[])/\aW W2):=V (by
    intro W g' q aH;have zj:(lC [⟨#[32]⟩,nm,Aa,Kt x,qq]).length<=5946004:=by
     have:=afl x;simp only[lC,ZZ,zr,Xt,N3];rw[show nm.data.toList.length=nm.size from Ty,show(Kt x).data.toList.length=(Kt x).size from Ty];simp;omega
    refine(CV B b g' 5 _ u [⟨#[32]⟩,nm,Aa,Kt x,qq] W D (H2.out.kept (k0.trans q)) aH (by omega) (K2.out.trans (k0.trans q)) a7 (by simp)).mono ?_;rintro e W2⟨rfl,r1,r2,r3⟩;rw[hG];exact⟨rfl,_,r1,by rw[N3];omega,λe=>ad.out (List.append_eq_nil_iff.1 e).1,(by rw[af.out,ay.out];simp),r2,r3.row ((k0.trans q).ownsRow A2.out (λ_ _=>by simp)) (by decide)⟩)
   have au:=V hG;have aB:=V a1.symm;clear hG a1 k0 H2 A2 ad aa H1 K1 C2 HC q0 q1 aI;rw[<-a4,aB.out];clear a4;refine Xz (by rfl) ?_;refine oT (λ(g:Nat) z=>⟨#[.pointer (some ⟨b,0,none⟩),.string s,.slice (some ⟨gA,0,none⟩) gG.length cp,undef,undef,undef,.bool false,undef,.pointer (some ⟨ba,0,none⟩),.pointer (some ⟨b,0,none⟩),.string s,.slice (some ⟨w.heap.size,0,none⟩) 2 2,.tuple #[],.slice (some ⟨gA,0,none⟩) gG.length cp,.int .i64 (gG.length:Int),.int .i64 (d:Int),.bool true,.pointer (some ⟨gA,d*2,none⟩),.agg #[.string nm,.string x],ce z 0 u19 (.pointer (some ⟨b,0,none⟩)),ce z 1 u20 (.pointer (some ⟨ba,0,none⟩)),ce z 2 u21 (.string nm),ce z 3 u22 (.pointer (some ⟨ba,1,none⟩)),ce z 4 u23 (.string x),ce z 5 u24 (.string (Bv x)),ce z 6 u25 (.string (Kt x)),ce z 7 u26 (.slice (some ⟨g,0,none⟩) 5 5),ce z 8 u27 (.tuple #[]),u28,undef,undef,undef,undef,undef,undef,undef,undef,undef,undef,undef,undef,undef,undef,undef],[]⟩) (λg z W=>(dn z 8=false->Z [] W0 W/\(dn z 7=true->W.heap[g]?=some (.cells #[.string ⟨#[32]⟩,.string nm,.string Aa,.string (Kt x),.string qq] 9 (0,0))))/\(dn z 8=true->aW W)) 9 [[],[],[1],[],[3],[3,4],[3,4,5],[1,2,3,4,5,6],[0,1,2,3,4,5,6,7]] 0 rfl rfl ⟨λ_=>⟨(Z.refl [] W0).drew,λh=>by cases h⟩,λh=>by cases h⟩ ?_ ?_
   .repeat' first|exact mg|refine mf ?_ ?_
    all_goals
     rintro g z W hI hc hn;simp[Bs]at hc;have h8:dn z 8=false:=by first|simp_all|simp[hc]
     have⟨q,h7⟩:=hI.1 h8;have c0:=fP (q.at ab.out (by simp)) 0;have c1:=fP (q.at ab.out (by simp)) 1;dsimp at c0 c1;have n8:∀{k},k≠8->∀{p:Prop},dn (z.setIfInBounds k true) 8=true->p:=λhk _ h=>by rw[lY hk,h8]at h;cases h
     refine N2 rfl ?_;intro K' F;simp only[yd,hc];go_simp
     first
     |refine F _ _ ⟨g,?_,λ_=>⟨q,qA h7 (by decide)⟩,n8 (by decide)⟩
     |refine(PQ x W (ac.out.kept q) (by omega)).mono ?_;rintro e W2⟨rfl,a5⟩;refine F _ _ ⟨g,?_,λ_=>⟨q.trans a5,λh=>by rw[lY (by decide),hn 7 (by decide)]at h;cases h⟩,n8 (by decide)⟩
     |refine(GP (Bv x) qq pR W (ac.out.kept q) (by have:=F0 x;omega) (by decide) (by decide)).mono ?_;rintro e W2⟨rfl,a5⟩;refine F _ _ ⟨g,?_,λ_=>⟨q.trans a5,λh=>by rw[lY (by decide),hn 7 (by decide)]at h;cases h⟩,n8 (by decide)⟩
     |refine F _ _ ⟨W.heap.size,?_,λ_=>⟨q.alloc _,λ_=>fU W _⟩,n8 (by decide)⟩
     |refine(aC.out W g q (h7 (by simp[hc]))).mono ?_;rintro e W2⟨rfl,aE⟩;refine F _ _ ⟨g,?_,λh=>(by rw[pX]at h;cases h),λ_=>aE⟩
     simp[xl,FJ,yd,hc,Kt]
   .rintro g W hI;simp only[RD];have aw:=V (hI.2 vO);clear hI;rename_i KK ai;refine ai _ _ ?_;clear ai KK;go_wp2;go_roundw
    case rel=>
     have hf:=aw.out;rw[au.out]at hf;have⟨l2,r1,r2,r3,re,r4,r5⟩:=hf;exact⟨d+1,l2,by go_num,by omega,r1,r2,r3,re,r4,r5⟩
    case measure=>simp[intOf];omega
  .have e:d=gG.length:=by omega
   have am:u++J2=l++(J1++Uf gG++J2):=by rw[y,e,List.take_length];simp only[vu]
   have aD:=V am;clear am y;have D2:=V (C2.out wr u hW (by omega) a2);clear C2 hW a2 C;go_wp21;refine D2.out.mono ?_;rintro e w2⟨rfl,h2,k2,_⟩;have⟨p,v,hb,hBb⟩:=h2.cells;have c3:w2.cell? ⟨b,3,none⟩=some (.bool fl):=by rw[fP hb];rfl
   have c2:w2.cell? ⟨b,2,none⟩=some (.func (.func kv) #[] lb):=by rw[fP hb];rfl
   have f3:=gx hb 3;have aM:=ja hb;obtain⟨a0,ak⟩:∃a0,a0=(s.toList==[115,116,121,108,101]):=⟨_,rfl⟩;have ah:=h2.set a0;have a8:Z [] D (w2.setCell ⟨b,3,none⟩ (.bool a0)):=k2.setCell (.inr (by show D.heap.size<=b;omega)) _;have aP:(w2.setCell ⟨b,3,none⟩ (.bool a0)).cell? ⟨b,2,none⟩=some (.func (.func kv) #[] lb):=by rw[fP (gh hb 3 _)];rfl
   have D3:=V (HC.out _ a8 s);have az:=V (show u++J2≠[]from λe=>I (List.append_eq_nil_iff.1 e).1);have ax:=V (show(u++J2).length<=l.length+6000+gG.length*6000000 by rw[N3,ap.out];omega);have H2:=V ah;have K2:=V a8;have ae:=V ak;clear h2 k2 hb HC ah a8;generalize hq:vd s=q at D3;have HQ:=V hq;clear hq;go_wp21;rw[<-ae.out];refine D3.out.mono ?_;rintro e w3⟨rfl,rfl⟩;go_wp2;go_ret;have e9:=ae.out;subst e9;exact⟨by rw[HQ.out];rfl,⟨_,H2.out,ax.out,az.out,aD.out⟩,K2.out⟩
def qw:Ev->Bool
 | .tx _=>false
 |_=>true
def AJ:Ev->Bool
 | .dt s=>decide (s.size<=5000)
 | .cm s=>decide (s.size<=5000)
 | .tx s=>decide (s.size<=1048576)
 | .enter s gG=>decide (gG.length<=16)&&(gG.all λa=>decide (a.1.size<=5000)&&decide (a.2.size<=66000))&&decide (s.size<=5000)
 | .xg s=>decide (s.size<=5000)
def TO:Ev->Nat
 | .tx s=>240*s.size
 | .enter _ _=>6000+16*6000000
 |_=>6000
def xK(d:List Ev):Nat:=(d.map TO).sum
theorem xZ(d:List Ev)(e:Ev):xK (d++[e])=xK d+TO e:=by simp[xK]
def ahl{a b:List Ev}(h:a <+:b):xK a<=xK b:=by
 obtain⟨r,rfl⟩:=h;simp[xK]
def NS(x:List UInt8×Bool):Ev->List UInt8×Bool
 | .dt s=>(x.1++lC [iR,s,iZ],x.2)
 | .cm s=>(x.1++lC [nT,s,pH],x.2)
 | .tx s=>(x.1++(if x.2 then s else Ks s).data.toList,x.2)
 | .enter s gG=>(x.1++alH s gG,s.toList==[115,116,121,108,101])
 | .xg s=>(x.1++lC [qY,s,iZ],false)
def ZV(d:List Ev):List UInt8×Bool:=d.foldl NS ([],false)
def CZ(d:List Ev)(e:Ev):ZV (d++[e])=NS (ZV d) e:=by simp[ZV]
theorem Xr(B b:Nat)(vv:gP)(vd:O->Bool)(a0:List Ev)(C:J)(hv:akZ C vv vd)(hg:N5 C)(q:C.heap.size<=B)(ht:∀e∈a0,AJ e=true)(hw:xK a0<=140737488355328):
  eJ 84 (gI b) vd a0 C (λpre W=>Wu W B b (vv,(ZV pre).2) (ZV pre).1/\(ZV pre).1.length<=xK pre/\(pre.any qw=true->(ZV pre).1≠[])):=by
 have last:∀{pre ev},pre++[ev] <+:a0->AJ ev=true/\xK pre+TO ev<=140737488355328:=by
  intro pre ev h;refine⟨ht ev (h.subset (by simp)),?_⟩;have:=ahl h;rw[xZ]at this;omega
 refine {mono:=?_,dt:=λs=>?_,cm:=λs=>?_,tx:=λs=>?_,xg:=λs=>?_,enter:=?_};grind[Wu.kept];refine⟨438,gI b,λw=>by kernel_rfl,λw=>by kernel_rfl,enters_of func438 (by kernel_rfl) rfl,λpre W z F I=>?_⟩;obtain⟨y,D⟩:=last I;simp only[AJ,abB,TO]at y D;obtain⟨hl,K,d⟩:=F;simp only[CZ];generalize ZV pre=x at *;obtain⟨l,a⟩:=x;dsimp only[NS]at hl K d|-;refine(adV B b (vv,a) l s W C hl (by omega) z q).mono ?_;rintro e W'⟨rfl,h3,h4⟩;refine⟨rfl,⟨h3,?_,?_⟩,h4⟩;rw[xZ,N3,Qg,show iR.size=10 from rfl,show iZ.size=1 from rfl];grind[TO];grind[List.append_eq_nil_iff,lC];refine⟨407,gI b,λw=>by kernel_rfl,λw=>by kernel_rfl,enters_of func407 (by kernel_rfl) rfl,λpre W z F I=>?_⟩;obtain⟨y,D⟩:=last I;simp only[AJ,abB,TO]at y D;obtain⟨hl,K,d⟩:=F;simp only[CZ];generalize ZV pre=x at *;obtain⟨l,a⟩:=x;dsimp only[NS]at hl K d|-;refine(adU B b (vv,a) l s W C hl (by omega) z q).mono ?_;rintro e W'⟨rfl,h3,h4⟩;refine⟨rfl,⟨h3,?_,?_⟩,h4⟩;rw[xZ,N3,Qg,show nT.size=4 from rfl,show pH.size=3 from rfl];grind[TO];grind[List.append_eq_nil_iff,lC];refine⟨439,gI b,λw=>by kernel_rfl,λw=>by kernel_rfl,enters_of func439 (by kernel_rfl) rfl,λpre W z F I=>?_⟩;obtain⟨y,D⟩:=last I;simp only[AJ,abB,TO]at y D;obtain⟨hl,K,d⟩:=F;simp only[CZ];generalize ZV pre=x at *;obtain⟨l,a⟩:=x;dsimp only[NS]at hl K d|-;have a1:∀u:O,u.size<=240*s.size->(l++u.data.toList).length<=xK (pre++[.tx s])/\((pre++[Ev.tx s]).any qw=true->l++u.data.toList≠[]):=by
  intro u hu;refine⟨?_,?_⟩;rw[xZ,N3,show u.data.toList.length=u.size from Ty];grind[TO];intro h;rw[List.any_append]at h;have h7:pre.any qw=true:=by simpa [qw]using h
  grind[List.append_eq_nil_iff]
 cases a with
 |false=>
  refine(amH B b (vv,false) l s W C hl hg rfl y (by omega) z q).mono ?_;grind[UN]
 |true=>
  refine(amF B b (vv,true) l s W C hl rfl (by omega) z q).mono ?_;grind
 refine⟨409,gI b,λw=>by kernel_rfl,λw=>by kernel_rfl,enters_of func409 (by kernel_rfl) rfl,λpre W z F I=>?_⟩;obtain⟨y,D⟩:=last I;simp only[AJ,abB,TO]at y D;obtain⟨hl,K,d⟩:=F;simp only[CZ];generalize ZV pre=x at *;obtain⟨l,a⟩:=x;dsimp only[NS]at hl K d|-;refine(ake B b (vv,a) l s W C hl (by omega) z q).mono ?_;rintro e W'⟨rfl,h3,h4⟩;refine⟨rfl,⟨h3,?_,?_⟩,h4⟩;rw[xZ,N3,Qg,show qY.size=2 from rfl,show iZ.size=1 from rfl];grind[TO];grind[List.append_eq_nil_iff,lC];refine⟨408,gI b,λw=>by kernel_rfl,λw=>by kernel_rfl,enters_of func408 (by kernel_rfl) rfl,λpre W s av gG z F I hA a2=>?_⟩;obtain⟨y,D⟩:=last I;simp only[AJ,xh,abB,qp,TO]at y D;obtain⟨⟨h7,h8⟩,h5⟩:=y;obtain⟨hl,K,d⟩:=F;simp only[CZ];generalize ZV pre=x at *;obtain⟨l,a⟩:=x;dsimp only[NS]at hl K d|-;refine(akd B b (vv,a) vd l s av gG W C hl hv hg h5 hA h7 h8 (by omega) z q).mono ?_;grind[xZ,TO]
def yS(a b:O):Bool:=if gO [fN] b then false else if gO [fY,fR] b then gO [fN] a else if gO [gN] b then gO [fW,fX,fV] a else if gO [ig,ij] b then gO [gN] a else if gO [fW,fX,fV,fZ,fS] b then gO [fQ] a else if gO [gS] b then gO [fS] a else true
def qL:List O:=[fN,fY,fR,gN,ig,ij,fW,fX,fV,fZ,fS,gS,fQ,jW,qM,oU,jd,iB]
def lZ(s:O):Bool:=gO qL s
def q0(s:O):Bool:=gO [fN,fY,fR,gN,ig,ij,fW,fX,fV,fZ,fS,gS,fQ] s
def Fs:O->Bool:=gO [fN,fY,fR]
theorem jX:gO l s=true↔s∈l:=by
 grind[sA,gO]
theorem lU:gO l s=false↔s∉l:=by grind[jX]
theorem Zd{b:O}(h:q0 b=false)(a:O):yS a b=true:=by
 have d:=lU.1 h;simp at d;grind[lU,yS]
theorem fc{b:O}(h:lZ b=false):q0 b=false:=lU.2 λd=>lU.1 h (by
 simp at d;simp[qL,Db];grind)
def GD{b:O}(h:lZ b=false)(a:O):yS a b=true:=Zd (fc h) a
theorem MV{b:O}(F:lZ a=false)(h:yS a b=true):q0 b=false\/b=fQ:=by
 have e:∀l:List O,(∀x∈l,x∈qL)->gO l a=false:=λl hl=>lU.2 λI=>lU.1 F (hl a I);unfold yS at h;rw[e [fN] (by simp[qL]),e [fW,fX,fV] (by simp[qL]),e [gN] (by simp[qL]),e [fQ] (by simp[qL]),e [fS] (by simp[qL])]at h;split at h;cases h;rename_i d;split at h;cases h;rename_i q;split at h;cases h;rename_i u;split at h;cases h;rename_i y;split at h;cases h;rename_i z;split at h;cases h;rename_i C;rw[jX]at d q u y z C;simp only[Db,tw,tz,not_or]at d q u y z C;cases D:q0 b with
 |false=>simp
 |true=>
  have D:=jX.1 D;simp_all
theorem anN{b:O}(h:q0 b=false)(y:kJ b=false):lZ b=false:=lU.2 λq=>by
 have u:∀x,kJ x=true->b≠x:=λx z e=>by grind
 have d:=lU.1 h;simp only[qL,Db,tw,tz]at q d;rcases q with g|g|g|g|g|g|g|g|g|g|g|g|g|g|g|g|g|g
 all_goals first|exact u _ (by decide+kernel) g|exact d (by simp[g])
def zL{b:O}(d:lZ a=false)(h:yS a b=true)(q:kJ b=false):lZ b=false\/b=fQ:=(MV d h).imp (λg=>anN g q) id
theorem Y5(h:lZ s=false):kJ s=false:=by
 cases hv:kJ s with
 |false=>rfl
 |true=>
  rw[Qp]at hv;have:=Mt hv;simp[dj]at this;rcases this with rfl|rfl|rfl|rfl|rfl|rfl<;>exact absurd h (by decide+kernel)
def rH(gG:lu):Prop:=(gG.map (·.1)).Nodup/\∀a∈gG,0<a.1.size
def dJ(σ:N)(i:Nat)(a:O):Nd->Prop
 | .el j=>∃ej,σ.gU j=some ej/\if i=0 then ej.name=fN else yS a ej.name=true/\kJ a=false
 | .tx _=>i≠0/\kJ a=false
 | .cm _=>i≠0->kJ a=false
 | .dt _=>i=0
def lV(σ:N):Nd->Option O
 | .el j=>if Fs (σ.nm j)then some (σ.nm j)else none
 |_=>none
def wO(σ:N)(ks:List Nd):List O:=ks.filterMap (lV σ)
structure TI(U:jj)(H:Nat->List O)(σ:N):Prop where
 uh:∀i e,σ.gU i=some e->e.name=fN->U=some i
 Fq:∀i e,σ.gU i=some e->∀k∈e.kids,dJ σ i e.name k
 hb:∀i e,σ.gU i=some e->wO σ e.kids=H i
 hz:∀i,σ.gU i=none->H i=[]
 gG:∀i e,σ.gU i=some e->rH e.gR/\e.name≠uG
 tx:∀(i:Nat)(s:O),σ.nodes[i]?=some (A8.tx s)->0<s.size
 wA:(σ.gU 0).isSome=true
def Nx(σ σ':N):Prop:=∀i e,σ.gU i=some e->∃d,σ'.gU i=some d/\d.name=e.name
theorem N.vi(h:σ.gU i=some e):σ.nm i=e.name:=by unfold N.nm;rw[h]
theorem Nx.nm(h:Nx σ σ')(hi:(σ.gU i).isSome=true):σ'.nm i=σ.nm i:=by
 have⟨e,he⟩:=Option.isSome_iff_exists.1 hi;have⟨e',h1,h2⟩:=h i e he;grind[N.nm]
theorem dJ.nx(h:Nx σ σ'){k:Nd}(d:dJ σ i a k):dJ σ' i a k:=by
 cases k with
 |el j=>
  have⟨ej,h1,h2⟩:=d;have⟨e',h3,h4⟩:=h j ej h1;grind[dJ]
 |_=>exact d
def US{α q:Type}{f g:α->Option q}:∀{l:List α},(∀x∈l,f x=g x)->l.filterMap f=l.filterMap g
 |[],_=>rfl
 |a::l,h=>by
  rw[List.filterMap_cons,List.filterMap_cons,h a (N1 ..),US λx d=>h x (abv _ d)]
theorem Mu(h:Nx σ σ')(q:∀k∈ks,dJ σ i a k):wO σ' ks=wO σ ks:=by
 refine US λk u=>?_;have d:=q k u;cases k with
 |el j=>
  have⟨ej,h2,_⟩:=d;show(if Fs _ then some _ else none)=if Fs _ then some _ else none
  grind[Nx.nm]
 |_=>rfl
theorem Nx.set{σ:N}{i:Nat}{e e0:wN}(d:σ.gU i=some e0)(u:e.name=e0.name):Nx σ (σ.gW i e):=λj q h=>by
 by_cases e1:j=i;subst e1;rw[d]at h;cases h;exact⟨e,N.jc (N.io d),u⟩;exact⟨q,by grind[N.gU,N.gW],rfl⟩
theorem Nx.add{σ:N}{n:A8}:Nx σ (σ.add n):=λj d h=>⟨d,by grind[N.gU,N.add],rfl⟩
theorem Nx.same(h:σ'.nodes=σ.nodes):Nx σ σ':=λj d q=>⟨d,by grind[N.gU],rfl⟩
theorem TI.same(h:TI U H σ)(e:σ'.nodes=σ.nodes):TI U H σ':=by
 have e1:∀i,σ'.gU i=σ.gU i:=λi=>by unfold N.gU;rw[e]
 refine⟨λi a hi=>h.uh i a (by grind),λi a hi k d=>(h.Fq i a (by grind) k d).nx (Nx.same e),λi a hi=>?_,λi hi=>h.hz i (by grind),λi a hi=>h.gG i a (by grind),λi s hi=>h.tx i s (by grind),by grind[wA]⟩;rw[e1]at hi;rw[Mu (Nx.same e) (h.Fq i a hi)];grind[hb]
theorem TI.anU{H':Nat->List O}(h:TI U H σ){e0:wN}(F:σ.gU i=some e0)(I:e.name=e0.name)(hk:∀k∈e.kids,dJ σ i e.name k)(hb:wO σ e.kids=H' i)(K:∀x,x≠i->H' x=H x)(ha:rH e.gR):TI U H' (σ.gW i e):=by
 have z:=N.io F;have n:Nx σ (σ.gW i e):=Nx.set F I;have C:∀{j d},(σ.gW i e).gU j=some d->(j=i/\d=e)\/(j≠i/\σ.gU j=some d):=λ{j d} q=>by
  by_cases e1:j=i;subst e1;rw[N.jc z]at q;grind;rw[N.iK e1]at q;grind
 refine⟨λj d q D=>?_,λj d q k y=>?_,λj d q=>?_,λj u=>?_,λj d q=>?_,λj s u=>?_,?_⟩;rcases C q with⟨rfl,rfl⟩|⟨_,g⟩;exact h.uh _ _ F (I▸D);exact h.uh j d g D;rcases C q with⟨rfl,rfl⟩|⟨_,g⟩;exact(hk k y).nx n;exact(h.Fq j d g k y).nx n;rcases C q with⟨rfl,rfl⟩|⟨D,g⟩;rw[Mu n hk];exact hb;rw[Mu n (h.Fq j d g),K j D];exact h.hb j d g;by_cases e1:j=i;subst e1;rw[N.jc z]at u;cases u;rw[N.iK e1]at u;rw[K j e1];exact h.hz j u;rcases C q with⟨rfl,rfl⟩|⟨_,g⟩;exact⟨ha,by rw[I];exact(h.gG _ _ F).2⟩;exact h.gG j d g;rcases N.oP u with⟨_,g⟩|⟨_,g⟩;cases g;exact h.tx j s g;by_cases e1:0=i;grind[N.gU,N.gW];rw[N.iK e1];exact h.wA
theorem TI.set{U:jj}{H:Nat->List O}{σ:N}(h:TI U H σ){i:Nat}{e e0:wN}(d:σ.gU i=some e0)(y:e.name=e0.name)(x:∀k∈e.kids,dJ σ i e.name k)(u:wO σ e.kids=H i)(q:rH e.gR):TI U H (σ.gW i e):=h.anU d y x u (λ_ _=>rfl) q
theorem TI.am6(h:TI U H σ){n:A8}(z:∀e,n=.el e->e.kids=[]/\(rH e.gR/\e.name≠uG)/\(e.name=fN->U=some σ.nodes.length))(D:∀s,n=.tx s->0<s.size):TI U H (σ.add n):=by
 have x:Nx σ (σ.add n):=Nx.add;have C:σ.gU σ.nodes.length=none:=by unfold N.gU;rw[zp (ic _)]
 refine⟨λj q d y=>?_,λj q d k u=>?_,λj q d=>?_,λj d=>?_,λj q d=>?_,λj s d=>?_,?_⟩;rcases N.ze d with⟨_,g⟩|⟨rfl,g⟩;exact h.uh j q g y;grind;rcases N.ze d with⟨_,g⟩|⟨_,g⟩;exact(h.Fq j q g k u).nx x;grind;rcases N.ze d with⟨_,g⟩|⟨rfl,g⟩;rw[Mu x (h.Fq j q g)];exact h.hb j q g;rw[(z _ g).1,h.hz _ C];rfl;by_cases e1:j<σ.nodes.length;rw[N.tW e1]at d;exact h.hz j d;exact h.hz j (by grind[N.gU]);rcases N.ze d with⟨_,g⟩|⟨_,g⟩;exact h.gG j q g;grind;unfold N.add at d;by_cases e1:j<σ.nodes.length;rw[ahv e1]at d;exact h.tx j s d;grind;have⟨e,h0⟩:=Option.isSome_iff_exists.1 h.wA;grind[N.gU,N.add]
theorem TI.add{U:jj}{H:Nat->List O}{σ:N}(h:TI U H σ){n:A8}(d:∀e,n=.el e->e.kids=[]/\(rH e.gR/\e.name≠uG)/\e.name≠fN)(q:∀s,n=.tx s->0<s.size):TI U H (σ.add n):=h.am6 (λe g=>⟨(d e g).1,(d e g).2.1,by grind⟩) q
def N.ns(σ:N):List O:=σ.gq.map σ.mu
def du:Option O->O->Prop
 |none,b=>b=fN
 |some a,b=>yS a b=true/\kJ b=false
def KZ:Option O->List O->Prop
 |_,[]=>True
 |p,b::l=>du p b/\KZ (some b) l
def yl:Option O->List O->Option O
 |p,[]=>p
 |_,b::l=>yl (some b) l
theorem uP:∀{d:List O} {p:Option O} {h:List O},KZ p (d++h)↔KZ p d/\KZ (yl p d) h
 |[],p,h=>by grind[KZ,yl]
 |b::d,p,h=>by rw[yF,KZ,KZ,uP,yl,and_assoc]
theorem uc:∀{l:List O} {p:Option O} {b:O},yl p (l++[b])=some b
 |[],_,_=>rfl
 |a::l,p,b=>uc (l:=l)
theorem Qu:lZ fN=true:=by decide+kernel
theorem Dp(a:O):yS a fQ=true:=by
 unfold yS;simp[show gO [(fN)] (fQ)=false by decide+kernel,show gO [(fY),(fR)] (fQ)=false by decide+kernel,show gO [(gN)] (fQ)=false by decide+kernel,show gO [(ig),(ij)] (fQ)=false by decide+kernel,show gO [(fW),(fX),(fV),(fZ),(fS)] (fQ)=false by decide+kernel,show gO [(gS)] (fQ)=false by decide+kernel]
theorem Ze{b:O}(h:lZ b=false\/b=fQ)(a:O):yS a b=true:=h.elim (λh=>GD h a) (λh=>by grind[Dp])
def anF{b:O}(h:lZ b=false\/b=fQ):kJ b=false:=h.elim Y5 λh=>by rw[h];decide+kernel
def X4:∀{l:List O} {p:Option O},KZ p l->∀b∈l,kJ b=false
 |[],_,_,_,h=>by cases h
 |a::l,p,h,b,d=>by
  rcases List.mem_cons.1 d with rfl|d;cases p with
  |none=>rw[h.1];decide+kernel
  |some _=>exact h.1.2
  exact X4 h.2 b d
def VL{p:Option O}{b:O}(q:du p a)(d:lZ a=false)(h:lZ b=false\/b=fQ):du p b:=by
 cases p with
 |none=>rw[q,Qu]at d;cases d
 |some x=>exact⟨Ze h x,anF h⟩
theorem Py{l1 d:List O}{p:Option O}{e:O}(h:KZ p (l1++e::d))(q:lZ e=false):KZ p (l1++d):=by
 rw[uP]at h|-;refine⟨h.1,?_⟩;have⟨h1,h2⟩:=h.2;cases d with
 |nil=>trivial
 |cons b l3=>exact⟨VL h1 q (zL q h2.1.1 h2.1.2),h2.2⟩
def X3{l1 d:List O}{p:Option O}{b e:O}(h:KZ p (l1++b::d))(u:lZ b=false)(q:lZ e=false):KZ p (l1++b::e::d):=by
 rw[uP]at h|-;refine⟨h.1,h.2.1,⟨GD q b,Y5 q⟩,?_⟩;cases d with
 |nil=>trivial
 |cons c l3=>exact⟨⟨Ze (zL u h.2.2.1.1 h.2.2.1.2) e,h.2.2.1.2⟩,h.2.2.2⟩
def Ic:∀{l:List O} {a:O},KZ (some a) l->lZ a=false->(∀c∈l,c≠fQ)->∀c∈l,lZ c=false
 |[],_,_,_,_,c,h=>by cases h
 |b::l,a,h,ha,hb,c,d=>by
  have q:=(zL ha h.1.1 h.1.2).resolve_right (hb b (N1 ..));rcases List.mem_cons.1 d with rfl|d;exact q;exact Ic h.2 q (λc d=>hb c (abv _ d)) c d
theorem aau(h:∀c∈l,lZ c=false):l.filter lZ=[]:=List.filter_eq_nil_iff.2 λc d=>by grind
structure Pm where
 U:jj
 H:Nat->List O
 Q:List O
 mo:Nat×Nat×Bool
def BG(σ:N)(i:Nat):Prop:=i≠0/\∃e,σ.gU i=some e/\lZ e.name=false
def dl(σ:N)(i:Nat):Prop:=i≠0/\iV σ i fY
structure FI(p:Pm)(X:List Nat)(σ:N):Prop where
 ti:TI p.U p.H σ
 ch:KZ none σ.ns
 q:σ.ns.filter lZ=p.Q
 op:∀x∈σ.gq,∃i,x=some i/\i≠0/\(σ.gU i).isSome=true
 nd:σ.gq.Nodup
 act:∀i,some i∈σ.act->BG σ i
 xs:∀i∈X,BG σ i
 form:∀i,σ.form=some i->BG σ i
 head:∀i,σ.head=some i->dl σ i
 wt:∀x∈σ.waiting,0<x.2.2.size
 mo:(σ.mode,σ.kept,σ.im)=p.mo
def kh{α:Type}(R:α->N->Prop):qQ α->Prop
 | .ok a σ=>R a σ
 |_=>True
def Tr{α:Type}(P:N->Prop)(m:M α)(R:α->N->Prop):Prop:=∀σ,P σ->kh R (m σ)
theorem Tr.bind{α u:Type}{P:N->Prop}{m:M α}{R:α->N->Prop}{f:α->M u}{S:u->N->Prop}(h:Tr P m R)(x:∀a,Tr (R a) (f a) S):Tr P (m>>=f) S:=by
 intro σ d;have q:=h σ d;rw[M.gw];cases hm:m σ with
 |ok a σ'=>rw[hm]at q;exact x a σ' q
 |_=>trivial
theorem Tr.pure{α:Type}{P:N->Prop}{a:α}{R:α->N->Prop}(h:∀σ,P σ->R a σ):Tr P (Pure.pure a:M α) R:=λσ d=>h σ d
theorem kh.mono{α:Type}{R d:α->N->Prop}{r:qQ α}(h:kh R r)(q:∀a σ,R a σ->d a σ):kh d r:=by
 cases r with
 |ok a σ'=>exact q a σ' h
 |_=>trivial
theorem Tr.cons{α:Type}{P q:N->Prop}{m:M α}{R u:α->N->Prop}(h:Tr P m R)(x:∀σ,q σ->P σ)(y:∀a σ,R a σ->u a σ):Tr q m u:=λσ d=>(h σ (x σ d)).mono y
theorem Tr.stuck{α:Type}{P:N->Prop}{R:α->N->Prop}:Tr P (stuck:M α) R:=λ_ _=>trivial
theorem Tr.ite{α:Type}{c:Prop}[Decidable c]{P:N->Prop}{a b:M α}{R:α->N->Prop}(d:c->Tr P a R)(h:¬c->Tr P b R):Tr P (if c then a else b) R:=by
 grind
def Fp{α:Type}(m:M α):Prop:=∀p X,Tr (FI p X) m (λ_=>FI p X)
theorem Fp.pure{α:Type}(a:α):Fp (Pure.pure a:M α):=λ_ _=>Tr.pure λ_ h=>h
theorem Fp.stuck{α:Type}:Fp (stuck:M α):=λ_ _=>Tr.stuck
theorem Fp.bind{α q:Type}{m:M α}{f:α->M q}(h:Fp m)(d:∀a,Fp (f a)):Fp (m>>=f):=λp X=>Tr.bind (h p X) λa=>d a p X
theorem Fp.ite{α:Type}{c:Prop}[Decidable c]{a b:M α}(d:Fp a)(h:Fp b):Fp (if c then a else b):=by grind
theorem Fp.at{α:Type}{m:M α}(h:Fp m){p:Pm}(d:FI p X σ):kh (λ_=>FI p X) (m σ):=h p X σ d
attribute [simp] Fp.pure Fp.stuck Fp.bind Fp.ite
theorem BG.nx(h:Nx σ σ')(hi:BG σ i):BG σ' i:=by
 have⟨h0,e,h1,h2⟩:=hi;have⟨e',h3,h4⟩:=h i e h1;grind[BG]
theorem iV.nx(h:Nx σ σ')(hi:iV σ i s):iV σ' i s:=by
 have⟨e,h1,h2⟩:=hi;have⟨e',h3,h4⟩:=h i e h1;grind[iV]
theorem dl.nx(hi:dl σ i)(h:Nx σ σ'):dl σ' i:=⟨hi.1,hi.2.nx h⟩
def akM(h:Nx σ σ')(q:σ'.gq=σ.gq)(d:∀x∈σ.gq,∃i,x=some i/\i≠0/\(σ.gU i).isSome=true):σ'.ns=σ.ns:=by
 unfold N.ns;rw[q];refine NU λx u=>?_;obtain⟨i,rfl,_,hi⟩:=d x u;exact h.nm hi
theorem FI.tree{p d:Pm}(h:FI p X σ)(z:TI d.U d.H σ')(n:Nx σ σ')(e1:σ'.gq=σ.gq)(e2:σ'.act=σ.act)(C:σ'.form=σ.form)(D:σ'.head=σ.head)(u:σ'.waiting=σ.waiting)(F:σ'.mode=σ.mode)(I:σ'.kept=σ.kept)(K:σ'.im=σ.im)(eQ:d.Q=p.Q)(em:d.mo=p.mo):FI d X σ':=by
 have e:=akM n e1 h.op;refine⟨z,by grind[ch],by grind[q],λx hx=>?_,by grind[nd],λi hi=>?_,λi hi=>(h.xs i hi).nx n,λi hi=>(h.form i (by grind)).nx n,λi hi=>(h.head i (by grind)).nx n,by rw[u];exact h.wt,by grind[mo]⟩;obtain⟨i,rfl,h0,y⟩:=h.op x (by grind);have⟨e',he⟩:=Option.isSome_iff_exists.1 y;have⟨e2,h3,_⟩:=n i e' he;grind;grind[BG.nx,act]
theorem FI.nodes{p:Pm}(h:FI p X σ)(C:TI p.U p.H σ')(n:Nx σ σ')(e1:σ'.gq=σ.gq)(e2:σ'.act=σ.act)(d:σ'.form=σ.form)(q:σ'.head=σ.head)(u:σ'.waiting=σ.waiting)(x:σ'.mode=σ.mode)(y:σ'.kept=σ.kept)(z:σ'.im=σ.im):FI p X σ':=h.tree C n e1 e2 d q u x y z rfl rfl
theorem FI.lists{p d:Pm}(h:FI p X σ)(q:σ'.nodes=σ.nodes)(y:d.U=p.U)(u:d.H=p.H)(C:KZ none σ'.ns)(hq:σ'.ns.filter lZ=d.Q)(ho:∀x∈σ'.gq,∃i,x=some i/\i≠0/\(σ.gU i).isSome=true)(D:σ'.gq.Nodup)(z:∀i,some i∈σ'.act->BG σ i)(F:∀i,σ'.form=some i->BG σ i)(I:∀i,σ'.head=some i->dl σ i)(hw:∀x∈σ'.waiting,0<x.2.2.size)(K:(σ'.mode,σ'.kept,σ'.im)=d.mo):FI d X σ':=by
 have n:=Nx.same q;have e1:∀i,σ'.gU i=σ.gU i:=λi=>by unfold N.gU;rw[q]
 exact⟨by rw[y,u];exact h.ti.same q,C,hq,by grind,D,λi hi=>(z i hi).nx n,λi hi=>(h.xs i hi).nx n,λi hi=>(F i hi).nx n,λi hi=>(I i hi).nx n,hw,K⟩
theorem ai4(d:σ'.nodes=σ.nodes):σ'.mu=σ.mu:=by
 funext x
 cases x with
 |none=>rfl
 |some i=>show σ'.nm i=σ.nm i;grind[N.nm,N.gU]
theorem FI.lf{p d:Pm}(h:FI p X σ)(u:σ'.nodes=σ.nodes)(y:σ'.gq=σ.gq)(D:d.U=p.U)(z:d.H=p.H)(C:d.Q=p.Q)(F:∀x,x∈σ'.act->x∈σ.act)(I:∀i,σ'.form=some i->BG σ i)(K:σ'.head=σ.head)(hw:∀x∈σ'.waiting,0<x.2.2.size)(hm:(σ'.mode,σ'.kept,σ'.im)=d.mo):FI d X σ':=by
 have e:σ'.ns=σ.ns:=by unfold N.ns;rw[ai4 u,y]
 grind[lists,ch,q,op,nd,act,head]
theorem FI.gq{p:Pm}(h:FI p X σ){o:kY}(d:KZ none (o.map σ.mu))(y:(o.map σ.mu).filter lZ=p.Q)(u:∀x∈o,x∈σ.gq\/∃i,x=some i/\i≠0/\(σ.gU i).isSome=true)(q:o.Nodup):FI p X {σ with gq:=o}:=
 h.lists rfl rfl rfl d y (λx z=>(u x z).elim (h.op x) id) q h.act h.form h.head h.wt h.mo
theorem agA(h:0<=pa ks (Nd.gZ i)):Nd.el i∈ks:=by
 unfold pa at h;split at h;rename_i hl;have d:=List.findIdx_getElem (w:=hl);have q:=wK hl;revert d q;generalize ks[ks.findIdx _]=k;intro d q;cases k with
 |el j=>
   have:=by simpa [Nd.gZ]using d
   grind
 |_=>cases d
 omega
def dN{α:Type}(p:Pm)(X:List Nat)(d8:α->Nat)(a:α)(σ:N):Prop:=FI p X σ/\d8 a≠0/\σ.gq≠[]/\kJ (σ.nm (d8 a))=false
theorem FI.o0{p:Pm}(h:FI p X σ)(hi:some i∈σ.gq):i≠0/\(σ.gU i).isSome=true:=by
 grind[op]
theorem FI.ov{p:Pm}(h:FI p X σ)(hi:some i∈σ.gq):kJ (σ.nm i)=false:=X4 h.ch _ (List.mem_map.2 ⟨_,hi,rfl⟩)
theorem aar{p:Pm}(h:FI p X σ)(hi:i≠0)(d:σ.gq≠[])(q:kJ (σ.nm i)=false):kh (dN p X Prod.fst) (jg i σ):=by
 grind[kh,dN,jg]
theorem F7{xs:kY}{n:Int}(h:iC xs n=some i):xs≠[]:=λe=>by have:=nY h;grind
theorem YC{p:Pm}(h:FI p X σ)(hi:some i∈σ.gq)(C:σ.nm i=fQ):kh (dN p X Prod.fst) (mG i σ):=by
 have u:σ.gq≠[]:=λe=>by grind
 unfold mG;split;rename_i e z;split;split;rename_i q _ _ x d;split;rename_i y;have⟨ej,h1,h2⟩:=h.ti.Fq q x d _ (agA y);have g:q≠0:=λg=>by
  grind[N.vi]
 rw[Xx g]at h2;exact⟨h,g,u,by grind[N.nm]⟩;trivial;trivial;split;rename_i q d;exact aar h (h.o0 (nY d)).1 u (h.ov (nY d));trivial;trivial
theorem Oy{p:Pm}(h:FI p X σ):kh (dN p X Prod.fst) (j7 σ):=by
 unfold j7;split;split;rename_i i hi;have⟨h1,_,h3⟩:=B8 hi;exact YC h (List.mem_reverse.1 h1) (sA.1 h3);trivial;split;rename_i q d;exact aar h (h.o0 (nY d)).1 (F7 d) (h.ov (nY d));trivial;trivial
theorem M5{p:Pm}(h:FI p X σ)(hi:i≠0)(d:σ.gq≠[])(q:kJ (σ.nm i)=false):kh (dN p X Prod.fst) (placeFor i σ):=by
 grind[Oy,placeFor,kh,dN,jg]
def zM{p:Pm}:Tr (FI p X) ky (dN p X Prod.fst):=λσ h=>by
 unfold ky;split;rename_i i hi;exact M5 h (h.o0 (wF hi)).1 (F7 hi) (h.ov (wF hi));trivial
theorem Ga{k:Nd}(h:lV σ k=none):wO σ (ins ks n k)=wO σ ks:=by
 grind[List.take_append_drop,wO,ins]
theorem TI.put{H':Nat->List O}(h:TI U H σ)(hi:σ.gU i=some ei)(z:σ.gU j=some ej)(y:j≠i)(F:if i=0 then ej.name=fN else yS ei.name ej.name=true/\kJ ei.name=false)(D:wO σ (ins ei.kids n (.el j))=H' i)(C:∀x,x≠i->H' x=H x):TI U H' ((σ.gW i {ei with kids:=ins ei.kids n (.el j)}).gW j {ej with ji:=some i}):=by
 have u:TI U H' (σ.gW i {ei with kids:=ins ei.kids n (.el j)}):=h.anU hi rfl (λk q=>by
  rcases Dm.1 q with rfl|q;exact⟨ej,z,F⟩;exact h.Fq i ei hi k q) D C (h.gG i ei hi).1
 have d:(σ.gW i {ei with kids:=ins ei.kids n (.el j)}).gU j=some ej:=by rw[N.iK y];exact z
 exact u.set d rfl (u.Fq j ej d) (u.hb j ej d) (h.gG j ej z).1
theorem Nx.trans{a b c:N}(h:Nx a b)(k:Nx b c):Nx a c:=λi e d=>by
 have⟨e1,h1,h2⟩:=h i e d;have⟨e2,h3,h4⟩:=k i e1 h1;grind
theorem Cq(hi:σ.gU i=some ei)(h:σ.gU j=some ej)(d:j≠i):Nx σ ((σ.gW i {ei with kids:=ins ei.kids n (.el j)}).gW j {ej with ji:=some i}):=
 Nx.trans (b:=σ.gW i {ei with kids:=ins _ n _}) (Nx.set hi rfl) (Nx.set (e0:=ej) (by grind[N.iK]) rfl)
theorem Dh(d:σ.gU j=some ej)(h:Fs ej.name=false):lV σ (.el j)=none:=by
 show(if Fs _ then some _ else none)=none;grind[N.nm]
theorem aaS(h:q0 s=false):Fs s=false:=lU.2 λd=>lU.1 h (by grind)
def anB(h:lZ s=false):Fs s=false:=aaS (fc h)
def dk(σ:N)(j:Nat):Prop:=∃e,σ.gU j=some e/\q0 e.name=false
def FI.f0{p:Pm}(h:FI p X σ)(d:j∈X):dk σ j:=by
 have⟨_,e,g1,g2⟩:=h.xs j d;exact⟨e,g1,fc g2⟩
theorem Dq{p:Pm}(x:dk σ j)(h:FI p X σ)(y:pl.1≠0)(z:kJ (σ.nm pl.1)=false):kh (λ_ σ'=>FI p X σ'/\σ'.gq=σ.gq) (kD pl j σ):=by
 unfold kD;split;rename_i ei ej q d;split;rename_i u;have⟨e,g1,g2⟩:=x;rw[d]at g1;cases g1;exact⟨h.nodes (h.ti.put q d u.1 (by grind[Zd,N.vi]) (by rw[Ga (Dh d (aaS g2))];exact h.ti.hb _ _ q) (λ_ _=>rfl)) (Cq q d u.1) rfl rfl rfl rfl rfl rfl rfl rfl,rfl⟩;trivial;trivial
theorem aa0{p:Pm}{k:Nd}(u:(∃j,k=.cm j)\/(∃j,k=.dt j)/\pl.1=0)(h:FI p X σ)(y:∀e,σ.gU pl.1=some e->pl.1≠0->kJ e.name=false):kh (λ_ σ'=>FI p X σ'/\σ'.gq=σ.gq) (vk pl k σ):=by
 unfold vk;split
 .rename_i ei d;split
  .refine⟨h.nodes (h.ti.set d rfl (λx q=>?_) (by rw[Ga (by rcases u with⟨j,rfl⟩|⟨⟨j,rfl⟩,_⟩<;>rfl)];exact h.ti.hb _ _ d) (h.ti.gG _ _ d).1) (Nx.set d rfl) rfl rfl rfl rfl rfl rfl rfl rfl,rfl⟩;rcases Dm.1 q with rfl|q;grind[dJ];exact h.ti.Fq _ _ d x q
  trivial
 trivial
def am9(a b:O):(a++b).size=a.size+b.size:=by simp
theorem TI.np(h:TI U H σ){t:Nat}{d:O}(x:σ.nodes[t]?=some (.tx d))(hs:0<s.size):TI U H (σ.np t s)/\Nx σ (σ.np t s):=by
 have e:∀i,(σ.np t s).gU i=σ.gU i:=λi=>N.tr x i;have n:Nx σ (σ.np t s):=λi a y=>⟨a,by grind,rfl⟩;refine⟨⟨λi a hi=>h.uh i a (by grind),λi a hi k q=>(h.Fq i a (by grind) k q).nx n,λi a hi=>?_,λi hi=>h.hz i (by grind),λi a hi=>h.gG i a (by grind),λi u hi=>?_,by grind[wA]⟩,n⟩;rw[e]at hi;rw[Mu n (h.Fq i a hi)];grind[hb];unfold N.np at hi;grind[tx]
theorem Zq{p:Pm}(hs:0<s.size)(h:FI p X σ)(z:pl.1≠0)(D:kJ (σ.nm pl.1)=false):kh (λ_=>FI p X) (qV pl s σ):=by
 unfold qV;split;rename_i ei d;split;split;split;rename_i q C;split;have⟨g1,g2⟩:=h.ti.np C (s:=q++s) (by grind);exact h.nodes g1 g2 rfl rfl rfl rfl rfl rfl rfl rfl;trivial;trivial;have g:=h.ti.add (n:=.tx s) (λ_ h=>by cases h) (λ_ h=>by grind);have u:(σ.add (.tx s)).gU pl.1=some ei:=by rw[N.tW (N.io d)];exact d
 refine h.nodes (g.set u rfl (λx y=>?_) (by rw[Ga rfl];grind[TI.hb]) (h.ti.gG _ _ d).1) (Nx.add.trans (Nx.set u rfl)) rfl rfl rfl rfl rfl rfl rfl rfl;rcases Dm.1 y with rfl|y;exact⟨z,by grind[N.vi]⟩;grind[TI.Fq];trivial;trivial
end
end Go.Proofs.YtdbbknopdbpfaaaGreatDoor
