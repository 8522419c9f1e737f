/-
  Parts of the proof.
-/
import Derived.Test.YticfnglebbakkaaGreatDoorAgainProofB17
import Derived.Test.YticfnglebbakkaaGreatDoorAgainProofB15
import Derived.Test.YticfnglebbakkaaGreatDoorAgainProofB10
import Derived.OwnWalk
import Derived.Laws.MakeOwn
import Derived.Test.YticfnglebbakkaaGreatDoorAgainProofB13
import Derived.Test.YticfnglebbakkaaGreatDoorAgainProofB0
set_option maxRecDepth 100000
set_option maxHeartbeats 8000000
namespace Go.Proofs.YticfnglebbakkaaGreatDoor
open Go Go.RowKit
theorem aK7 (a0 a1 a2 a3 a4 a5 : Value) (w : World) : (method 359 134 (.agg #[a0, a1, a2, a3, a4, a5]) "dredge/parse.within").run Tryz.prog w = .ok (237, .agg #[a0, a1, a2, a3, a4, a5]) w := by kernel_rfl
theorem aA2 (a0 a1 : Value) (w : World) : (method 359 136 (.agg #[a0, a1]) "dredge/parse.within").run Tryz.prog w = .ok (238, .agg #[a0, a1]) w := by kernel_rfl
theorem aA1 (a0 a1 a2 : Value) (w : World) : (method 359 139 (.agg #[a0, a1, a2]) "dredge/parse.within").run Tryz.prog w = .ok (239, .agg #[a0, a1, a2]) w := by kernel_rfl
theorem aS3 (a0 : Value) (w : World) : (method 359 141 (.agg #[a0]) "dredge/parse.within").run Tryz.prog w = .ok (240, .agg #[a0]) w := by kernel_rfl
theorem wY (a0 : Value) (w : World) : (method 359 130 (.agg #[a0]) "dredge/parse.within").run Tryz.prog w = .ok (236, .agg #[a0]) w := by kernel_rfl
theorem aM5(u:Value)(w:World):(callFunc 237 #[u]).run Tryz.prog w=.ok (.enter 237 #[u]) w:=by kernel_rfl
theorem aC6(u:Value)(w:World):(callFunc 238 #[u]).run Tryz.prog w=.ok (.enter 238 #[u]) w:=by kernel_rfl
theorem aC5(u:Value)(w:World):(callFunc 239 #[u]).run Tryz.prog w=.ok (.enter 239 #[u]) w:=by kernel_rfl
theorem aX3(u:Value)(w:World):(callFunc 240 #[u]).run Tryz.prog w=.ok (.enter 240 #[u]) w:=by kernel_rfl
theorem yC(u:Value)(w:World):(callFunc 236 #[u]).run Tryz.prog w=.ok (.enter 236 #[u]) w:=by kernel_rfl
def bP0(base:Nat)(N:Nat->Prop)(W:World)(x:Ps)(e:Ending)(w':World):Prop:=
 ∃ (q:Option Addr) (c:Nat) (vs:List Value),e=.returned (.slice q x.kids.length c)/\Below W.heap.size W w'/\vs.length=x.kids.length/\(∀ (i:Nat) (u:Value),vs[i]?=some u->∃ g,q=some ⟨g,0,none⟩/\g < w'.heap.size/\w'.cell? ⟨g,i,none⟩=some u) /\
  ∀ (i:Nat) (y:Ps) (u:Value),x.kids[i]?=some y->vs[i]?=some u->PV base N w' y u
def Win(base:Nat)(N:Nat->Prop)(W:World)(x:Ps)(v:Value):Prop:=
 ∃ (T : TypeId) (u : Value) (F : FuncId), v = .iface T u ∧ (∀ w, (method 359 T u "dredge/parse.within").run Tryz.prog w = .ok (F, u) w) ∧ (∀ w, (callFunc F #[u]).run Tryz.prog w = .ok (.enter F #[u]) w) ∧ Calls Tryz.prog F #[u] W (bP0 base N W x)
theorem vC{base:Nat}{N:Nat->Prop}{W:World}{x:Ps}{v:Value}(h:PV base N W x v):Win base N W x v:=by
 cases h with
 | lf k n rs q c h hf hl=>
  refine⟨_,_,_,rfl,aK7 _ _ _ _ _ _,aM5 _,?_⟩
  go_enter Tryz.func237,Tryz.ntmps237
  go_wp2
  go_ret
  exact⟨none,0,[],rfl,bz9,rfl,fun i u hu=>by simp at hu,fun i y u hy=>by simp [Ps.kids] at hy⟩
 | grp n y u h=>
  have HV:=aC h
  obtain⟨T,z,rfl⟩:=h.shape
  clear h
  refine⟨_,_,_,rfl,aA2 _ _,aC6 _,?_⟩
  go_enter Tryz.func238,Tryz.ntmps238
  go_wp2
  go_ret
  have B:Below W.heap.size W ((W.alloc (.cells #[.int .i64 (n:Int),.iface T z] 136)).alloc (.cells #[.iface T z] 75)):=(bz9).alloc (by simp) _
  have M:=aE (W.alloc (.cells #[.int .i64 (n:Int),.iface T z] 136)) (.cells #[.iface T z] 75)
  rw [World.size_alloc] at M
  refine⟨_,_,[.iface T z],rfl,B,rfl,fun i u hu=>?_,fun i y' u hy hu=>?_⟩
  ·match i,hu with
   | 0,hu=>simp at hu;subst hu;exact⟨_,rfl,aA M,aB M (i:=0) rfl⟩
  ·match i,hy,hu with
   | 0,hy,hu=>simp [Ps.kids] at hy hu;subst hy hu;exact HV.out.kept B
 | rep a b y u h=>
  have HV:=aC h
  obtain⟨T,z,rfl⟩:=h.shape
  clear h
  refine⟨_,_,_,rfl,aA1 _ _ _,aC5 _,?_⟩
  go_enter Tryz.func239,Tryz.ntmps239
  go_wp2
  go_ret
  have B:Below W.heap.size W ((W.alloc (.cells #[.int .i64 a,.int .i64 b,.iface T z] 139)).alloc (.cells #[.iface T z] 75)):=(bz9).alloc (by simp) _
  have M:=aE (W.alloc (.cells #[.int .i64 a,.int .i64 b,.iface T z] 139)) (.cells #[.iface T z] 75)
  rw [World.size_alloc] at M
  refine⟨_,_,[.iface T z],rfl,B,rfl,fun i u hu=>?_,fun i y' u hy hu=>?_⟩
  ·match i,hu with
   | 0,hu=>simp at hu;subst hu;exact⟨_,rfl,aA M,aB M (i:=0) rfl⟩
  ·match i,hy,hu with
   | 0,hy,hu=>simp [Ps.kids] at hy hu;subst hy hu;exact HV.out.kept B
 | row l vs q c hl h hN he=>
  refine⟨_,_,_,rfl,aS3 _,aX3 _,?_⟩
  have HO:=aC h
  have HE:=aC he
  have HLN:=aC hl
  clear h he hl hN
  go_enter Tryz.func240,Tryz.ntmps240
  go_wp2
  go_ret
  have B:Below W.heap.size W (W.alloc (.cells #[.slice q l.length c] 141)):=bz9
  have O:=aX HO.out (Fr.of_below (S:=fun _=>False) B) (fun _ _ z=>z)
  refine⟨q,c,vs,rfl,B,HLN.out,fun i u hu=>?_,fun i y' u hy hu=>(HE.out i y' u hy hu).kept B⟩
  obtain⟨g,c',e⟩:=aH O (by have:=(List.getElem?_eq_some_iff.1 hu).1;have:=HLN.out;omega)
  injection e with e1 _ e3
  subst e1 e3
  exact⟨g,rfl,(aG O rfl).2.1,bB O hu⟩
 | alt l vs q c hl h hN he=>
  refine⟨_,_,_,rfl,wY _,yC _,?_⟩
  have HO:=aC h
  have HE:=aC he
  have HLN:=aC hl
  clear h he hl hN
  go_enter Tryz.func236,Tryz.ntmps236
  go_wp2
  go_ret
  have B:Below W.heap.size W (W.alloc (.cells #[.slice q l.length c] 130)):=bz9
  have O:=aX HO.out (Fr.of_below (S:=fun _=>False) B) (fun _ _ z=>z)
  refine⟨q,c,vs,rfl,B,HLN.out,fun i u hu=>?_,fun i y' u hy hu=>(HE.out i y' u hy hu).kept B⟩
  obtain⟨g,c',e⟩:=aH O (by have:=(List.getElem?_eq_some_iff.1 hu).1;have:=HLN.out;omega)
  injection e with e1 _ e3
  subst e1 e3
  exact⟨g,rfl,(aG O rfl).2.1,bB O hu⟩
theorem kA(x:Ps):x.sz=eP x.kids+1:=by cases x <;> simp [Ps.sz,Ps.kids,eP]
theorem wE(x:Ps):x.dp=eQ x.kids+1:=by cases x <;> simp [Ps.dp,Ps.kids,eQ]
theorem oH(a b:List Ps):eP (a ++ b)=eP a+eP b:=by
 induction a with
 | nil=>rw [iW];simp
 | cons x a ih=>rw [List.cons_append,dU,dU,ih];omega
theorem wD(a b:List Ps):eQ (a ++ b)=max (eQ a) (eQ b):=by
 induction a with
 | nil=>simp [eQ]
 | cons x a ih=>simp only [List.cons_append,eQ,ih];omega
theorem aE8(a:List Ps)(h:∀ x∈a,x.dp<=x.sz):eQ a<=eP a:=by
 induction a with
 | nil=>simp [eQ]
 | cons x a ih=>
  have h1:=h x (List.mem_cons_self ..)
  have h2:=ih (fun y hy=>h y (List.mem_cons_of_mem _ hy))
  rw [eQ,eP]
  omega
theorem tV(x:Ps):x.dp<=x.sz:=by
 refine Ps.ind (P:=fun x=>x.dp<=x.sz) (fun x ih=>?_) x
 rw [wE,kA]
 have:=aE8 x.kids ih
 omega
theorem aK8{base:Nat}{N:Nat->Prop}:∀ (m:Nat) (x:Ps) (W:World) (v:Value),x.sz<=m->x.sz<=1000000->PV base N W x v ->
  Calls Tryz.prog 72 #[v] W fun e w'=>e=.returned (.tuple #[.int .i64 (x.sz:Int),.int .i64 (x.dp:Int)])/\Below W.heap.size W w':=by
 intro m
 induction m with
 | zero=>intro x W v hm;exact absurd (kS x) (by omega)
 | succ m ih=>
  intro x W v hm hsz h
  obtain⟨T,u,F,rfl,hmeth,hcf,hc⟩:=vC h
  have WC:=aC hc
  have IH:=aC ih
  clear ih h hc
  go_enter Tryz.func72,Tryz.ntmps72
  go_wp2_with ((with_reducible refine(WC.out).mono ?_);rintro e w5 ⟨q5,c5,vs,rfl,h1,h2,h3,h4⟩;have B5:=aC h1;have L5:=aC h2;have R5:=aC h3;have V5:=aC h4;clear h1 h2 h3 h4)
  have hk:=kA x
  have hd:=wE x
  obtain⟨n,hn⟩:∃ n,x.kids.length=n:=⟨_,rfl⟩
  have HN:=aC hn
  rw [hn]
  have hnl:n<=1000000:=by
   have:∀ l:List Ps,l.length<=eP l:=by
    intro l
    induction l with
    | nil=>simp
    | cons y l ih=>rw [dU,List.length_cons];have:=kS y;omega
   have:=this x.kids
   omega
  have HK:=aC hk
  have HD:=aC hd
  clear hn hk hd
  go_loopw [11,2,3] (fun i a d wr=>∃ j:Nat,j<=n/\i=.int .i64 (j:Int)/\a=.int .i64 (eP (x.kids.take j):Int)/\d=.int .i64 (eQ (x.kids.take j):Int)/\Below w5.heap.size w5 wr) (fun i _ _ _=>n - (intOf i).toNat)
  case atStart=>exact⟨0,Nat.zero_le _,rfl,by simp [eP],by simp [eQ],Below.refl _ _⟩
  case round=>
   obtain⟨j,hj,rfl,rfl,rfl,hb⟩:=hrel
   have HB:=aC hb
   clear hb
   by_cases hjn:j < n
   ·have i0:(j:Int) < (n:Int):=by omega
    obtain⟨y,hy⟩:∃ y,x.kids[j]?=some y:=⟨_,List.getElem?_eq_getElem (by have:=HN.out;omega)⟩
    obtain⟨uu,hu⟩:∃ uu,vs[j]?=some uu:=⟨_,List.getElem?_eq_getElem (by have:=HN.out;have:=L5.out;omega)⟩
    obtain⟨g,rfl,hg,hcell⟩:=R5.out j uu hu
    have hV:=(V5.out j y uu hy hu).kept HB.out
    obtain⟨T6,u6,rfl⟩:=hV.shape
    have cc:=(HB.out.cell (p:=⟨g,j,none⟩) hg).trans hcell
    have lg:g < wr.heap.size:=Nat.lt_of_lt_of_le hg HB.out.size
    have hym:y∈x.kids:=List.mem_of_getElem? hy
    have hys:=tS hym
    have MC:=aC (IH.out y wr (.iface T6 u6) (by omega) (by omega) hV)
    have e1:eP (x.kids.take (j+1))=eP (x.kids.take j)+y.sz:=by rw [List.take_add_one,hy,oH];simp [eP]
    have e2:eQ (x.kids.take (j+1))=max (eQ (x.kids.take j)) y.dp:=by rw [List.take_add_one,hy,wD];simp [eQ]
    have b1:eP (x.kids.take (j+1))<=1000000:=by
     have h1:=oH (x.kids.take (j+1)) (x.kids.drop (j+1))
     rw [List.take_append_drop] at h1
     have:=HK.out
     omega
    have b2:y.dp<=1000000:=by have:=tV y;omega
    have b3:eQ (x.kids.take j)<=1000000:=by have:=aE8 (x.kids.take j) (fun z _=>tV z);omega
    rw [e1] at b1
    have E1:=aC e1
    have E2:=aC e2
    clear e1 e2 hV hcell hu hy hym
    generalize eP (x.kids.take j)=A at *
    generalize eQ (x.kids.take j)=Bd at *
    go_wp2_with (go_at_call 72;(with_reducible refine(MC.out).mono ?_);rintro e w6 ⟨rfl,h1⟩;have B6:=aC h1;clear h1)
    go_roundw
    case rel=>exact⟨j+1,by omega,by go_num,by rw [E1.out];go_num,by rw [E2.out];congr 1;omega,aD HB.out B6.out lz9⟩
    case measure=>simp only [intOf];omega
   ·have i0:¬ (j:Int) < (n:Int):=by omega
    have e1:x.kids.take j=x.kids:=List.take_of_length_le (by have:=HN.out;omega)
    rw [e1]
    have hk:=HK.out
    have hd:=HD.out
    have hdl:=tV x
    have b1:eP x.kids+1<=1000000:=by omega
    have b2:eQ x.kids+1<=1000000:=by omega
    clear e1 hk hd hdl
    go_wp2
    refine bodyPost_ret (results_tmp2 rfl _ _ _) rfl ?_
    refine⟨?_,aD B5.out HB.out lz9⟩
    rw [HK.out,HD.out]
    rfl
structure RI5(s:ByteArray)(w:World)(k pos:Nat)(e:TypeId)(v:Value)(n:Nat)(L:List Value)(wr:World):Prop where
 lo:w.heap.size<=k
 it:wr.heap[k]?=some (.stringIter s pos)
 own:wr.ownsRow w.heap.size e 1 v n L
 bel:Below w.heap.size w wr
theorem RI5.len{s:ByteArray}{w wr:World}{k pos n:Nat}{e:TypeId}{v:Value}{L:List Value}(h:RI5 s w k pos e v n L wr):w.heap.size<=wr.heap.size:=h.bel.size
theorem zS{wr:World}{base k p p' n:Nat}{e:TypeId}{s:ByteArray}{v:Value}{L:List Value}(h:wr.ownsRow base e 1 v n L)(hk:wr.heap[k]?=some (.stringIter s p)):(wr.iterAt k s p').ownsRow base e 1 v n L:=by
 obtain⟨h1,h2 | ⟨g,cap,cur,q1,q2,q3,q4⟩⟩:=h
 ·exact⟨h1,.inl h2⟩
 ·refine⟨h1,.inr ⟨g,cap,cur,q1,q2,?_,q4⟩⟩
  rw [Lib.iterAt_other _ _ _ _ _ (fun q=>by rw [q,hk] at q3;cases q3)]
  exact q3
theorem RI5.next{s:ByteArray}{w wr:World}{k pos n:Nat}{e:TypeId}{v:Value}{L:List Value}(h:RI5 s w k pos e v n L wr)(p:Nat):RI5 s w k p e v n L (wr.iterAt k s p):=
 ⟨h.lo,Lib.iterAt_heap wr k s pos p h.it,zS h.own h.it,aA7 h.bel h.lo p⟩
theorem RI5.app{s:ByteArray}{w wr w6:World}{k pos n m:Nat}{e:TypeId}{v v':Value}{L M:List Value}{o:Obj}(h:RI5 s w k pos e v n L wr)(hown:w6.ownsRow w.heap.size e 1 v' m M)(hg:(wr.alloc o).grownBy w6 v.ownBlock):RI5 s w k pos e v' m M w6:=by
 have hk:=aA h.it
 refine⟨h.lo,?_,hown,?_⟩
 ·rw [hg.block k (by simp;omega) ?_,Below.heap_alloc _ _ _ hk]
  ·exact h.it
  ·intro q
   obtain⟨_,_,cur,hc⟩:=aG h.own q.symm
   rw [h.it] at hc;cases hc
 ·exact bK h.bel (((Fr.refl (fun z=>v.ownBlock=some z) wr).alloc _).grown hg (fun z hz=>hz)) lz9 (fun z hz=>(aG h.own hz).1)
def zT:Tr:=.mk (bare 0) []
theorem aA4(n:Nat):(madeCells (Value.agg #[.int .i64 0,.int .i64 0,.int .i64 0,.int .i64 0,.slice none 0 0,.slice none 0 0]).cells (n * 6)).toList=bL (List.replicate n zT):=by
 refine List.ext_getElem (by simp [madeCells,eH]) fun i h1 h2=>?_
 have hi:i < n * 6:=by simpa [madeCells] using h1
 have hc:(bL (List.replicate n zT))[i]?=zT.f.cells[i % 6]?:=by
  have:=jP (List.replicate n zT) (i / 6) (i % 6) zT (by rw [List.getElem?_replicate,if_pos (by omega)]) (Nat.mod_lt _ (by omega))
  rwa [show i / 6 * 6+i % 6=i by omega] at this
 have h3:(bL (List.replicate n zT))[i]?=some ((bL (List.replicate n zT))[i]):=List.getElem?_eq_getElem h2
 rw [hc] at h3
 have h4:i % 6 < 6:=Nat.mod_lt _ (by omega)
 have h5:((madeCells (Value.agg #[.int .i64 0,.int .i64 0,.int .i64 0,.int .i64 0,.slice none 0 0,.slice none 0 0]).cells (n * 6)).toList)[i]=#[.int .i64 0,.int .i64 0,.int .i64 0,.int .i64 0,.slice none 0 0,.slice none 0 0][i % 6]!:=by
  simp [madeCells,Value.cells]
 rw [h5]
 generalize i % 6=j at h3 h4
 match j,h4,h3 with
 | 0,_,h3=>injection h3
 | 1,_,h3=>injection h3
 | 2,_,h3=>injection h3
 | 3,_,h3=>injection h3
 | 4,_,h3=>injection h3
 | 5,_,h3=>injection h3
def FK(N:Nat->Prop)(t:Tr):Prop:=cK (fun t=>∀ a,t.f.kq=some a->t.ks≠[]->N a.block) t
def FR(N:Nat->Prop)(t:Tr):Prop:=cK (fun t=>∀ a,t.f.rq=some a->t.f.rs≠[]->N a.block) t
theorem FK.mono{N M:Nat->Prop}{t:Tr}(h:FK N t)(hm:∀ k,N k->M k):FK M t:=dX (fun _ q=>fun a e z=>hm _ (q a e z)) t h
theorem FR.mono{N M:Nat->Prop}{t:Tr}(h:FR N t)(hm:∀ k,N k->M k):FR M t:=dX (fun _ q=>fun a e z=>hm _ (q a e z)) t h
theorem aG4{N:Nat->Prop}{t:Tr}(h:Foot N t):FK N t:=dX (fun _ q=>q.2) t h
theorem aG3{N:Nat->Prop}{t:Tr}(h:Foot N t):FR N t:=dX (fun _ q=>q.1) t h
theorem bH4{N:Nat->Prop}{t:Tr}(h:FK N t)(k:FR N t):Foot N t:=sT (fun _ a b=>⟨b,a⟩) t h k
theorem TA.write{W W':World}{t:Tr}{g:Nat}(h:TA W t)(hk:FK (fun k=>k≠g) t)(hg:∃ cur,W.heap[g]?=some (.cells cur 25 (0,0)))(hf:Fr (fun z=>z=g) W W'):TA W' t:=by
 obtain⟨cur,hc⟩:=hg
 have hr:FR (fun k=>k≠g) t:=dX (fun u q=>fun a e z=>by
  obtain⟨cur2,hc2⟩:=(show NA W u from q).own.1 a e z
  exact fun e2=>by rw [e2] at hc2;rw [hc] at hc2;cases hc2) t h
 exact h.ckN (bH4 hk hr) (hf.ckeep (fun k e z=>z e))
def gY(base:Nat)(W:World)(x:Ps)(e:Ending)(w':World):Prop:=∃ t',e=.returned (.agg #[.int .i64 t'.f.k,.int .i64 t'.f.n,.int .i64 t'.f.mn,.int .i64 t'.f.mx,.slice t'.f.rq t'.f.rs.length t'.f.rc,.slice t'.f.kq t'.f.kl t'.f.kc])/\TA w' t'/\er t'=te x/\Below W.heap.size W w'/\FK (fun k=>W.heap.size<=k) t'/\FR (fun k=>base<=k) t'
def gI(base:Nat)(W:World)(x:Ps)(e:Ending)(w':World):Prop:=∃ g ks,e=.returned (.slice (some ⟨g,0,none⟩) ks.length ks.length)/\KR w' g ks/\ks.map er=x.kids.map te/\(∀ u∈ks,TA w' u/\FK (fun k=>g < k) u/\FR (fun k=>base<=k) u)/\W.heap.size<=g/\Below W.heap.size W w'/\ks.length=x.kids.length
structure NdS(w:World)(base g:Nat)(nk old:List Tr)(W:World):Prop where
 bel:Below w.heap.size w W
 row:KR W g (nk ++ old)
 new:∀ u∈nk,TA W u/\FK (fun k=>g < k) u/\FR (fun k=>base<=k) u
theorem NdS.kept{w W W':World}{base g:Nat}{nk old:List Tr}(h:NdS w base g nk old W)(hb:Below W.heap.size W W'):NdS w base g nk old W':=
 ⟨aD h.bel hb lz9,h.row.kept hb,fun u hu=>⟨(h.new u hu).1.kept hb,(h.new u hu).2⟩⟩
theorem NdS.next{w W:World}{base g j:Nat}{nk old:List Tr}{t:Tr}(h:NdS w base g nk old W)(hj:nk.length=j)(ho:old≠[])(hwg:w.heap.size<=g)(ht:TA W t)(hk:FK (fun k=>g < k) t)(hr:FR (fun k=>base<=k) t) :
  NdS w base g (nk ++ [t]) old.tail (cW W g (j * 6) t.f):=by
 have F:=jI W g (j * 6) t.f
 have hl:j < (nk ++ old).length:=by
  rw [List.length_append]
  cases old with
  | nil=>exact absurd rfl ho
  | cons x r=>simp;omega
 refine⟨bK h.bel F lz9 (fun k e=>by omega),?_,fun u hu=>?_⟩
 ·have:=h.row.set hl t
  cases old with
  | nil=>exact absurd rfl ho
  | cons x r=>
   rw [List.set_append_right _ _ (by omega),hj,Nat.sub_self,List.set_cons_zero] at this
   rw [List.append_assoc]
   exact this
 ·rcases List.mem_append.1 hu with q | q
  ·obtain⟨a,b,c⟩:=h.new u q
   exact⟨a.write (b.mono (fun k hk=>by omega)) h.row.blk F,b,c⟩
  ·simp at q
   subst q
   exact⟨ht.write (hk.mono (fun k hk=>by omega)) h.row.blk F,hk,hr⟩
theorem aR5{base:Nat}{N:Nat->Prop}{x:Ps}{W:World}{v:Value}(ih:∀ (y:Ps) (W:World) (v:Value),y∈x.kids->PV base N W y v->base<=W.heap.size->Calls Tryz.prog 32 #[v] W (gY base W y))(hsz:x.sz<=1000000)(hb:base<=W.heap.size)(h:PV base N W x v) :
  Calls Tryz.prog 73 #[v] W (gI base W x):=by
 obtain⟨T,u,F,rfl,hmeth,hcf,hc⟩:=vC h
 have WC:=aC hc
 have IH:=aC ih
 have hnl:x.kids.length<=1000000:=by
  have:∀ l:List Ps,l.length<=eP l:=by
   intro l
   induction l with
   | nil=>simp
   | cons y l ih=>rw [dU,List.length_cons];have:=kS y;omega
  have:=this x.kids
  have:=kA x
  omega
 obtain⟨n,hn⟩:∃ n,x.kids.length=n:=⟨_,rfl⟩
 have HN:=aC hn
 have WC2:Hid (Calls Tryz.prog F #[u] W fun e w'=>∃ (q:Option Addr) (c:Nat) (vs:List Value),e=.returned (.slice q n c)/\Below W.heap.size W w'/\vs.length=n/\(∀ (i:Nat) (u:Value),vs[i]?=some u->∃ g,q=some ⟨g,0,none⟩/\g < w'.heap.size/\w'.cell? ⟨g,i,none⟩=some u)/\∀ (i:Nat) (y:Ps) (u:Value),x.kids[i]?=some y->vs[i]?=some u->PV base N w' y u):=by
  have:=WC.out
  unfold bP0 at this
  rw [hn] at this
  exact this
 rw [hn] at hnl
 obtain⟨t0,hi,hz0,hzz1,hzz2⟩:=aP kQ
 have hmx:n<=maxLen:=by unfold maxLen;omega
 clear ih h hc hn WC hsz
 go_enter Tryz.func73,Tryz.ntmps73
 go_upto_region 3 with first
  |((with_reducible refine(WC2.out).mono ?_);rintro e w5 ⟨q5,c5,vs,rfl,h1,h2,h3,h4⟩;have B5:=aC h1;have L5:=aC h2;have R5:=aC h3;have V5:=aC h4;clear h1 h2 h3 h4)
  |(at_make;refine wpList_make_full _ rfl _ _ 23 rfl w5.heap.size 25 t0 (.agg #[.int .i64 0,.int .i64 0,.int .i64 0,.int .i64 0,.slice none 0 0,.slice none 0 0]) 6 dS hi hz0 hzz1 .i64 .i64 (n:Int) (n:Int) n rfl rfl rfl rfl (by rw [hzz2];omega) hmx lz9 ?_;intro w7 hown7 hg7;rw [aA4] at hown7;have O7:=aC hown7;have B7:Hid (Below w5.heap.size w5 w7):=⟨hg7.os,hg7.tape,hg7.output,hg7.size,fun k hk=>hg7.block k hk (fun e=>by cases e)⟩;clear hown7 hg7)
 have KR7:=aC (KR.of_row O7.out)
 obtain⟨g,hg⟩:∃ g,w5.heap.size=g:=⟨_,rfl⟩
 rw [hg] at KR7 ⊢
 have S7:Hid (NdS w5 base g [] (List.replicate n zT) w7):=⟨B7.out,KR7.out,fun u hu=>by cases hu⟩
 have hb5:base<=w5.heap.size:=Nat.le_trans hb B5.out.size
 clear O7 B7 KR7 t0 hi hz0 hzz1 hzz2
 go_wp2
 go_loopw [14] (fun i wr=>∃ (j:Nat) (nk:List Tr),j<=n/\i=.int .i64 (j:Int)/\nk.length=j/\nk.map er=(x.kids.take j).map te/\NdS w5 base g nk (List.replicate (n - j) zT) wr) (fun i _=>n - (intOf i).toNat)
 case atStart=>exact⟨0,[],Nat.zero_le _,rfl,rfl,rfl,S7.out⟩
 case round=>
  clear S7
  obtain⟨j,nk,hj,rfl,hnk,hme,hcs⟩:=hrel
  have HS:=aC hcs
  have HME:=aC hme
  have HNK:=aC hnk
  clear hcs hme hnk
  by_cases hjl:j < n
  ·have i0:(j:Int) < (n:Int):=by omega
   obtain⟨y,hy⟩:∃ y,x.kids[j]?=some y:=⟨_,List.getElem?_eq_getElem (by have:=HN.out;omega)⟩
   obtain⟨uu,hu⟩:∃ uu,vs[j]?=some uu:=⟨_,List.getElem?_eq_getElem (by have:=L5.out;omega)⟩
   obtain⟨gq,rfl,hgq,hcell⟩:=R5.out j uu hu
   have hV:=(V5.out j y uu hy hu).kept HS.out.bel
   obtain⟨T6,u6,rfl⟩:=hV.shape
   have cc:=(HS.out.bel.cell (p:=⟨gq,j,none⟩) hgq).trans hcell
   have lg:gq < wr.heap.size:=Nat.lt_of_lt_of_le hgq HS.out.bel.size
   have hym:y∈x.kids:=List.mem_of_getElem? hy
   have CC:=IH.out y wr (.iface T6 u6) hym hV (Nat.le_trans hb5 HS.out.bel.size)
   have hug:=HS.out.row.lt
   have HRP:=aC (show List.replicate (n - j) zT=zT :: List.replicate (n - (j+1)) zT by rw [show n - j=(n - (j+1))+1 by omega,List.replicate_succ])
   have HY:=aC hy
   have CU:Hid (Calls Tryz.prog 32 #[.iface T6 u6] wr fun e w8=>∃ t5:Tr,e=.returned (.agg #[.int .i64 t5.f.k,.int .i64 t5.f.n,.int .i64 t5.f.mn,.int .i64 t5.f.mx,.slice t5.f.rq t5.f.rs.length t5.f.rc,.slice t5.f.kq t5.f.kl t5.f.kc])/\NdS w5 base g nk (List.replicate (n - j) zT) w8/\Six w8 g (j * 6) zT.f/\NdS w5 base g (nk ++ [t5]) (List.replicate (n - (j+1)) zT) (cW w8 g (j * 6) t5.f)/\er t5=te y):=CC.mono fun e w8 ⟨t5,h50,h51,h52,h53,h54,h55⟩=>(by
    have S5:=HS.out.kept h53
    have S6:=S5.next (t:=t5) (j:=j) HNK.out (by rw [HRP.out];simp) (by omega) h51 (h54.mono (fun k hk=>Nat.lt_of_lt_of_le hug hk)) h55
    rw [HRP.out] at S6
    exact⟨t5,h50,S5,S5.row.six j zT (by rw [HRP.out,List.getElem?_append_right (by have:=HNK.out;omega),HNK.out,Nat.sub_self];rfl),S6,h52⟩)
   clear hy hu hcell hV hym CC hug
   go_wp2_with (go_at_call 32;(with_reducible refine(CU.out).mono ?_);rintro e w8 ⟨t5,rfl,h51,h52,h53,h54⟩;obtain⟨y0,y1,y2,y3,y4,y5⟩:=h52;have S5:=aC h51;have fz:=fun z=>S5.out.row.frz z;unfold cW at h53;have S6:=aC h53;have E6:=aC h54;clear h51 h53 h54)
   have HEN:=aC (show (nk ++ [t5]).map er=(x.kids.take (j+1)).map te by
    rw [List.take_add_one,HY.out,List.map_append,HME.out,List.map_append]
    simp [E6.out])
   go_roundw
   case rel=>exact⟨j+1,nk ++ [t5],by omega,by go_num,by rw [List.length_append,HNK.out];rfl,HEN.out,S6.out⟩
   case measure=>simp only [intOf];omega
  ·have i0:¬ (j:Int) < (n:Int):=by omega
   have S9:=HS.out
   rw [show n - j=0 by omega,List.replicate_zero] at S9
   have hrow:=S9.row
   rw [List.append_nil] at hrow
   have hme:=HME.out
   rw [List.take_of_length_le (by have:=HN.out;omega)] at hme
   have hnl2:nk.length=n:=by have:=HNK.out;omega
   have RES:=aC (show gI base W x (.returned (.slice (some ⟨g,0,none⟩) n n)) wr from ⟨g,nk,by rw [hnl2],hrow,hme,S9.new,by have:=B5.out.size;omega,aD B5.out S9.bel lz9,by rw [hnl2,HN.out]⟩)
   clear S9 hrow hme hnl2 HS HME HNK
   go_wp2
   go_ret
   exact RES.out
theorem aZ6(u:Value)(w:World):(Instr.typeAssert (.iface 134 u) 75 134 true).run Tryz.prog w=.ok (.tuple #[u,.bool true]) w:=by kernel_rfl
theorem aO9(u:Value)(w:World):(Instr.typeAssert (.iface 136 u) 75 136 true).run Tryz.prog w=.ok (.tuple #[u,.bool true]) w:=by kernel_rfl
theorem rE(u:Value)(w:World):(Instr.typeAssert (.iface 136 u) 75 134 true).run Tryz.prog w=.ok (.tuple #[.agg #[.int .i64 0,.int .i64 0,.int .i64 0,.int .i64 0,.slice none 0 0,.slice none 0 0],.bool false]) w:=by kernel_rfl
theorem aO8(u:Value)(w:World):(Instr.typeAssert (.iface 139 u) 75 139 true).run Tryz.prog w=.ok (.tuple #[u,.bool true]) w:=by kernel_rfl
theorem rD(u:Value)(w:World):(Instr.typeAssert (.iface 139 u) 75 134 true).run Tryz.prog w=.ok (.tuple #[.agg #[.int .i64 0,.int .i64 0,.int .i64 0,.int .i64 0,.slice none 0 0,.slice none 0 0],.bool false]) w:=by kernel_rfl
theorem pM(u:Value)(w:World):(Instr.typeAssert (.iface 139 u) 75 136 true).run Tryz.prog w=.ok (.tuple #[.agg #[.int .i64 0,.nilIface],.bool false]) w:=by kernel_rfl
theorem bI4(u:Value)(w:World):(Instr.typeAssert (.iface 141 u) 75 141 true).run Tryz.prog w=.ok (.tuple #[u,.bool true]) w:=by kernel_rfl
theorem vH(u:Value)(w:World):(Instr.typeAssert (.iface 141 u) 75 134 true).run Tryz.prog w=.ok (.tuple #[.agg #[.int .i64 0,.int .i64 0,.int .i64 0,.int .i64 0,.slice none 0 0,.slice none 0 0],.bool false]) w:=by kernel_rfl
theorem tM(u:Value)(w:World):(Instr.typeAssert (.iface 141 u) 75 136 true).run Tryz.prog w=.ok (.tuple #[.agg #[.int .i64 0,.nilIface],.bool false]) w:=by kernel_rfl
theorem tL(u:Value)(w:World):(Instr.typeAssert (.iface 141 u) 75 139 true).run Tryz.prog w=.ok (.tuple #[.agg #[.int .i64 0,.int .i64 0,.nilIface],.bool false]) w:=by kernel_rfl
theorem aI8(u:Value)(w:World):(Instr.typeAssert (.iface 130 u) 75 130 true).run Tryz.prog w=.ok (.tuple #[u,.bool true]) w:=by kernel_rfl
theorem pN(u:Value)(w:World):(Instr.typeAssert (.iface 130 u) 75 134 true).run Tryz.prog w=.ok (.tuple #[.agg #[.int .i64 0,.int .i64 0,.int .i64 0,.int .i64 0,.slice none 0 0,.slice none 0 0],.bool false]) w:=by kernel_rfl
theorem oS(u:Value)(w:World):(Instr.typeAssert (.iface 130 u) 75 136 true).run Tryz.prog w=.ok (.tuple #[.agg #[.int .i64 0,.nilIface],.bool false]) w:=by kernel_rfl
theorem oR(u:Value)(w:World):(Instr.typeAssert (.iface 130 u) 75 139 true).run Tryz.prog w=.ok (.tuple #[.agg #[.int .i64 0,.int .i64 0,.nilIface],.bool false]) w:=by kernel_rfl
theorem rF(u:Value)(w:World):(Instr.typeAssert (.iface 130 u) 75 141 true).run Tryz.prog w=.ok (.tuple #[.agg #[.slice none 0 0],.bool false]) w:=by kernel_rfl
theorem jY{R:Ending->World->Prop}{a:Act}{W:World}{b:Nat}{f:Fl}(h:Six W b 0 f)(ha:a.tmps[2]?.getD undef=.pointer (some ⟨b,0,none⟩))(hd:a.defers=[])(hR:R (.returned (.agg #[.int .i64 f.k,.int .i64 f.n,.int .i64 f.mn,.int .i64 f.mx,.slice f.rq f.rs.length f.rc,.slice f.kq f.kl f.kc])) W):bodyPost Tryz.prog Tryz.f32 R .ret a W:=by
 obtain⟨z0,z1,z2,z3,z4,z5⟩:=h
 simp only [Nat.zero_add] at z1 z2 z3 z4 z5
 refine bodyPost_ret (v:=.agg #[.int .i64 f.k,.int .i64 f.n,.int .i64 f.mn,.int .i64 f.mx,.slice f.rq f.rs.length f.rc,.slice f.kq f.kl f.kc]) ?_ hd hR
 simp [results,Tryz.results32,go_sem,ha,z0,z1,z2,z3,z4,z5]
abbrev bC:Obj:=.cells #[.int .i64 0,.int .i64 0,.int .i64 0,.int .i64 0,.slice none 0 0,.slice none 0 0] 25
theorem aK5{base:Nat}{N:Nat->Prop}{W:World}{k n:Int}{rs:List (Int × Int)}{v:Value}(h:PV base N W (.lf k n rs) v):Calls Tryz.prog 32 #[v] W (gY base W (.lf k n rs)):=by
 cases h with
 | lf _ _ _ q c hr hf hl=>
  have HR:=aC hr
  have ta1:=aZ6 (.agg #[.int .i64 k,.int .i64 n,.int .i64 0,.int .i64 0,.slice q rs.length c,.slice none 0 0])
  clear hr
  go_enter Tryz.func32,Tryz.ntmps32
  go_wp2
  have B:Below W.heap.size W ((W.alloc (.cells #[.int .i64 k,.int .i64 n,.int .i64 0,.int .i64 0,.slice q rs.length c,.slice none 0 0] 25)).alloc (.cells #[.int .i64 k,.int .i64 n,.int .i64 0,.int .i64 0,.slice q rs.length c,.slice none 0 0] 134)):=(bz9).alloc (by simp) _
  have N1:BoxN ((W.alloc (.cells #[.int .i64 k,.int .i64 n,.int .i64 0,.int .i64 0,.slice q rs.length c,.slice none 0 0] 25)).alloc (.cells #[.int .i64 k,.int .i64 n,.int .i64 0,.int .i64 0,.slice q rs.length c,.slice none 0 0] 134)) W.heap.size ⟨k,n,0,0,rs,q,c,none,0,0⟩:=(Below.heap_alloc _ _ _ (by simp)).trans (aE W _)
  have R1:=HR.out.kept B
  refine jY N1.six rfl rfl ⟨.mk ⟨k,n,0,0,rs,q,c,none,0,0⟩ [],rfl,(aZ _).2 ⟨⟨R1.arg,.inl ⟨none,0,rfl,rfl,fun _=>rfl⟩,hf,?_,NO.rows R1 (fun a e _=>by cases e)⟩,(bA _).2 fun u hu=>by cases hu⟩,?_,B,(aZ _).2 ⟨fun a e=>(by cases e),(bA _).2 fun u hu=>by cases hu⟩,(aZ _).2 ⟨fun a e _=>?_,(bA _).2 fun u hu=>by cases hu⟩⟩
  ·show rs.length+3<=8796093022208
   omega
  ·rw [gF,te];rfl
  ·have e':q=some a:=e
   exact(aG R1 (g:=a.block) (by rw [e'];rfl)).1
theorem aP0{ks:List Tr}{l:List Ps}(h:ks.map er=l.map te):szs ks=eP l:=by
 induction l generalizing ks with
 | nil=>
  obtain rfl:ks=[]:=by simpa using h
  rw [hU,iW]
 | cons x l ih=>
  match ks,h with
  | u :: ks,h=>
   rw [List.map_cons,List.map_cons] at h
   injection h with h1 h2
   rw [cU,dU,ih h2,<- xQ,h1,aO7]
theorem aX0{ks:List Tr}{l:List Ps}(h:ks.map er=l.map te)(hi:∀ y∈l,cD y=true/\wf y):(ks.flatMap eY).map er=l.map te:=by
 induction l generalizing ks with
 | nil=>
  obtain rfl:ks=[]:=by simpa using h
  rfl
 | cons x l ih=>
  match ks,h with
  | u :: ks,h=>
   rw [List.map_cons,List.map_cons] at h
   injection h with h1 h2
   rw [List.flatMap_cons,List.map_append,bE9,h1,ih h2 (fun y hy=>hi y (List.mem_cons_of_mem _ hy)),List.map_cons]
   have hx:=hi x (List.mem_cons_self ..)
   have hk:x.kd≠1/\x.kd≠5:=by
    have hw:=hx.2
    cases x with
    | lf k n rs=>rw [wf] at hw;rcases hw with rfl | rfl | rfl | rfl <;> simp [Ps.kd]
    | grp=>simp [Ps.kd]
    | rep=>simp [Ps.kd]
    | row=>simp [cD] at hx
    | alt=>simp [cD] at hx
   rw [aX2 (by rw [aI7];exact hk.1) (by rw [aI7];exact hk.2)]
   rfl
theorem aX7{ks:List Tr}{l:List Ps}(h:ks.map er=l.map te)(hi:∀ y∈l,oV y=true/\wf y):(ks.flatMap fG).map er=l.map te:=by
 induction l generalizing ks with
 | nil=>
  obtain rfl:ks=[]:=by simpa using h
  rfl
 | cons x l ih=>
  match ks,h with
  | u :: ks,h=>
   rw [List.map_cons,List.map_cons] at h
   injection h with h1 h2
   rw [List.flatMap_cons,List.map_append,bG0,h1,ih h2 (fun y hy=>hi y (List.mem_cons_of_mem _ hy)),List.map_cons]
   have hx:=hi x (List.mem_cons_self ..)
   rw [aX9 (by rw [aI7];exact(aT2 hx.1 hx.2).2)]
   rfl
theorem bI2{l:List Ps}(h:l.length≠1):lJ 5 (l.map te) (.mk 1 0 0 0 [] [])=te (.row l):=by
 rw [te]
 match l,h with
 | [],_=>rfl
 | x :: y :: l,_=>rw [gZ];rfl
theorem bI3{l:List Ps}(h:2<=l.length)(no:Er):lJ 6 (l.map te) no=te (.alt l):=by
 rw [te]
 match l,h with
 | x :: y :: l,_=>rw [gZ];rfl
theorem jM:∀ (T:List Tp) (s:GS),(∀ t∈T,1<=t.1.kind/\t.1.kind<=8)->hk s.g (s.o.map Prod.fst).reverse s.e (iH s.g T)->∃ s',gck s T=.ok s'/\s'.o=[]
 | [],s,_,h=>by
  refine⟨s,rfl,?_⟩
  have:(s.o.map Prod.fst).reverse=[]:=h
  simpa using this
 | t :: T,s,hT,h=>by
  have hk1:=hT t (List.mem_cons_self ..)
  have hT':∀ u∈T,1<=u.1.kind/\u.1.kind<=8:=fun u hu=>hT u (List.mem_cons_of_mem _ hu)
  rw [iH] at h
  rw [gck]
  rcases fD hk1.1 hk1.2 with e | e | e | e | e | e | e | e
  ·simp only [sgT,gnx,e,Nat.reduceEqDiff,if_false,hk] at h
   simp only [glk,e,Nat.reduceEqDiff,if_false]
   exact jM T s hT' h.2
  ·simp only [sgT,gnx,e,Nat.reduceEqDiff,if_false,if_true] at h
   simp only [glk,e,Nat.reduceEqDiff,if_false]
   exact jM T s hT' h
  ·simp only [sgT,gnx,e,if_true,hk] at h
   have hg:¬ s.g=30:=by omega
   simp only [glk,e,if_true,if_neg hg]
   exact jM T ⟨s.g+1,s.o ++ [(s.g+1,t.2.1)],s.e⟩ hT' (by simpa using h.2.2)
  ·simp only [sgT,gnx,e,Nat.reduceEqDiff,if_false,if_true,hk] at h
   obtain⟨n,o',h1,h2⟩:=h
   simp only [glk,e,Nat.reduceEqDiff,if_false,if_true]
   cases hl:s.o.getLast? with
   | none=>
    rw [List.getLast?_eq_none_iff.1 hl] at h1
    cases h1
   | some x=>
    have hne:s.o≠[]:=fun z=>by rw [z] at hl;cases hl
    rw [List.getLast?_eq_some_getLast hne] at hl
    cases hl
    simp only
    have hx:=(List.dropLast_concat_getLast hne).symm
    rw [hx] at h1
    simp only [List.map_append,List.reverse_append,List.map_cons,List.map_nil,List.reverse_cons,List.reverse_nil,List.nil_append,List.cons_append] at h1
    injection h1 with h3 h4
    refine jM T ⟨s.g,s.o.dropLast,(s.o.getLast hne).1 :: s.e⟩ hT' ?_
    rw [h3,h4]
    exact h2
  ·simp only [sgT,gnx,e,Nat.reduceEqDiff,if_false,if_true] at h
   simp only [glk,e,Nat.reduceEqDiff,if_false]
   exact jM T s hT' h
  ·simp only [sgT,gnx,e,Nat.reduceEqDiff,if_false,if_true,hk] at h
   obtain⟨⟨i,hi,he⟩,h2⟩:=(show (∃ i∈s.e,(t.1.n:Int)=(i:Int))/\_ from ⟨h.1 trivial,h.2⟩)
   have:t.1.n∈s.e:=by rw [show t.1.n=i by omega];exact hi
   simp only [glk,e,Nat.reduceEqDiff,if_false,if_true,if_pos this]
   exact jM T s hT' h2
  ·simp only [sgT,gnx,e,Nat.reduceEqDiff,if_false,if_true,hk] at h
   simp only [glk,e,Nat.reduceEqDiff,if_false]
   exact jM T s hT' h.2
  ·simp only [sgT,gnx,e,Nat.reduceEqDiff,if_false,if_true,hk] at h
   simp only [glk,e,Nat.reduceEqDiff,if_false]
   exact jM T s hT' h.2
theorem bD0{T:List Tp}(hT:∀ t∈T,1<=t.1.kind/\t.1.kind<=8)(h:hk 0 [] [] (iH 0 T)):fW T=none:=by
 obtain⟨s',h1,h2⟩:=jM T gs0 hT h
 unfold fW
 rw [h1]
 simp only [h2]
end Go.Proofs.YticfnglebbakkaaGreatDoor
