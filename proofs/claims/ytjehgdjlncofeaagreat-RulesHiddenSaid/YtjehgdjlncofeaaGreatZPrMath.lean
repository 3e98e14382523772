import Derived.Test.YtjehgdjlncofeaaGreatZRxText
set_option linter.unusedVariables false
set_option linter.unusedSimpArgs false
open Go.Lib (hid)
namespace Go.Proofs.YtjehgdjlncofeaaGreat
open Go.RowKit
def ival (a k:Nat):Nat->Bool:=fun x=>decide (a<=x) && decide (x<a+k)
theorem zfF (a:Nat):ival a 0=fun _=>false:=by funext x;simp[ival]
theorem zfG (a k:Nat):ival a (k+1)=ins (ival a k) (a+k):=by
 funext x
 rw[Bool.eq_iff_iff]
 simp only[ival,ins,Bool.or_eq_true,Bool.and_eq_true,decide_eq_true_eq,beq_iff_eq]
 omega
theorem zb3 (a c:Nat) (ha:a<256) (hc:c<256) (w:World):
  Calls Tryz.prog 195 #[.int .u8 a,.int .u8 c] w fun e w'=>e=.returned (.agg #[.int .u64 ((wd (ival a (c+1-a)) 0:Nat):Int),.int .u64 ((wd (ival a (c+1-a)) 1:Nat):Int),.int .u64 ((wd (ival a (c+1-a)) 2:Nat):Int),.int .u64 ((wd (ival a (c+1-a)) 3:Nat):Int)])/\Below w.heap.size w w':=by
 rcases (by omega:c+1<=a\/a<=c) with h|h
 ·go_enter Tryz.func195,Tryz.ntmps195
  go_wp2_with fail
  go_loopw [13] (fun i wr=>i=.int .i64 0/\Fills w (ival a 0) wr) (fun _ _=>0)
  case atStart=>exact⟨rfl,by rw[zfF];exact Fills.start w⟩
  case round=>
   obtain⟨rfl,R⟩:=hrel
   obtain⟨r0,r1,r2,r3,r4,r5,r6,r7⟩:=row4 R.s0
   obtain⟨q0,q1,q2,q3,q4,q5,q6,q7⟩:=row4 R.s1
   go_wp2_with fail
   exact bodyPost_ret (v:=(.agg #[.int .u64 ((wd (ival a 0) 0:Nat):Int),.int .u64 ((wd (ival a 0) 1:Nat):Int),.int .u64 ((wd (ival a 0) 2:Nat):Int),.int .u64 ((wd (ival a 0) 3:Nat):Int)])) (by simp[results,Tryz.results195,go_sem,r0,r1,r2,r3]) rfl ⟨by rw[show c+1-a=0 by omega],zbp R.below (Nat.le_refl _) _ _ _ _⟩
 ·obtain⟨n,hn,hn2⟩:∃n,c+1-a=n/\c+1=a+n:=⟨_,rfl,by omega⟩
  rw[hn]
  have h1:1<=n:=by omega
  obtain rfl:c=a+n-1:=by omega
  clear hn hn2
  have h3:a+n<=256:=by omega
  have hcast:((a+n-1:Nat):Int)=(a:Int)+(n:Int)-1:=by omega
  rw[hcast]
  clear hcast hc h
  go_enter Tryz.func195,Tryz.ntmps195
  go_wp2_with fail
  go_loopw [6,13] (fun _ i wr=>∃k:Nat,i=.int .i64 k/\k<=n/\Fills w (ival a k) wr) (fun _ i _=>n-(intOf i).toNat)
  case atStart=>exact⟨0,rfl,Nat.zero_le _,by rw[zfF];exact Fills.start w⟩
  case round=>
   obtain⟨k,rfl,hk,R⟩:=hrel
   obtain⟨r0,r1,r2,r3,r4,r5,r6,r7⟩:=row4 R.s0
   obtain⟨q0,q1,q2,q3,q4,q5,q6,q7⟩:=row4 R.s1
   by_cases hlt:k<n
   ·go_wp2_with fail
    rw[show (a:Int)+(k:Int)=((a+k:Nat):Int) from by omega]
    refine (zha (ival a k) (a+k) (by omega) _).mono ?_
    rintro e w1 ⟨rfl,b1⟩
    have R1:=R.step b1 (ival a (k+1))
    rw[zfG] at R1
    have HR:=hid R1
    have hs:=b1.size
    have hs0:=R.s1.lt
    obtain⟨q0,q1,q2,q3,q4,q5,q6,q7⟩:=row4 (R.s1.keep b1)
    clear R b1 R1
    go_wp2_with fail
    go_roundw
    case rel=>exact⟨k+1,by go_num,by omega,by rw[zfG];exact HR.out⟩
    case measure=>simp[intOf];omega
   ·obtain rfl:k=n:=by omega
    go_wp2_with fail
    exact bodyPost_ret (v:=(.agg #[.int .u64 ((wd (ival a k) 0:Nat):Int),.int .u64 ((wd (ival a k) 1:Nat):Int),.int .u64 ((wd (ival a k) 2:Nat):Int),.int .u64 ((wd (ival a k) 3:Nat):Int)])) (by simp[results,Tryz.results195,go_sem,r0,r1,r2,r3]) rfl ⟨rfl,zbp R.below (Nat.le_refl _) _ _ _ _⟩
abbrev PSt:=List Pc × List Nat
def empP:Nat->Bool:=fun _=>false
def skipT (c:Nat):List Nat->Option (List Nat)
 | []=>none
 | x :: r=>if x=c then some r else none
def prRead (sp:ByteArray) (s:List Nat):Option (Nat × List Nat):=
 if (rd s).2.2=true/\¬((rd s).2.1=1/\inB sp (rd s).1=true) then some ((rd s).1,s.drop (rd s).2.1) else none
def prSpan (s:List Nat):Option (Nat × Nat × List Nat):=
 match prRead insS s with
 | none=>none
 | some (a,r)=>match skipT 45 r with
  | none=>some (a,a,r)
  | some r1=>match prRead insS r1 with
   | none=>none
   | some (c,r2)=>if a<=c then some (a,c,r2) else none
def prSpans:Nat->(Nat->Bool)->List Nat->Option ((Nat->Bool) × List Nat)
 | 0,_,_=>none
 | f+1,q,s=>match skipT 93 s with
  | some r=>some (q,r)
  | none=>match prSpan s with
   | none=>none
   | some (a,c,r)=>prSpans f (fun x=>q x || ival a (c+1-a) x) r
def prSet (s:List Nat):Option ((Nat->Bool) × List Nat):=
 match skipT 94 s with
 | some r=>match prSpans (r.length+1) empP r with
  | none=>none
  | some (q,r1)=>if noneB (fun x=>!q x)=true then none else some (fun x=>!q x,r1)
 | none=>match prSpans (s.length+1) empP s with
  | none=>none
  | some (q,r1)=>if noneB q=true then none else some (q,r1)
def signK (c:Nat):Option Int:=if c=42 then some 4 else if c=43 then some 5 else if c=63 then some 6 else none
def repLoop:List Nat->List Pc->PSt
 | [],acc=>(acc,[])
 | c :: r,acc=>match signK c with
  | some k=>repLoop r (acc++[⟨k,empP⟩])
  | none=>(acc,c :: r)
def repOf (atom:PSt->Option PSt) (s:PSt):Option PSt:=match atom s with
 | none=>none
 | some x=>some (repLoop x.2 x.1)
def seqEnd:List Nat->Bool
 | []=>true
 | c :: _=>c == 124 || c == 41
def seqLoop (atom:PSt->Option PSt):Nat->PSt->Option PSt
 | 0,_=>none
 | f+1,s=>if seqEnd s.2=true then some s else match repOf atom s with
  | none=>none
  | some x=>seqLoop atom f (x.1++[⟨2,empP⟩],x.2)
def seqOf (atom:PSt->Option PSt) (s:PSt):Option PSt:=match repOf atom s with
 | none=>none
 | some x=>seqLoop atom (x.2.length+1) x
def altLoop (atom:PSt->Option PSt):Nat->PSt->Option PSt
 | 0,_=>none
 | f+1,s=>match skipT 124 s.2 with
  | none=>some s
  | some r=>match seqOf atom (s.1,r) with
   | none=>none
   | some x=>altLoop atom f (x.1++[⟨3,empP⟩],x.2)
def altOf (atom:PSt->Option PSt) (s:PSt):Option PSt:=match seqOf atom s with
 | none=>none
 | some x=>altLoop atom (x.2.length+1) x
def atomOf (group:PSt->Option PSt) (s:PSt):Option PSt:=
 match skipT 46 s.2 with
 | some r=>some (s.1++[⟨1,fun _=>true⟩],r)
 | none=>match skipT 126 s.2 with
  | some r=>some (s.1++[⟨0,empP⟩],r)
  | none=>match skipT 40 s.2 with
   | some r=>group (s.1,r)
   | none=>match skipT 91 s.2 with
    | some r=>match prSet r with
     | none=>none
     | some (q,r1)=>some (s.1++[⟨1,q⟩],r1)
    | none=>match prRead outS s.2 with
     | none=>none
     | some (c,r)=>some (s.1++[⟨1,ofUp (fun _=>c) 1⟩],r)
def groupOf (atom:PSt->Option PSt) (s:PSt):Option PSt:=match altOf atom s with
 | none=>none
 | some x=>match skipT 41 x.2 with
  | none=>none
  | some r=>some (x.1,r)
def atomD:Nat->PSt->Option PSt
 | 0=>atomOf fun _=>none
 | D+1=>atomOf (groupOf (atomD D))
def Dec (g:PSt->Option PSt):Prop:=∀s s',g s=some s'->s'.2.length<s.2.length/\s'.1.length+2*s'.2.length<s.1.length+2*s.2.length
def Le (s' s:PSt):Prop:=s'.2.length<=s.2.length/\s'.1.length+2*s'.2.length<=s.1.length+2*s.2.length
theorem zaS {c:Nat}{s r:List Nat}(h:skipT c s=some r):s=c :: r:=by
 cases s with
 | nil=>simp[skipT] at h
 | cons x t=>
  simp only[skipT] at h
  split at h
  ·simp at h;subst h;rename_i e;rw[e]
  ·simp at h
theorem znm (s:List Nat):(rd s).2.2=true->1<=(rd s).2.1/\1<=s.length:=by
 cases s with
 | nil=>simp[rd,rdNo]
 | cons c t=>
  intro h
  refine⟨?_,by simp⟩
  unfold rd at h⊢
  simp only at h⊢
  split at h
  ·rename_i e
   rw[if_pos e]
   have:=(zmy t).2 h
   omega
  ·rename_i e
   rw[if_neg e]
   simp
theorem zcf {sp:ByteArray}{s:List Nat}{c:Nat}{r:List Nat}(h:prRead sp s=some (c,r)):r.length<s.length:=by
 unfold prRead at h
 split at h
 ·rename_i e
  have:=znm s e.1
  simp at h
  rw[<-h.2]
  simp;omega
 ·simp at h
theorem zeg {s:List Nat}{a c:Nat}{r:List Nat}(h:prSpan s=some (a,c,r)):r.length<s.length/\a<=c:=by
 unfold prSpan at h
 rcases h1:prRead insS s with _|⟨a1,r1⟩
 ·simp[h1] at h
 ·rw[h1] at h
  have l1:=zcf h1
  simp only at h
  rcases h2:skipT 45 r1 with _|r2
  ·simp[h2] at h
   obtain⟨rfl,rfl,rfl⟩:=h
   exact⟨l1,Nat.le_refl _⟩
  ·rw[h2] at h
   have l2:=zaS h2
   simp only at h
   rcases h3:prRead insS r2 with _|⟨c1,r3⟩
   ·simp[h3] at h
   ·rw[h3] at h
    have l3:=zcf h3
    simp only at h
    split at h
    ·rename_i e
     simp at h
     obtain⟨rfl,rfl,rfl⟩:=h
     rw[l2] at l1
     simp at l1
     exact⟨by omega,e⟩
    ·simp at h
theorem zdB (f:Nat) (q:Nat->Bool) (s:List Nat) (q':Nat->Bool) (r:List Nat) (h:prSpans f q s=some (q',r)):r.length<s.length:=by
 induction f generalizing q s with
 | zero=>simp[prSpans] at h
 | succ f ih=>
  unfold prSpans at h
  rcases h1:skipT 93 s with _|r1
  ·rw[h1] at h
   simp only at h
   rcases h2:prSpan s with _|⟨a,c,r2⟩
   ·simp[h2] at h
   ·rw[h2] at h
    simp only at h
    have:=ih _ _ h
    have:=(zeg h2).1
    omega
  ·rw[h1] at h
   have:=zaS h1
   simp at h
   rw[this,<-h.2];simp
theorem zjG {s:List Nat}{q:Nat->Bool}{r:List Nat}(h:prSet s=some (q,r)):r.length<s.length:=by
 unfold prSet at h
 rcases h1:skipT 94 s with _|r1
 ·rw[h1] at h
  simp only at h
  rcases h2:prSpans (s.length+1) empP s with _|⟨q2,r2⟩
  ·simp[h2] at h
  ·rw[h2] at h
   have:=zdB _ _ _ _ _ h2
   simp only at h
   split at h
   ·simp at h
   ·simp at h;rw[<-h.2];exact this
 ·rw[h1] at h
  have e:=zaS h1
  simp only at h
  rcases h2:prSpans (r1.length+1) empP r1 with _|⟨q2,r2⟩
  ·simp[h2] at h
  ·rw[h2] at h
   have:=zdB _ _ _ _ _ h2
   simp only at h
   split at h
   ·simp at h
   ·simp at h;rw[e,<-h.2];simp;omega
theorem zij (s:List Nat) (acc:List Pc):Le (repLoop s acc) (acc,s):=by
 induction s generalizing acc with
 | nil=>exact⟨Nat.le_refl _,Nat.le_refl _⟩
 | cons c r ih=>
  unfold repLoop
  rcases signK c with _|k
  ·exact⟨Nat.le_refl _,Nat.le_refl _⟩
  ·obtain⟨h1,h2⟩:=ih (acc++[⟨k,empP⟩])
   simp at h1 h2
   exact⟨by simp;omega,by simp;omega⟩
theorem zcB {atom:PSt->Option PSt}(hd:Dec atom):Dec (repOf atom):=by
 intro s s' h
 unfold repOf at h
 rcases h1:atom s with _|x
 ·simp[h1] at h
 ·rw[h1] at h
  simp at h
  obtain⟨h2,h3⟩:=hd s x h1
  obtain⟨h4,h5⟩:=zij x.2 x.1
  rw[h] at h4 h5
  simp at h4 h5
  exact⟨by omega,by omega⟩
theorem zik {atom:PSt->Option PSt}(hd:Dec atom) (f:Nat) (s s':PSt) (h:seqLoop atom f s=some s'):Le s' s:=by
 induction f generalizing s with
 | zero=>simp[seqLoop] at h
 | succ f ih=>
  unfold seqLoop at h
  split at h
  ·simp at h;subst h;exact⟨Nat.le_refl _,Nat.le_refl _⟩
  ·rcases h1:repOf atom s with _|x
   ·simp[h1] at h
   ·rw[h1] at h
    obtain⟨h2,h3⟩:=zcB hd s x h1
    obtain⟨h4,h5⟩:=ih _ h
    simp at h4 h5
    exact⟨by omega,by omega⟩
theorem zcC {atom:PSt->Option PSt}(hd:Dec atom):Dec (seqOf atom):=by
 intro s s' h
 unfold seqOf at h
 rcases h1:repOf atom s with _|x
 ·simp[h1] at h
 ·rw[h1] at h
  obtain⟨h2,h3⟩:=zcB hd s x h1
  obtain⟨h4,h5⟩:=zik hd _ _ _ h
  exact⟨by omega,by omega⟩
theorem zil {atom:PSt->Option PSt}(hd:Dec atom) (f:Nat) (s s':PSt) (h:altLoop atom f s=some s'):Le s' s:=by
 induction f generalizing s with
 | zero=>simp[altLoop] at h
 | succ f ih=>
  unfold altLoop at h
  rcases h0:skipT 124 s.2 with _|r
  ·rw[h0] at h;simp at h;subst h;exact⟨Nat.le_refl _,Nat.le_refl _⟩
  ·rw[h0] at h
   have e:=zaS h0
   simp only at h
   rcases h1:seqOf atom (s.1,r) with _|x
   ·simp[h1] at h
   ·rw[h1] at h
    obtain⟨h2,h3⟩:=zcC hd _ x h1
    obtain⟨h4,h5⟩:=ih _ h
    simp at h2 h3 h4 h5
    exact⟨by rw[e];simp;omega,by rw[e];simp;omega⟩
theorem zdC {atom:PSt->Option PSt}(hd:Dec atom):Dec (altOf atom):=by
 intro s s' h
 unfold altOf at h
 rcases h1:seqOf atom s with _|x
 ·simp[h1] at h
 ·rw[h1] at h
  obtain⟨h2,h3⟩:=zcC hd s x h1
  obtain⟨h4,h5⟩:=zil hd _ _ _ h
  exact⟨by omega,by omega⟩
theorem zgC {atom:PSt->Option PSt}(hd:Dec atom):Dec (groupOf atom):=by
 intro s s' h
 unfold groupOf at h
 rcases h1:altOf atom s with _|x
 ·simp[h1] at h
 ·rw[h1] at h
  simp only at h
  rcases h2:skipT 41 x.2 with _|r
  ·simp[h2] at h
  ·rw[h2] at h
   have e:=zaS h2
   simp at h
   subst h
   obtain⟨h3,h4⟩:=zdC hd s x h1
   rw[e] at h3 h4
   simp at h3 h4
   exact⟨by simp;omega,by simp;omega⟩
theorem zeh {group:PSt->Option PSt}(hd:Dec group):Dec (atomOf group):=by
 intro s s' h
 unfold atomOf at h
 rcases h1:skipT 46 s.2 with _|r
 ·rw[h1] at h
  simp only at h
  rcases h2:skipT 126 s.2 with _|r
  ·rw[h2] at h
   simp only at h
   rcases h3:skipT 40 s.2 with _|r
   ·rw[h3] at h
    simp only at h
    rcases h4:skipT 91 s.2 with _|r
    ·rw[h4] at h
     simp only at h
     rcases h5:prRead outS s.2 with _|⟨c,r⟩
     ·simp[h5] at h
     ·rw[h5] at h
      have:=zcf h5
      simp at h
      subst h
      exact⟨by simp;omega,by simp;omega⟩
    ·rw[h4] at h
     have e:=zaS h4
     simp only at h
     rcases h5:prSet r with _|⟨q,r1⟩
     ·simp[h5] at h
     ·rw[h5] at h
      have:=zjG h5
      simp at h
      subst h
      exact⟨by rw[e];simp;omega,by rw[e];simp;omega⟩
   ·rw[h3] at h
    have e:=zaS h3
    obtain⟨h4,h5⟩:=hd _ _ h
    simp at h4 h5
    exact⟨by rw[e];simp;omega,by rw[e];simp;omega⟩
  ·rw[h2] at h
   have e:=zaS h2
   simp at h
   subst h
   exact⟨by rw[e];simp,by rw[e];simp;omega⟩
 ·rw[h1] at h
  have e:=zaS h1
  simp at h
  subst h
  exact⟨by rw[e];simp,by rw[e];simp;omega⟩
theorem zbh (D:Nat):Dec (atomD D):=by
 induction D with
 | zero=>exact zeh (fun s s' h=>by simp at h)
 | succ D ih=>exact zeh (zgC ih)
end Go.Proofs.YtjehgdjlncofeaaGreat
