import Derived.Test.YtiijebameffenaaGreatZIAwk
import Derived.Test.YtiijebameffenaaGreatZQRChk
set_option linter.all false
set_option maxRecDepth 100000
namespace Go.Proofs.YtiijebameffenaaGreat
open Go.RowKit
theorem Lu{G:Gr}(h:mq G):UH G.R:=fun j hj=>⟨by have:=(h.rr j hj hj).2;unfold maxLen;omega,by have:=(h.rr j hj hj).1;omega⟩
theorem zq5(G:Gr)(w:World)(hA:G.At w)(hL:G.mE 9223372036854775807)(hc:G.R.length<=G.cR):Calls Tryz.prog 3 #[G.val] w (kX w):=
 zfp (fun i er=>∃v w',EW G.R v (.returned (.tuple #[.int .i64 i,.int .i64 er])) w') (fun i er=>G.R.length<=60/\∃v w',PU G.R v (.returned (.tuple #[.int .i64 i,.int .i64 er])) w') G w hA hL zho
  (fun h W k=>zd5 _ G W (hA.below k) (h.lim (by omega)) (fun W' k'=>(ze4 G.R.length G.cR G.aR G.R rfl (by have:=h.rl;omega) hc (Lu h) W' ((hA.below k).below k').r).mono (fun e w' hp=>by
   obtain⟨i,er,rfl⟩:∃i er:Int,e=.returned (.tuple #[.int .i64 i,.int .i64 er]):=by
    rcases hp.2 with ⟨_,rfl⟩|⟨_,_,_,_,_,_,rfl⟩|⟨_,_,rfl⟩
    all_goals exact⟨_,_,rfl⟩
   exact⟨i,er,rfl,⟨_,_,hp⟩,hp.1⟩)))
  (fun h W k=>zjL G W (hA.below k) (h.lim (by omega)))
  (fun h W k=>(zgY G.R.length G.cR G.aR G.R rfl (by have:=h.rl;omega) hc (Lu h) W (hA.below k).r).mono (fun e w' hp=>by
   obtain⟨i,er,rfl,hb,hq⟩:=hp
   exact⟨i,er,rfl,⟨by have:=h.rl;omega,_,_,⟨i,er,rfl,hb,hq⟩⟩,hb⟩))
  (fun i er i2 uY ⟨_,_,h1⟩ ⟨h6,_,_,h2⟩ hne=>by
   obtain⟨a,b,c,d,e1,e2,h3⟩:=zgZ h6 h1 h2
   simp at e1 e2
   obtain⟨rfl,rfl⟩:=e1
   obtain⟨rfl,rfl⟩:=e2
   exact h3 hne)
end Go.Proofs.YtiijebameffenaaGreat
namespace Go.Proofs.YtiijebameffenaaGreat.gramChecks
open Go.ChangeShapes Go.RowKit
theorem lifted(os:Os)(started:os.Started)(H:Type)(enc:TypeId × Value->H):
  ReturnsInHanded {} Tryz.checked os 3 .any (Rows.gramChecksSpec.pre6 enc Tryz.prog Tryz.f3 Rows.gramChecksRow.domain false) (Rows.gramChecksSpec.post enc Tryz.prog Tryz.f3 false true false false):=by
 refine returnsInHanded_of_change (C:=Tryz.checked) own started (by kernel_rfl) Tryz.func3
  (ChangeSpec.witness6 (enc:=enc) (C:=Tryz.checked) false ⟨#[],#[.agg #[.slice none 0 0,.slice none 0 0,.slice none 0 0,.slice none 0 0,.int .i64 0]],[]⟩ 8 (by kernel_rfl) (by kernel_rfl) (by kernel_rfl) (by kernel_rfl)) ?_
 intro W base args ds gs before C0 hW hcnd _;have BB:∀(j:Nat) t v,Tryz.f3.params[j]?=some t->args[j]?=some v->Value.okWide Tryz.prog W .any base t v:=C0;have hW':=hW;obtain⟨p,q,hA0,hV,rfl,hfz,kG⟩:=hW;have hA:DataW.TrodAll enc Tryz.prog W 0 (fun _=>true) true Tryz.f3.params.toList args.toList ds p:=hA0;rw[Tryz.params3] at hA BB;obtain⟨v0,vs0,d0,ds0,p0,q0,ZR,rfl,rfl,h0,r0⟩:=trodAll_cons hA;obtain⟨rfl,rfl,rfl⟩:=trodAll_nil r0;obtain rfl:args=#[v0]:=by cases args;simp_all
 obtain⟨rfl,rfl⟩:=trodVars_none hV;have k0:=h0;have lt0:∀x∈p0,x.block<W.heap.size:=by obtain⟨m,hm⟩:=k0;exact DataW.trod_lt m _ _ _ hm
 obtain⟨G0,rfl,Sr,C7,hg0⟩:=zft (BB 0 27 v0 rfl rfl) (by obtain⟨fuel,hf⟩:=h0;exact⟨fuel,_,hf⟩);have hM0:G0.mE 9223372036854775807:=C7.mono (by unfold maxLen;omega);clear hA0 C0;refine (zq5 G0 W Sr hM0 hg0.1).mono fun e W' ⟨he,bc⟩=>?_
 subst he;exact⟨_,rfl,_,_,_,[],_,[],hW',trodAll_mk1 (shut_bool Tryz.underlying4 _),(trodAll_cons_mk (Below.trod laidOut (by kernel_rfl) (of_decide_eq_true (by kernel_rfl)) k0 bc lt0) trodAll_mk0),rfl,bc.frame _,fun h=>by cases h⟩
theorem over:Rows.gramChecksRow.holds Tryz.pinned (OpenSpec.ofChange Rows.gramChecksSpec):=
 OpenClaim.holds_of_wide 3 Tryz.f3 rfl rfl rfl rfl rfl rfl rfl ⟨rfl,rfl,rfl,rfl,rfl⟩ rfl rfl rfl rfl rfl (by kernel_rfl) Tryz.func3 (by kernel_rfl)
  (of_decide_eq_true (by kernel_rfl)) (by unfold Func.isWrapper;first|(rw[if_pos (by decide +kernel)];kernel_rfl)|(rw[if_neg (by decide +kernel)];exact⟨rfl,rfl⟩))
  (fun os started H enc _=>lifted os started H enc)
theorem proved:Rows.GramChecksSaid:=over
end Go.Proofs.YtiijebameffenaaGreat.gramChecks
